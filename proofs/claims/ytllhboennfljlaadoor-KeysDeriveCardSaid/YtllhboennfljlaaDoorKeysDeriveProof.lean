/- Proved: the law KeysDerive (P7.2) answers true and leaves its arguments as they read before. For every secret and every name; no condition but the ties of the two tables of sha and of the table of keys to the program's text. -/
import Derived.Laws.ResultCell
import Derived.Deep.QuietTactic
import Derived.BigQuiet
import Derived.Test.YtllhboennfljlaaDoorRows
import Derived.LaidMore
import Derived.Deep.Strs
import Derived.Test.YtllhboennfljlaaDoorCards
import Derived.Test.YtllhboennfljlaaDoorTie
import Derived.WalkKit
import Derived.ProofKit
import Derived.OpenShut
import Derived.ShutString
import Derived.ChangeOld
import Derived.Below
import Derived.Stop.Joined
import Derived.SevenTiedAt
import Derived.Test.YtllhboennfljlaaDoorGK
import Derived.Test.YtllhboennfljlaaDoorGA
import Derived.Test.YtllhboennfljlaaDoorGS
import Derived.Test.YtllhboennfljlaaDoorGM
set_option linter.unusedVariables false
set_option linter.unusedSimpArgs false
/-
  Keys: the law KeysIds: contract. Own work.
-/
namespace Go.Proofs.YtllhboennfljlaaDoor
open Go.RowKit
/-- The bytes of a name; none, if it may not be. -/
def idB (a b c d e f : Int) : List Int := if okB a b c d e f = true then idP [a, b, c, d, e, f] 6 else []
theorem ret_nil (w w' : World) (h : Below w.heap.size w w') : RetBs [] w (.returned (.slice none 0 0)) w' := ⟨none, 0, 0, rfl, Bs.nil_, Nat.le_refl _, by simp [maxLen], h⟩
theorem bytes_all (a b c d e f : Int) (w : World) (hT : TabK w) : Calls Tryd.prog 12 #[.agg (vk .i64 [a, b, c, d, e, f]).toArray] w (RetBs (idB a b c d e f) w) := by
  unfold idB
  by_cases h : okB a b c d e f = true
  · rw [if_pos h]; exact bytes_yes a b c d e f w hT h
  · rw [if_neg h]
    refine (bytes_no a b c d e f w hT (by simpa using h)).mono ?_
    rintro en w' ⟨rfl, hb⟩
    exact ret_nil _ _ hb
theorem refBytes_all (a b c d e f : Int) (w : World) (ha : isI a) (hb : isI b) (hc : isI c) (hd : isI d) (he : isI e) (hf : isI f) : Calls Tryd.prog 13 #[.agg (vk .i64 [a, b, c, d, e, f]).toArray] w (RetBs (idB a b c d e f) w) := by
  unfold idB
  by_cases h : okB a b c d e f = true
  · rw [if_pos h]; exact refBytes_yes a b c d e f w ha hb hc hd he hf h
  · rw [if_neg h]
    refine (refBytes_no a b c d e f w ha hb hc hd he hf (by simpa using h)).mono ?_
    rintro en w' ⟨rfl, hb⟩
    exact ret_nil _ _ hb
def FId (X : List Int) (opn : Nat) (v : Value) (w : World) : Prop :=
  match opn with
  | 7 => SlF X v w
  | 9 => SlF X v w
  | _ => True
theorem FId_mono (X : List Int) : ∀ j v w w', FId X j v w → Below w.heap.size w w' → FId X j v w' := by
  intro j v w w' h hb
  unfold FId at h ⊢
  split at h
  · exact h.later hb
  · exact h.later hb
  · trivial

def SId (ns : List Int) (ok : Bool) (opn : Nat) (v : Value) : Prop :=
  match opn with
  | 0 | 2 | 6 | 8 => v = .agg (vk .i64 ns).toArray
  | 1 | 3 => v = .bool ok
  | 4 | 5 | 10 | 11 | 12 | 13 | 14 | 15 => v = .bool true
  | _ => True

set_option maxRecDepth 100000 in
set_option maxHeartbeats 1000000 in
theorem keysIds_any (a b c d e f : Int) (w : World) (hT : TabK w) (ha : isI a) (hb : isI b) (hc : isI c) (hd : isI d) (he : isI e) (hf : isI f) : Calls Tryd.prog 3 #[.agg (vk .i64 [a, b, c, d, e, f]).toArray] w fun e w' => e = .returned (.bool true) ∧ Below w.heap.size w w' := by
  have zId := hide (sizeId (xs := [a, b, c, d, e, f]) rfl)
  have hV := valid_any a b c d e f
  have hR := fun w => refValid_any a b c d e f w ha hb hc hd he hf
  have hB := bytes_all a b c d e f
  have hRB := fun w => refBytes_all a b c d e f w ha hb hc hd he hf
  generalize idB a b c d e f = X at *
  generalize okB a b c d e f = ok at *
  generalize [a, b, c, d, e, f] = ns at *
  clear ha hb hc hd he hf
  go_enter Tryd.func3, Tryd.ntmps3
  go_wp2_with (first
    | (with_reducible refine wl_box rfl 23 (.tmp 0) _ (vk .i64 ns) rfl rfl rfl ?_; intro g1 w1 r1 p1 l1 b1))
  rename_i K1 hK1
  have hT1 := hT.later b1
  clear hT
  have hT := hT1
  clear hT1
  refine wp_region_valsG [1, 3, 7, 9, 10, 13] (SId ns ok) (JF w1 [1, 3, 7, 9, 10, 13] (FId X)) (by kernel_rfl) (by kernel_rfl) (by kernel_rfl) (by kernel_rfl) (JF.start _) ?obs ?he
  case obs =>
    refine ⟨?_, ?_, ?_, ?_, ?_, ?_, ?_, ?_, ?_, ?_, ?_, ?_, ?_, ?_, ?_, ?_, trivial⟩
    · refine ⟨.inl rfl, ?_⟩
      exact .inl ⟨by kernel_rfl, fun L a1 w1 n h => ⟨_, rfl, run_loadRow 23 (.tmp 1) g1 23 _ _ rfl (h.var n 1 (by kernel_rfl)) (r1.later h.inv.1) Tryd.underlying23 rfl (zId.out)⟩⟩
    · refine ⟨.inl rfl, ?_⟩
      refine .inr fun L a1 w1 n h K hK => ?_
      have e0 : a1.eval (.tmp 3) = .agg (vk .i64 ns).toArray := h.dep n 0 3 (by kernel_rfl) rfl
      refine JF.call (FId_mono X) h hK 4 rfl 9 _ _ #[.agg (vk .i64 ns).toArray] rfl Tryd.call9 ?_ (hV w1 (hT.later h.inv.1)) ?_
      · simp only [List.map_toArray, List.map_cons, List.map_nil, e0]
      · rintro e w3 ⟨rfl, b9⟩
        exact ⟨_, rfl, rfl, trivial, b9⟩
    · refine ⟨.inl rfl, ?_⟩
      exact .inl ⟨by kernel_rfl, fun L a1 w1 n h => ⟨_, rfl, run_loadRow 23 (.tmp 1) g1 23 _ _ rfl (h.var n 1 (by kernel_rfl)) (r1.later h.inv.1) Tryd.underlying23 rfl (zId.out)⟩⟩
    · refine ⟨.inl rfl, ?_⟩
      refine .inr fun L a1 w1 n h K hK => ?_
      have e0 : a1.eval (.tmp 5) = .agg (vk .i64 ns).toArray := h.dep n 2 5 (by kernel_rfl) rfl
      refine JF.call (FId_mono X) h hK 6 rfl 10 _ _ #[.agg (vk .i64 ns).toArray] rfl Tryd.call10 ?_ (hR w1) ?_
      · simp only [List.map_toArray, List.map_cons, List.map_nil, e0]
      · rintro e w3 ⟨rfl, b9⟩
        exact ⟨_, rfl, rfl, trivial, b9⟩
    · refine ⟨.inl rfl, ?_⟩
      refine .inl ⟨by kernel_rfl, fun L a1 w1 n h => ⟨.bool true, rfl, ?_⟩⟩
      have e0 : a1.eval (.tmp 4) = _ := h.dep n 1 4 (by kernel_rfl) rfl
      have e1 : a1.eval (.tmp 6) = _ := h.dep n 3 6 (by kernel_rfl) rfl
      unfold execOp
      simp only [e0, e1]
      go_simp
    · refine ⟨.inl rfl, ?_⟩
      exact .inl ⟨by kernel_rfl, fun L a1 w1 n h => ⟨_, rfl, run_move (.tmp 7) rfl (h.dep n 4 7 (by kernel_rfl) rfl)⟩⟩
    · refine ⟨.inr ⟨5, true, 8, rfl, by kernel_rfl, rfl, by simp, fun v h => h⟩, ?_⟩
      exact .inl ⟨by kernel_rfl, fun L a1 w1 n h => ⟨_, rfl, run_loadRow 23 (.tmp 1) g1 23 _ _ rfl (h.var n 1 (by kernel_rfl)) (r1.later h.inv.1) Tryd.underlying23 rfl (zId.out)⟩⟩
    · refine ⟨.inr ⟨5, true, 8, rfl, by kernel_rfl, rfl, by simp, fun v h => h⟩, ?_⟩
      refine .inr fun L a1 w1 n h K hK => ?_
      have e0 : a1.eval (.tmp 9) = .agg (vk .i64 ns).toArray := h.dep n 6 9 (by kernel_rfl) rfl
      refine JF.call (FId_mono X) h hK 10 rfl 12 _ _ #[.agg (vk .i64 ns).toArray] rfl Tryd.call12 ?_ (hB w1 (hT.later h.inv.1)) ?_
      · simp only [List.map_toArray, List.map_cons, List.map_nil, e0]
      · rintro e w3 h9
        obtain ⟨v9, rfl, f9, b9⟩ := SlF.of_ret h9
        exact ⟨_, rfl, trivial, f9, b9⟩
    · refine ⟨.inr ⟨5, true, 8, rfl, by kernel_rfl, rfl, by simp, fun v h => h⟩, ?_⟩
      exact .inl ⟨by kernel_rfl, fun L a1 w1 n h => ⟨_, rfl, run_loadRow 23 (.tmp 1) g1 23 _ _ rfl (h.var n 1 (by kernel_rfl)) (r1.later h.inv.1) Tryd.underlying23 rfl (zId.out)⟩⟩
    · refine ⟨.inr ⟨5, true, 8, rfl, by kernel_rfl, rfl, by simp, fun v h => h⟩, ?_⟩
      refine .inr fun L a1 w1 n h K hK => ?_
      have e0 : a1.eval (.tmp 11) = .agg (vk .i64 ns).toArray := h.dep n 8 11 (by kernel_rfl) rfl
      refine JF.call (FId_mono X) h hK 12 rfl 13 _ _ #[.agg (vk .i64 ns).toArray] rfl Tryd.call13 ?_ (hRB w1) ?_
      · simp only [List.map_toArray, List.map_cons, List.map_nil, e0]
      · rintro e w3 h9
        obtain ⟨v9, rfl, f9, b9⟩ := SlF.of_ret h9
        exact ⟨_, rfl, trivial, f9, b9⟩
    · refine ⟨.inr ⟨5, true, 8, rfl, by kernel_rfl, rfl, by simp, fun v h => h⟩, ?_⟩
      refine .inr fun L a1 w1 n h K hK => ?_
      obtain ⟨A1, c1, v1, q1, _, _⟩ := JF.get h n 7 10 (by kernel_rfl) (by kernel_rfl) rfl
      obtain ⟨A2, c2, v2, q2, _, _⟩ := JF.get h n 9 12 (by kernel_rfl) (by kernel_rfl) rfl
      have e0 : a1.eval (.tmp 10) = .slice A1 X.length c1 := v1
      have e1 : a1.eval (.tmp 12) = .slice A2 X.length c2 := v2
      refine JF.call (FId_mono X) h hK 13 rfl 11 _ _ #[.slice A1 X.length c1, .slice A2 X.length c2] rfl Tryd.call11 ?_ (equal_same A1 A2 _ _ c1 c2 X w1 q1 q2) ?_
      · simp only [List.map_toArray, List.map_cons, List.map_nil, e0, e1]
      · rintro e w3 ⟨rfl, b9⟩
        exact ⟨_, rfl, rfl, trivial, b9⟩
    · refine ⟨.inl rfl, ?_⟩
      exact .inl ⟨by kernel_rfl, fun L a1 w1 n h => ⟨_, rfl, run_pickT (.tmp 8) _ _ rfl (h.dep n 5 8 (by kernel_rfl) rfl) (h.dep n 10 13 (by kernel_rfl) rfl)⟩⟩
    · refine ⟨.inl rfl, ?_⟩
      exact .inl ⟨by kernel_rfl, fun L a1 w1 n h => ⟨_, rfl, run_move (.tmp 14) rfl (h.dep n 11 14 (by kernel_rfl) rfl)⟩⟩
    · refine ⟨.inr ⟨12, true, 15, rfl, by kernel_rfl, rfl, by simp, fun v h => h⟩, ?_⟩
      refine .inr fun L a1 w1 n h K hK => ?_
      refine JF.call (FId_mono X) h hK 16 rfl 14 _ _ #[] rfl Tryd.call14 ?_ (awake_any w1 (hT.later h.inv.1)) ?_
      · simp
      · rintro e w3 ⟨rfl, b9⟩
        exact ⟨_, rfl, rfl, trivial, b9⟩
    · refine ⟨.inl rfl, ?_⟩
      exact .inl ⟨by kernel_rfl, fun L a1 w1 n h => ⟨_, rfl, run_pickT (.tmp 15) _ _ rfl (h.dep n 12 15 (by kernel_rfl) rfl) (h.dep n 13 16 (by kernel_rfl) rfl)⟩⟩
    · refine ⟨.inl rfl, ?_⟩
      exact .inl ⟨by kernel_rfl, fun L a1 w1 n h => ⟨_, rfl, run_assign (.tmp 17) rfl (h.dep n 14 17 (by kernel_rfl) rfl)⟩⟩
  case he =>
    intro V w5 hV2 hJ
    have h15 : V 15 = .bool true := hV2 15 2 rfl
    have hB : Below w1.heap.size w1 w5 := hJ.1
    clear hV2 hJ
    simp only [putOps, List.setIfInBounds_toArray, List.set_cons_succ, List.set_cons_zero]
    refine hK1 _ _ ?_
    go_wp2
    go_ret
    exact ⟨congrArg Ending.returned h15, b1.trans (hB.mono b1.size)⟩
end Go.Proofs.YtllhboennfljlaaDoor

/-
  Keys: nonces: contracts. Own work.
-/
namespace Go.Proofs.YtllhboennfljlaaDoor
open Go.RowKit
theorem results_row_tmp {P : Program} {fn : Func} {p u : Tmp} {ty : TypeId} (h : fn.results = #[.cell p ty, .tmp u]) (tmps : Array Value) (w : World) (g : Nat) (t : TypeId) (cs : Array Value) (fr : Nat × Nat) (d : TypeDesc) (v : Value)
    (hp : tmps.getD p undef = .pointer (some ⟨g, 0, none⟩)) (hg : w.heap[g]? = some (.cells cs t fr))
    (hu : P.underlying ty = some d) (hd : (match d with | .struct _ | .array _ _ => true | _ => false) = true) (hi : (P.info? ty).map (·.size) = some cs.size) (hv : tmps.getD u undef = v) :
    (results fn tmps).run P w = .ok (.tuple #[.agg cs, v]) w := by
  rw [results_cell_tmp h, hp, hv]
  simp [asAddr, run_loadVar_row w g t ty cs fr d hg hu hd hi]
theorem lowB_inj {n : Nat} : ∀ {x y : Int}, 0 ≤ x → x < 256 ^ n → 0 ≤ y → y < 256 ^ n → lowB x n = lowB y n → x = y := by
  induction n with
  | zero => intro x y h1 h2 h3 h4 _; simp at h2 h4; omega
  | succ n ih =>
    intro x y h1 h2 h3 h4 h
    simp only [lowB, List.cons.injEq] at h
    rw [Int.pow_succ] at h2 h4
    have := ih (Int.ediv_nonneg h1 (by decide)) (by omega) (Int.ediv_nonneg h3 (by decide)) (by omega) h.2
    omega
theorem highB_inj {x y : Int} (h1 : 0 ≤ x) (h2 : x ≤ 1099511627776) (h3 : 0 ≤ y) (h4 : y ≤ 1099511627776) (h : highB x 8 = highB y 8) : x = y := by
  have e : (256 : Int) ^ 8 = 18446744073709551616 := by decide
  exact lowB_inj (n := 8) h1 (by rw [e]; omega) h3 (by rw [e]; omega) (List.reverse_inj.1 h)
/-- The nonce of a number. -/
def nonL (x : Int) : List Int := List.replicate 4 0 ++ highB (max x 0) 8
theorem nonL_len (x : Int) : (nonL x).length = 12 := by unfold nonL; rw [List.length_append, highB_length]; rfl
theorem nonL_inj {x y : Int} (h1 : 0 ≤ x ∧ x ≤ 1099511627776) (h2 : 0 ≤ y ∧ y ≤ 1099511627776) : nonL x = nonL y ↔ x = y := by
  refine ⟨fun h => ?_, fun h => by rw [h]⟩
  unfold nonL at h
  have := List.append_cancel_left h
  rw [Int.max_eq_left h1.1, Int.max_eq_left h2.1] at this
  exact highB_inj h1.1 h1.2 h2.1 h2.2 this
def zs12 : List Int := List.replicate 12 0
theorem zero12 : (Tryd.prog.info? 37).map (fun i => i.zero) = some (some (.agg (bv zs12).toArray)) := by kernel_rfl
theorem size12b {xs : List Int} (h : xs.length = 12) : (Tryd.prog.info? 37).map (·.size) = some (bv xs).length := by rw [bv_len, h]; kernel_rfl
set_option maxRecDepth 100000 in
set_option maxHeartbeats 1000000 in
theorem nonce_lo (x : Int) (w : World) (hi : isI x) (hx : x < 0) : Calls Tryd.prog 19 #[.int .i64 x] w fun e w' => e = .returned (.tuple #[.agg (bv zs12).toArray, .bool false]) ∧ Below w.heap.size w w' := by
  have zz := zero12
  have zf := hide (size12b (xs := zs12) (by decide))
  have hd : decide (x < 0) = true := by simp; omega
  skip
  generalize zs12 = Z at *
  go_enter Tryd.func19, Tryd.ntmps19
  go_wp2_with (first
    | (with_reducible refine wl_alloc (o := ⟨some 2, _, _, _, _, _⟩) rfl 37 _ (bv Z) rfl zz rfl ?_; intro g2 w2 r2 p2 l2 b2)
    | (with_reducible refine wl_alloc (o := ⟨some 4, _, _, _, _, _⟩) rfl 37 _ (bv Z) rfl zz rfl ?_; intro g4 w4 r4 p4 l4 b4; have r2a := r2.later b4)
    | (with_reducible refine wl_load_row rfl 37 (.tmp 4) g4 37 (bv Z) _ rfl rfl r4 Tryd.underlying37 rfl zf.out ?_)
    | (with_reducible refine wl_store_row rfl 37 (.tmp 2) (.tmp 12) g2 37 _ (bv Z) rfl rfl rfl r2a zf.out rfl (bv_one _) ?_; intro w5 r5 o5))
  refine bodyPost_ret (v := .tuple #[.agg (bv Z).toArray, .bool false]) ?_ rfl ⟨rfl, ?_⟩
  · exact results_row_tmp Tryd.results19 _ _ g2 37 _ (0, 0) _ _ rfl r5 Tryd.underlying37 rfl zf.out rfl
  · exact (b2.trans (b4.mono b2.size)).trans (o5.below p2)
set_option maxRecDepth 100000 in
set_option maxHeartbeats 1000000 in
theorem nonce_hi (x : Int) (w : World) (hi : isI x) (hx : 1099511627776 < x) : Calls Tryd.prog 19 #[.int .i64 x] w fun e w' => e = .returned (.tuple #[.agg (bv zs12).toArray, .bool false]) ∧ Below w.heap.size w w' := by
  have zz := zero12
  have zf := hide (size12b (xs := zs12) (by decide))
  have hd : decide (x < 0) = false := by simp; omega
  have hd2 : decide (1099511627776 < x) = true := by simp; omega
  generalize zs12 = Z at *
  go_enter Tryd.func19, Tryd.ntmps19
  go_wp2_with (first
    | (with_reducible refine wl_alloc (o := ⟨some 2, _, _, _, _, _⟩) rfl 37 _ (bv Z) rfl zz rfl ?_; intro g2 w2 r2 p2 l2 b2)
    | (with_reducible refine wl_alloc (o := ⟨some 4, _, _, _, _, _⟩) rfl 37 _ (bv Z) rfl zz rfl ?_; intro g4 w4 r4 p4 l4 b4; have r2a := r2.later b4)
    | (with_reducible refine wl_load_row rfl 37 (.tmp 4) g4 37 (bv Z) _ rfl rfl r4 Tryd.underlying37 rfl zf.out ?_)
    | (with_reducible refine wl_store_row rfl 37 (.tmp 2) (.tmp 12) g2 37 _ (bv Z) rfl rfl rfl r2a zf.out rfl (bv_one _) ?_; intro w5 r5 o5))
  refine bodyPost_ret (v := .tuple #[.agg (bv Z).toArray, .bool false]) ?_ rfl ⟨rfl, ?_⟩
  · exact results_row_tmp Tryd.results19 _ _ g2 37 _ (0, 0) _ _ rfl r5 Tryd.underlying37 rfl zf.out rfl
  · exact (b2.trans (b4.mono b2.size)).trans (o5.below p2)
set_option maxRecDepth 100000 in
set_option maxHeartbeats 1000000 in
theorem refNonce_no (x : Int) (w : World) (hi : isI x) (hx : ¬ (0 ≤ x ∧ x ≤ 1099511627776)) : Calls Tryd.prog 20 #[.int .i64 x] w fun e w' => e = .returned (.tuple #[.agg (bv zs12).toArray, .bool false]) ∧ Below w.heap.size w w' := by
  have zz := zero12
  have zf := hide (size12b (xs := zs12) (by decide))
  skip
  skip
  generalize zs12 = Z at *
  go_enter Tryd.func20, Tryd.ntmps20
  go_wp2_with (first
    | (with_reducible refine wl_alloc (o := ⟨some 2, _, _, _, _, _⟩) rfl 37 _ (bv Z) rfl zz rfl ?_; intro g2 w2 r2 p2 l2 b2)
    | (with_reducible refine wl_alloc (o := ⟨some 4, _, _, _, _, _⟩) rfl 37 _ (bv Z) rfl zz rfl ?_; intro g4 w4 r4 p4 l4 b4; have r2a := r2.later b4)
    | (with_reducible refine wl_load_row rfl 37 (.tmp 4) g4 37 (bv Z) _ rfl rfl r4 Tryd.underlying37 rfl zf.out ?_)
    | (with_reducible refine wl_store_row rfl 37 (.tmp 2) (.tmp 10) g2 37 _ (bv Z) rfl rfl rfl r2a zf.out rfl (bv_one _) ?_; intro w5 r5 o5))
  refine (in_f x w4 hi hx).mono ?_
  rintro e w' ⟨rfl, rfl⟩
  go_wp2_with (first
    | (with_reducible refine wl_load_row rfl 37 (.tmp 4) g4 37 (bv Z) _ rfl rfl r4 Tryd.underlying37 rfl zf.out ?_)
    | (with_reducible refine wl_store_row rfl 37 (.tmp 2) (.tmp 10) g2 37 _ (bv Z) rfl rfl rfl r2a zf.out rfl (bv_one _) ?_; intro w5 r5 o5))
  refine bodyPost_ret (v := .tuple #[.agg (bv Z).toArray, .bool false]) ?_ rfl ⟨rfl, ?_⟩
  · exact results_row_tmp Tryd.results20 _ _ g2 37 _ (0, 0) _ _ rfl r5 Tryd.underlying37 rfl zf.out rfl
  · exact (b2.trans (b4.mono b2.size)).trans (o5.below p2)

set_option maxRecDepth 100000 in
set_option maxHeartbeats 1000000 in
theorem nonce_yes (x : Int) (w : World) (hi : isI x) (hx : 0 ≤ x ∧ x ≤ 1099511627776) : Calls Tryd.prog 19 #[.int .i64 x] w fun e w' => e = .returned (.tuple #[.agg (bv (nonL x)).toArray, .bool true]) ∧ Below w.heap.size w w' := by
  have zz := zero12
  have zf := hide (size12b (nonL_len x))
  have lf := hide (show (bv zs12).length = (bv (nonL x)).length by rw [bv_len, bv_len, nonL_len]; rfl)
  have hd : decide (x < 0) = false := by simp; omega
  have hd2 : decide (1099511627776 < x) = false := by simp; omega
  have hP := fun w => putNum_any none 0 0 [] x w Bs.nil_ (by decide) hi.1 hi.2
  rw [List.nil_append] at hP
  have hHl := highB_length (max x 0) 8
  have hdef : nonL x = zs12.take 4 ++ highB (max x 0) 8 ++ zs12.drop (4 + 8) := by unfold nonL zs12; simp
  have HD := hide hdef
  have hz12 := hide (show zs12.length = 12 by decide)
  clear hdef
  generalize nonL x = FS at *
  generalize highB (max x 0) 8 = X at *
  generalize zs12 = Z at *
  go_enter Tryd.func19, Tryd.ntmps19
  go_wp2_with (first
    | (with_reducible refine wl_alloc (o := ⟨some 2, _, _, _, _, _⟩) rfl 37 _ (bv Z) rfl zz rfl ?_; intro g2 w2 r2 p2 l2 b2)
    | (with_reducible refine wl_alloc (o := ⟨some 4, _, _, _, _, _⟩) rfl 37 _ (bv Z) rfl zz rfl ?_; intro g4 w4 r4 p4 l4 b4; have r2a := r2.later b4))
  have B4 := b2.trans (b4.mono b2.size)
  refine (hP w4).mono ?_
  rintro e w5 ⟨A, n, c, rfl, h5, hn, hc, b5⟩
  have hn8 : n = 8 := by rw [← h5.1]; exact hHl
  subst hn8
  have B5 := B4.trans (b5.mono B4.size)
  have q4 : w.heap.size ≤ g4 := Nat.le_trans b2.size p4
  have r2b := r2a.later b5
  have r4b := r4.later b5
  have h24 : g2 ≠ g4 := by have := r2.lt; omega
  have hS := fun w => run_sliceArr (P := Tryd.prog) w 37 12 5 Tryd.underlying37 Tryd.sizeOf5 .i64 g4 4 (by decide)
  have h4lt : g4 < w5.heap.size := r4b.lt
  clear r2 r2a r4 b5 hP hHl
  have hlt24 : g2 < g4 := by have := b2.size; omega
  go_wp2_with (first
    | (refine wpList_copy_bs rfl (.tmp 18) (.tmp 19) _ _ rfl 5 Tryd.underlying26 u8_size g4 4 _ _ 8 c A rfl rfl Z X 37 w5.heap.size (Row.toOwn r4b) h5 (by decide) (by rw [hz12.out]; decide) g4 w5 (Below.refl _ _) (Nat.le_refl _) ?_; intro w6 r6 b6; have r6' : Row w6 37 g4 (bv FS) := (by rw [HD.out]; exact r6); have r2c := r2b.below b6 hlt24)
    | (with_reducible refine wl_load_row rfl 37 (.tmp 4) g4 37 (bv FS) _ rfl rfl r6' Tryd.underlying37 rfl zf.out ?_)
    | (with_reducible refine wl_store_row rfl 37 (.tmp 2) (.tmp 21) g2 37 _ (bv FS) rfl rfl rfl r2c zf.out lf.out (bv_one _) ?_; intro w7 r7 o7))
  refine bodyPost_ret (v := .tuple #[.agg (bv FS).toArray, .bool true]) ?_ rfl ⟨rfl, ?_⟩
  · exact results_row_tmp Tryd.results19 _ _ g2 37 _ (0, 0) _ _ rfl r7 Tryd.underlying37 rfl zf.out rfl
  · exact (B5.trans (b6.mono q4)).trans (o7.below p2)
/-- Bytes that a call made in new memory. -/
def RetFn (out : List Int) (w : World) (e : Ending) (w' : World) : Prop :=
  ∃ A n c, e = .returned (.slice A n c) ∧ Bs w' w'.heap.size A n out ∧ n ≤ c ∧ Below w.heap.size w w' ∧ ∀ x, A = some x → w.heap.size ≤ x.block
set_option maxRecDepth 100000 in
theorem refPut64_fn (x : Int) (w : World) (h0 : 0 ≤ x) (h1 : x < 2 ^ 64) : Calls Tryd.prog 39 #[.slice none 0 0, .int .u64 x] w (RetFn (highB x 8) w) := by
  go_enter Tryd.func39, Tryd.ntmps39
  go_wp2_with fail
  refine (high_any x 8 w h0 (by omega) (by omega)).mono ?_
  rintro e w1 ⟨A1, n1, c1, rfl, hb1, hn1, hc1, hl1⟩
  have hlen : n1 ≤ 8 := by have := hb1.1; rw [highB_length] at this; omega
  go_wp2_with fail
  refine (both_own none A1 0 n1 0 c1 [] (highB x 8) w1 Bs.nil_ hb1 (by omega)).mono ?_
  rintro e w2 ⟨v, rfl, ho, hb⟩
  rw [List.nil_append] at ho
  obtain ⟨A, c, rfl, q1, q2, q3⟩ := ownsRow_bs ho
  go_wp2_with fail
  go_ret
  rw [Nat.zero_add] at q1 q2
  refine ⟨A, _, c, rfl, q1, q2, hl1.trans (hb.mono hl1.size), fun y hy => ?_⟩
  subst hy
  exact Nat.le_trans hl1.size (ho.lt y.block rfl).1
set_option maxRecDepth 100000 in
theorem refPutNum_fn (x : Int) (w : World) (hi : isI x) (hx : 0 ≤ x) : Calls Tryd.prog 26 #[.slice none 0 0, .int .i64 x] w (RetFn (highB (max x 0) 8) w) := by
  obtain ⟨h0, h1⟩ := hi
  rw [Int.max_eq_left hx]
  go_enter Tryd.func26, Tryd.ntmps26
  go_wp2_with fail
  refine (refPut64_fn x w hx (by omega)).mono ?_
  rintro e w1 ⟨A1, n1, c1, rfl, h⟩
  have H := hide h
  clear h
  go_wp2_with fail
  go_ret
  exact ⟨A1, n1, c1, rfl, H.out⟩
set_option maxRecDepth 100000 in
set_option maxHeartbeats 2000000 in
theorem refNonce_yes (x : Int) (w : World) (hi : isI x) (hx : 0 ≤ x ∧ x ≤ 1099511627776) : Calls Tryd.prog 20 #[.int .i64 x] w fun e w' => e = .returned (.tuple #[.agg (bv (nonL x)).toArray, .bool true]) ∧ Below w.heap.size w w' := by
  have zz := zero12
  have zf := hide (size12b (nonL_len x))
  have lf := hide (show (bv zs12).length = (bv (nonL x)).length by rw [bv_len, bv_len, nonL_len]; rfl)
  have hP := fun w => refPutNum_fn x w hi hx.1
  have hIn := fun w => in_t x w hi hx
  have hHl := highB_length (max x 0) 8
  have hdef : ∀ i, i ≤ 8 → (List.replicate 4 0 ++ ((highB (max x 0) 8).take i ++ List.replicate (8 - i) 0)).length = 12 := by intro i h; simp [highB_length]; omega
  have hset : ∀ i, i < 8 → (List.replicate 4 0 ++ ((highB (max x 0) 8).take i ++ List.replicate (8 - i) 0)).set (4 + i) ((highB (max x 0) 8).getD i 0) = List.replicate 4 0 ++ ((highB (max x 0) 8).take (i + 1) ++ List.replicate (8 - (i + 1)) 0) := by
    intro i h
    rw [List.set_append_right _ _ (by simp), List.length_replicate, show 4 + i - 4 = i by omega]
    congr 1
    rw [List.set_append_right _ _ (by simp only [List.length_take]; omega), List.length_take, hHl, Nat.min_eq_left (by omega), Nat.sub_self, show 8 - i = (8 - (i + 1)) + 1 by omega, List.replicate_succ, List.set_cons_zero, List.take_succ_eq_append_getElem (by rw [hHl]; exact h), List.append_assoc]
    simp [List.getD, List.getElem?_eq_getElem (show i < (highB (max x 0) 8).length by rw [hHl]; exact h)]
  have h0 : zs12 = List.replicate 4 0 ++ ((highB (max x 0) 8).take 0 ++ List.replicate (8 - 0) 0) := by simp [zs12]
  have h8 : List.replicate 4 0 ++ ((highB (max x 0) 8).take 8 ++ List.replicate (8 - 8) 0) = nonL x := by unfold nonL; rw [List.take_of_length_le (by rw [hHl]; exact Nat.le_refl _)]; simp
  have HLen := hide hdef; have HSet := hide hset; have H0 := hide h0; have H8 := hide h8
  clear hdef hset h0 h8
  generalize nonL x = FS at *
  generalize highB (max x 0) 8 = X at *
  generalize zs12 = Z at *
  go_enter Tryd.func20, Tryd.ntmps20
  go_wp2_with (first
    | (with_reducible refine wl_alloc (o := ⟨some 2, _, _, _, _, _⟩) rfl 37 _ (bv Z) rfl zz rfl ?_; intro g2 w2 r2 p2 l2 b2)
    | (with_reducible refine wl_alloc (o := ⟨some 4, _, _, _, _, _⟩) rfl 37 _ (bv Z) rfl zz rfl ?_; intro g4 w4 r4 p4 l4 b4; have r2a := r2.later b4))
  have B4 := b2.trans (b4.mono b2.size)
  refine (hIn w4).mono ?_
  rintro e w' ⟨rfl, rfl⟩
  go_wp2_with fail
  refine (hP w4).mono ?_
  rintro e w5 ⟨A, n, c, rfl, h5, hn, b5, hfr⟩
  have hn8 : n = 8 := by rw [← h5.1]; exact hHl
  subst hn8
  have B5 := B4.trans (b5.mono B4.size)
  have q4 : w.heap.size ≤ g4 := Nat.le_trans b2.size p4
  have r2b := r2a.later b5
  have r4b := r4.later b5
  have h24 : g2 ≠ g4 := by have := r2.lt; omega
  have ho : Off g4 8 A := fun _ y hy => by have := hfr y hy; have := r4.lt; omega
  rw [H0.out] at r4b
  have hXl := hide hHl
  clear r2 r2a r4 b5 hP hHl hIn hfr
  go_wp2_with fail
  go_loopw [6] (fun iv wr => ∃ i : Nat, i ≤ 8 ∧ iv = .int .i64 i ∧ Row wr 37 g4 (bv (List.replicate 4 0 ++ (X.take i ++ List.replicate (8 - i) 0))) ∧ Row wr 37 g2 (bv Z) ∧ But g4 w5 wr) (fun iv _ => 8 - (intOf iv).toNat)
  case atStart => exact ⟨0, Nat.zero_le _, rfl, r4b, r2b, But.refl _ _⟩
  case round =>
    clear r4b r2b
    obtain ⟨i, hi, rfl, r4, r2, br⟩ := hrel
    have hbs := h5.keepOff br ho (Nat.le_refl _)
    by_cases hlt : i < 8
    · obtain ⟨b, o, rfl, hb, hcs⟩ := hbs.2 (by decide)
      have c1 := hcs i hlt
      have hset := HSet.out i hlt
      have hlen := HLen.out i hi
      have HS := hide hset
      have HL := hide (show 4 + i < (bv (List.replicate 4 0 ++ (X.take i ++ List.replicate (8 - i) 0))).length by rw [bv_len, hlen]; omega)
      clear hset hlen hcs
      generalize X.getD i 0 = y at *
      generalize hcur : List.replicate 4 0 ++ (X.take i ++ List.replicate (8 - i) 0) = cur at *
      clear hcur
      go_wp2_with (first
        | (with_reducible refine wl_store rfl 5 (.tmp 23) (.tmp 22) g4 (4 + i) 37 _ (.int .u8 y) rfl (by kernel_rfl) rfl rfl r4 HL.out rfl ?_; intro w7 r7 o7; rw [bv_set, HS.out] at r7))
      go_roundw
      case rel => exact ⟨i + 1, by omega, by go_num, r7, r2.only o7 h24, br.trans (But.only o7)⟩
      case measure => simp [intOf]; omega
    · have h8 : i = 8 := by omega
      subst h8
      rw [H8.out] at r4
      have B6 := B5.trans (br.below q4 B5.size)
      clear hbs hlt hi
      go_wp2_with (first
        | (with_reducible refine wl_load_row rfl 37 (.tmp 4) g4 37 (bv FS) _ rfl rfl r4 Tryd.underlying37 rfl zf.out ?_)
        | (with_reducible refine wl_store_row rfl 37 (.tmp 2) (.tmp 24) g2 37 _ (bv FS) rfl rfl rfl r2 zf.out lf.out (bv_one _) ?_; intro w7 r7 o7))
      refine bodyPost_ret (v := .tuple #[.agg (bv FS).toArray, .bool true]) ?_ rfl ⟨rfl, ?_⟩
      · exact results_row_tmp Tryd.results20 _ _ g2 37 _ (0, 0) _ _ rfl r7 Tryd.underlying37 rfl zf.out rfl
      · exact B6.trans (o7.below p2)
end Go.Proofs.YtllhboennfljlaaDoor

/-
  Keys: names read back, as lists. Own work.
-/
namespace Go.Proofs.YtllhboennfljlaaDoor
open Go.RowKit
theorem highB_succ (x : Int) (n : Nat) : highB x (n + 1) = highB (x / 256) n ++ [x % 256] := by simp [highB, lowB]
theorem beV_high {n : Nat} : ∀ {x : Int}, 0 ≤ x → x < 256 ^ n → beV (highB x n) = x := by
  induction n with
  | zero => intro x h1 h2; simp at h2; have : x = 0 := by omega
            subst this; rfl
  | succ n ih =>
    intro x h1 h2
    rw [Int.pow_succ] at h2
    rw [highB_succ, beV_snoc, ih (Int.ediv_nonneg h1 (by decide)) (by omega)]
    omega
theorem high_beV {n : Nat} : ∀ {l : List Int}, l.length = n → IsBy l → highB (beV l) n = l := by
  induction n with
  | zero => intro l h _; rw [List.eq_nil_of_length_eq_zero h]; rfl
  | succ n ih =>
    intro l h hb
    rcases List.eq_nil_or_concat l with h0 | ⟨l', b, rfl⟩
    · rw [h0] at h; cases h
    · rw [List.concat_eq_append] at h hb ⊢
      have hl : l'.length = n := by simpa using h
      have hb' : IsBy l' := fun x hx => hb x (List.mem_append_left _ hx)
      have hbb := hb b (by simp)
      rw [beV_snoc, highB_succ, show (beV l' * 256 + b) / 256 = beV l' by omega, show (beV l' * 256 + b) % 256 = b by omega, ih hl hb']
def tkK (xs : List Int) (e : Int) : Int × List Int × Int := tkNum 1099511627776 xs e
theorem tkK_back {v : Int} (h0 : 0 ≤ v) (h1 : v ≤ 1099511627776) (ys : List Int) : tkK (highB v 8 ++ ys) 0 = (v, ys, 0) := by
  have hl := highB_length v 8
  have ht : tk 8 (highB v 8 ++ ys) 0 = (highB v 8, ys, 0) := by
    unfold tk
    rw [if_neg (by simp), if_neg (by rw [List.length_append, hl]; omega)]
    rw [List.take_left' hl, List.drop_left' hl]
  have hv : unum 8 (highB v 8 ++ ys) 0 = v := by
    unfold unum
    rw [ht]
    exact beV_high h0 (by have : (256 : Int) ^ 8 = 18446744073709551616 := by decide
                          omega)
  unfold tkK tkNum
  simp only [hv, ht]
  rw [if_neg (by omega)]
theorem tkK_stay {xs : List Int} {e : Int} (h : e ≠ 0) : (tkK xs e).2.2 ≠ 0 := by
  have ht : tk 8 xs e = ([], xs, e) := by unfold tk; rw [if_pos h]
  unfold tkK tkNum
  simp only [ht]
  split
  · simp [h]
  · exact h
theorem tkK_fore {xs : List Int} (hb : IsBy xs) (h : (tkK xs 0).2.2 = 0) : xs = highB (tkK xs 0).1 8 ++ (tkK xs 0).2.1 ∧ 0 ≤ (tkK xs 0).1 ∧ (tkK xs 0).1 ≤ 1099511627776 := by
  by_cases hl : xs.length < 8
  · have ht : tk 8 xs 0 = ([], [], 4) := by unfold tk; rw [if_neg (by simp), if_pos hl]
    exfalso
    unfold tkK tkNum at h
    simp only [ht] at h
    split at h
    · simp at h
    · simp at h
  · have ht : tk 8 xs 0 = (xs.take 8, xs.drop 8, 0) := by unfold tk; rw [if_neg (by simp), if_neg hl]
    have hv : unum 8 xs 0 = beV (xs.take 8) := by unfold unum; rw [ht]
    have hub := (unum_bound (n := 8) (e := 0) hb).1
    rw [hv] at hub
    unfold tkK tkNum at h ⊢
    simp only [ht, hv] at h ⊢
    by_cases hm : 1099511627776 < beV (xs.take 8)
    · rw [if_pos hm] at h; simp at h
    · rw [if_neg hm]
      refine ⟨?_, hub, by omega⟩
      simp only
      rw [high_beV (by rw [List.length_take]; omega) (hb.take 8), List.take_append_drop]
theorem tkK_by {xs : List Int} {e : Int} (hb : IsBy xs) : IsBy (tkK xs e).2.1 := by
  unfold tkK tkNum
  simp only
  split
  · exact fun _ h => by cases h
  · exact (tk_by (n := 8) (e := e) hb).2
theorem tkK_int {xs : List Int} {e : Int} (hb : IsBy xs) : 0 ≤ (tkK xs e).1 ∧ (tkK xs e).1 ≤ 1099511627776 := by
  have hub := (unum_bound (n := 8) (e := e) hb).1
  unfold tkK tkNum
  simp only
  split
  · exact ⟨Int.le_refl 0, (by decide : (0 : Int) ≤ 1099511627776)⟩
  · exact ⟨hub, by omega⟩
/-- What is left, and the fault, behind some numbers. -/
def rdR (xs : List Int) : Nat → List Int × Int
  | 0 => (xs, 0)
  | k + 1 => (tkK (rdR xs k).1 (rdR xs k).2).2
def rdV (xs : List Int) (k : Nat) : Int := (tkK (rdR xs k).1 (rdR xs k).2).1
theorem rdR_by {xs : List Int} (hb : IsBy xs) (k : Nat) : IsBy (rdR xs k).1 := by
  induction k with
  | zero => exact hb
  | succ k ih => exact tkK_by ih
theorem rdV_int {xs : List Int} (hb : IsBy xs) (k : Nat) : 0 ≤ rdV xs k ∧ rdV xs k ≤ 1099511627776 := tkK_int (rdR_by hb k)
def pre (xs : List Int) : Nat → List Int
  | 0 => []
  | k + 1 => pre xs k ++ highB (max (rdV xs k) 0) 8
theorem rd_fore {xs : List Int} (hb : IsBy xs) (k : Nat) (h : (rdR xs k).2 = 0) : xs = pre xs k ++ (rdR xs k).1 := by
  induction k with
  | zero => rfl
  | succ k ih =>
    have h1 : (rdR xs k).2 = 0 := by
      by_cases hz : (rdR xs k).2 = 0
      · exact hz
      · exact absurd h (tkK_stay hz)
    have h2 := ih h1
    have h3 : (tkK (rdR xs k).1 (rdR xs k).2).2.2 = 0 := h
    rw [h1] at h3
    have h4 := tkK_fore (rdR_by hb k) h3
    have hv : rdV xs k = (tkK (rdR xs k).1 0).1 := by unfold rdV; rw [h1]
    have hr : (rdR xs (k + 1)).1 = (tkK (rdR xs k).1 0).2.1 := by show (tkK (rdR xs k).1 (rdR xs k).2).2.1 = _; rw [h1]
    show xs = pre xs k ++ highB (max (rdV xs k) 0) 8 ++ (rdR xs (k + 1)).1
    rw [hv, hr, Int.max_eq_left h4.2.1, List.append_assoc, ← h4.1]
    exact h2
theorem rd_back {a b c d e f : Int} (h : okB a b c d e f = true) : (rdR (idP [a, b, c, d, e, f] 6) 6) = ([], 0) ∧ rdV (idP [a, b, c, d, e, f] 6) 0 = a ∧ rdV (idP [a, b, c, d, e, f] 6) 1 = b ∧ rdV (idP [a, b, c, d, e, f] 6) 2 = c ∧ rdV (idP [a, b, c, d, e, f] 6) 3 = d ∧ rdV (idP [a, b, c, d, e, f] 6) 4 = e ∧ rdV (idP [a, b, c, d, e, f] 6) 5 = f := by
  unfold okB at h
  simp only [decide_eq_true_eq] at h
  have hx : idP [a, b, c, d, e, f] 6 = highB a 8 ++ (highB b 8 ++ (highB c 8 ++ (highB d 8 ++ (highB e 8 ++ (highB f 8 ++ []))))) := by
    simp only [idP, List.getD_cons_zero, List.getD_cons_succ, List.nil_append, List.append_assoc, List.append_nil]
    rw [Int.max_eq_left (show 0 ≤ a by omega), Int.max_eq_left (show 0 ≤ b by omega), Int.max_eq_left (show 0 ≤ c by omega), Int.max_eq_left (show 0 ≤ d by omega), Int.max_eq_left (show 0 ≤ e by omega), Int.max_eq_left (show 0 ≤ f by omega)]
  rw [hx]
  have k0 := tkK_back (v := a) (by omega) (by omega) (highB b 8 ++ (highB c 8 ++ (highB d 8 ++ (highB e 8 ++ (highB f 8 ++ [])))))
  have k1 := tkK_back (v := b) (by omega) (by omega) (highB c 8 ++ (highB d 8 ++ (highB e 8 ++ (highB f 8 ++ []))))
  have k2 := tkK_back (v := c) (by omega) (by omega) (highB d 8 ++ (highB e 8 ++ (highB f 8 ++ [])))
  have k3 := tkK_back (v := d) (by omega) (by omega) (highB e 8 ++ (highB f 8 ++ []))
  have k4 := tkK_back (v := e) (by omega) (by omega) (highB f 8 ++ [])
  have k5 := tkK_back (v := f) (by omega) (by omega) []
  generalize highB a 8 = A at *
  generalize highB b 8 = B at *
  generalize highB c 8 = C at *
  generalize highB d 8 = D at *
  generalize highB e 8 = E at *
  generalize highB f 8 = F at *
  simp only [rdR, rdV, k0, k1, k2, k3, k4, k5]
  simp
end Go.Proofs.YtllhboennfljlaaDoor

/-
  Keys: names read back: contracts. Own work.
-/
namespace Go.Proofs.YtllhboennfljlaaDoor
open Go.RowKit
theorem numK_any {lo g : Nat} {xs : List Int} {e : Int} (w : World) (h : Rd w lo g xs e) (hx : IsBy xs) :
    Calls Tryd.prog 28 #[.pointer (some ⟨g, 0, none⟩), .int .i64 1099511627776] w fun en w' => en = .returned (.int .i64 (tkK xs e).1) ∧ Rd w' lo g (tkK xs e).2.1 (tkK xs e).2.2 ∧ w.grownBy w' (some g) :=
  num_any w h hx 1099511627776 (by decide) (by decide)
theorem Row.keptG {w w' : World} {t g r : Nat} {vs : List Value} (h : Row w t g vs) (hg : w.grownBy w' (some r)) (hne : g ≠ r) : Row w' t g vs := (hg.block g h.lt (by intro e; injection e with e; exact hne e)).trans h
theorem below_grown {w0 w w' : World} {r : Nat} (h : Below w0.heap.size w0 w) (hg : w.grownBy w' (some r)) (hr : w0.heap.size ≤ r) : Below w0.heap.size w0 w' :=
  h.grown hg h.size (fun k hk => by injection hk with hk; omega)
theorem grown_onlyK {g : Nat} {w w' : World} (h : Only g w w') : w.grownBy w' (some g) := ⟨h.os, h.tape, h.output, Nat.le_of_eq h.size.symm, fun k _ hk => h.block k (fun e => hk (by rw [e]))⟩
/-- What a name's bytes, or others, are read to. -/
def rdVs (xs : List Int) (k : Nat) : List Int := (List.range k).map (rdV xs)
theorem rdVs_len (xs : List Int) (k : Nat) : (rdVs xs k).length = k := by simp [rdVs]
theorem rdVs_succ (xs : List Int) (k : Nat) : rdVs xs (k + 1) = rdVs xs k ++ [rdV xs k] := by simp [rdVs, List.range_succ]
theorem fillK (L : List Int) (k n : Nat) (hL : L.length = k) (hk : k < n) (v : Int) : (L ++ List.replicate (n - k) 0).set k v = (L ++ [v]) ++ List.replicate (n - (k + 1)) 0 := by
  rw [List.set_append_right _ _ (by omega), hL, Nat.sub_self, show n - k = (n - (k + 1)) + 1 from by omega, List.replicate_succ, List.set_cons_zero]
  simp
/-- Whether bytes are a name's. -/
def isId (xs : List Int) : Bool := decide (endV (rdR xs 6).1 (rdR xs 6).2 = 0) && okB (rdV xs 0) (rdV xs 1) (rdV xs 2) (rdV xs 3) (rdV xs 4) (rdV xs 5)
def idOf (xs : List Int) : List Int := if isId xs = true then rdVs xs 6 else [0, 0, 0, 0, 0, 0]
theorem builtId0 : Tryd.prog.built 23 [] = some (vk .i64 [0, 0, 0, 0, 0, 0]).toArray := by kernel_rfl
set_option maxRecDepth 100000 in
set_option maxHeartbeats 2000000 in
theorem parse_any (xs : List Int) (A : Option Addr) (m c : Nat) (w : World) (hT : TabK w) (hx : Bs w w.heap.size A m xs) (hxb : IsBy xs) (hm : m ≤ 1000000) :
    Calls Tryd.prog 15 #[.slice A m c] w fun e w' => e = .returned (.tuple #[.agg (vk .i64 (idOf xs)).toArray, .bool (isId xs)]) ∧ Below w.heap.size w w' := by
  have hVs : rdVs xs 6 = [rdV xs 0, rdV xs 1, rdV xs 2, rdV xs 3, rdV xs 4, rdV xs 5] := rfl
  have hNam := fun w => named_any (rdV xs 0) (rdV xs 1) (rdV xs 2) (rdV xs 3) (rdV xs 4) (rdV xs 5) w
  have hVal := valid_any (rdV xs 0) (rdV xs 1) (rdV xs 2) (rdV xs 3) (rdV xs 4) (rdV xs 5)
  rw [← hVs] at hNam hVal
  obtain ⟨ok, hok⟩ : ∃ ok, ok = okB (rdV xs 0) (rdV xs 1) (rdV xs 2) (rdV xs 3) (rdV xs 4) (rdV xs 5) := ⟨_, rfl⟩
  rw [← hok] at hVal
  have hid : isId xs = (decide (endV (rdR xs 6).1 (rdR xs 6).2 = 0) && ok) := by rw [hok]; rfl
  have hof : idOf xs = if isId xs = true then rdVs xs 6 else [0, 0, 0, 0, 0, 0] := rfl
  have HID := hide hid; have HOF := hide hof
  have hl6 := rdVs_len xs 6
  have z6 := hide (size6i hl6)
  have zI := hide (sizeId hl6)
  have z0 := hide (sizeId (xs := [0, 0, 0, 0, 0, 0]) rfl)
  have l6 := hide (show (vk .i64 [0, 0, 0, 0, 0, 0]).length = (vk .i64 (rdVs xs 6)).length by rw [vk_len, vk_len, hl6]; rfl)
  have bI := builtId0
  clear hVs hok hid hof hl6
  generalize isId xs = is at *
  generalize hF : idOf xs = F at *
  clear hF
  go_enter Tryd.func15, Tryd.ntmps15
  go_wp2_with (first
    | (with_reducible refine wl_alloc (o := ⟨some 2, _, _, _, _, _⟩) rfl 23 _ (vk .i64 [0, 0, 0, 0, 0, 0]) rfl zeroId rfl ?_; intro g2 w2 r2 p2 l2 b2))
  refine (read_any A m c xs w2 (hx.later b2) hm).mono ?_
  rintro e w3 ⟨g, rfl, pg, lg, hr, b3⟩
  have B3 := b2.trans (b3.mono b2.size)
  have r2a := r2.later b3
  go_wp2_with (first
    | (with_reducible refine wl_alloc rfl 46 _ (vk .i64 [0, 0, 0, 0, 0, 0]) rfl zero6i rfl ?_; intro g5 w4 r5 p5 l5 b4))
  have B4 := B3.trans (b4.mono B3.size)
  have r2b := r2a.later b4
  have hr4 := hr.later b4
  have qg : w.heap.size ≤ g := Nat.le_trans b2.size pg
  have q5 : w.heap.size ≤ g5 := Nat.le_trans B3.size p5
  have h2g : g2 ≠ g := by have := r2.lt; omega
  have h5g : g5 ≠ g := by omega
  have hg5 : g < g5 := by have := lg; omega
  have h25 : g2 ≠ g5 := by have := r2a.lt; omega
  have r5' : Row w4 46 g5 (vk .i64 (rdVs xs 0 ++ List.replicate (6 - 0) 0)) := r5
  have hr4' : Rd w4 w2.heap.size g (rdR xs 0).1 (rdR xs 0).2 := hr4
  clear r2 r2a r5 hr hr4 b2 b3 b4 B3
  go_loopw [10] (fun iv wr => ∃ i : Nat, i ≤ 6 ∧ iv = .int .i64 i ∧ Row wr 46 g5 (vk .i64 (rdVs xs i ++ List.replicate (6 - i) 0)) ∧ Row wr 23 g2 (vk .i64 [0, 0, 0, 0, 0, 0]) ∧ Rd wr w2.heap.size g (rdR xs i).1 (rdR xs i).2 ∧ Below w.heap.size w wr) (fun iv _ => 6 - (intOf iv).toNat)
  case atStart => exact ⟨0, Nat.zero_le _, rfl, r5', r2b, hr4', B4⟩
  case round =>
    clear r5' r2b hr4' B4
    obtain ⟨i, hi, rfl, r5, r2, hr, br⟩ := hrel
    by_cases hlt : i < 6
    · have hN := numK_any wr hr (rdR_by hxb i)
      have hset := fillK (rdVs xs i) i 6 (rdVs_len xs i) hlt (rdV xs i)
      rw [← rdVs_succ] at hset
      have hll : i < (vk .i64 (rdVs xs i ++ List.replicate (6 - i) 0)).length := by rw [vk_len, List.length_append, rdVs_len, List.length_replicate]; omega
      have hv : (tkK (rdR xs i).1 (rdR xs i).2).1 = rdV xs i := rfl
      rw [hv] at hN
      have HS := hide hset; have HL := hide hll
      clear hset hll hv
      have hR1 : ∀ w', Rd w' w2.heap.size g (tkK (rdR xs i).1 (rdR xs i).2).2.1 (tkK (rdR xs i).1 (rdR xs i).2).2.2 → Rd w' w2.heap.size g (rdR xs (i + 1)).1 (rdR xs (i + 1)).2 := fun w' h => h
      generalize rdVs xs i ++ List.replicate (6 - i) 0 = cur at *
      generalize rdV xs i = v at *
      go_wp2_with fail
      refine hN.mono ?_
      rintro e w5 ⟨rfl, hr5, gr5⟩
      have hr6 := hR1 _ hr5
      have r5a := r5.keptG gr5 h5g
      have r2a := r2.keptG gr5 h2g
      have B5 := below_grown br gr5 qg
      clear r5 r2 hr hr5 gr5 hN hR1 br
      go_wp2_with (first
        | (with_reducible refine wl_store rfl 3 (.tmp 16) (.tmp 15) g5 i 46 _ (.int .i64 v) rfl (by kernel_rfl) rfl rfl r5a HL.out rfl ?_; intro w7 r7 o7; rw [vk_set, HS.out] at r7))
      go_roundw
      case rel => exact ⟨i + 1, by omega, by go_num, r7, r2a.only o7 h25, hr6.grown (grown_onlyK o7) (.inr hg5), B5.trans (o7.below q5)⟩
      case measure => simp [intOf]; omega
    · have h6 : i = 6 := by omega
      subst h6
      have r5' : Row wr 46 g5 (vk .i64 (rdVs xs 6)) := by
        rw [Nat.sub_self, List.replicate_zero, List.append_nil] at r5
        exact r5
      clear r5
      have hev : ∀ w, Rd w w2.heap.size g (rdR xs 6).1 (rdR xs 6).2 → Calls Tryd.prog 30 #[.pointer (some ⟨g, 0, none⟩)] w fun en w' => en = .returned (.int .i64 (endV (rdR xs 6).1 (rdR xs 6).2)) ∧ w = w' := fun w h => end_any w h
      generalize endV (rdR xs 6).1 (rdR xs 6).2 = ev at *
      generalize rdVs xs 6 = vs at *
      go_wp2_with (first
        | (with_reducible refine wl_load_row rfl 46 (.tmp 5) g5 46 (vk .i64 vs) _ rfl rfl r5' Tryd.underlying46 rfl z6.out ?_))
      refine (hNam _).mono ?_
      rintro e w8 ⟨rfl, b8⟩
      have B8 := br.trans (b8.mono br.size)
      have r2c := r2.later b8
      have hr8 := hr.later b8
      have b8g : g < w8.heap.size := by obtain ⟨A9, n9, c9, h0, h1, h2⟩ := hr8; exact h1.lt
      clear r5' r2 hr b8 br hNam
      go_wp2_with (first
        | (with_reducible refine wl_alloc rfl 23 _ (vk .i64 [0, 0, 0, 0, 0, 0]) rfl zeroId rfl ?_; intro g7 w9 r7 p7 l7 b9)
        | (with_reducible refine wl_store_row rfl 23 (.tmp 7) (.tmp 19) g7 23 _ (vk .i64 vs) rfl rfl rfl r7 zI.out l6.out (vk_one' _ _) ?_; intro w10 r10 o10))
      have B10 := (B8.trans (b9.mono B8.size)).trans (o10.below (Nat.le_trans B8.size p7))
      have h2g7 : g2 ≠ g7 := by have := r2c.lt; omega
      have hgg7 : g < g7 := by have := b8g; omega
      have r2d := (r2c.later b9).only o10 h2g7
      have hr10 := (hr8.later b9).grown (grown_onlyK o10) (.inr hgg7)
      have hT10 := hT.later B10
      have hV10 := hVal _ hT10
      have hE10 := hev _ hr10
      clear hT hT10 hVal hev B8 b9 o10 r7 r2c hr8 hr10
      refine hE10.mono ?_
      rintro e w11 ⟨rfl, rfl⟩
      have fin0 : ∀ w', Row w' 23 g2 (vk .i64 [0, 0, 0, 0, 0, 0]) → True := fun _ _ => trivial
      by_cases h0 : ev = 0
      · subst h0
        go_wp2_with (first
          | (with_reducible refine wg_load_row 3 false 23 rfl rfl rfl 23 (.tmp 7) g7 23 (vk .i64 vs) _ rfl rfl r10 Tryd.underlying23 rfl zI.out ?_))
        refine hV10.mono ?_
        rintro e w12 ⟨rfl, b12⟩
        have B12 := B10.trans (b12.mono B10.size)
        have r2e := r2d.later b12
        have r12 := r10.later b12
        clear r2d r10 hV10 hE10 b12 B10
        have q2 : w.heap.size ≤ g2 := p2
        cases ok
        · go_wp2_with (first
            | (with_reducible refine wl_store_row rfl 23 (.tmp 2) (.tmp 28) g2 23 _ (vk .i64 [0, 0, 0, 0, 0, 0]) rfl rfl rfl r2e z0.out rfl (vk_one' _ _) ?_; intro w13 r13 o13))
          have hf : is = false := by rw [HID.out]; rfl
          subst hf
          have hF : F = [0, 0, 0, 0, 0, 0] := by rw [HOF.out]; rfl
          subst hF
          refine bodyPost_ret (v := .tuple #[.agg (vk .i64 [0, 0, 0, 0, 0, 0]).toArray, .bool false]) ?_ rfl ⟨rfl, ?_⟩
          · exact results_row_tmp Tryd.results15 _ _ g2 23 _ (0, 0) _ _ rfl r13 Tryd.underlying23 rfl z0.out rfl
          · exact B12.trans (o13.below q2)
        · go_wp2_with (first
            | (with_reducible refine wl_load_row rfl 23 (.tmp 7) g7 23 (vk .i64 vs) _ rfl rfl r12 Tryd.underlying23 rfl zI.out ?_)
            | (with_reducible refine wl_store_row rfl 23 (.tmp 2) (.tmp 29) g2 23 _ (vk .i64 vs) rfl rfl rfl r2e zI.out l6.out (vk_one' _ _) ?_; intro w13 r13 o13))
          have hf : is = true := by rw [HID.out]; rfl
          subst hf
          have hF : F = vs := by rw [HOF.out]; rfl
          subst hF
          refine bodyPost_ret (v := .tuple #[.agg (vk .i64 F).toArray, .bool true]) ?_ rfl ⟨rfl, ?_⟩
          · exact results_row_tmp Tryd.results15 _ _ g2 23 _ (0, 0) _ _ rfl r13 Tryd.underlying23 rfl zI.out rfl
          · exact B12.trans (o13.below q2)
      · have hd : decide (ev = 0) = false := by simp [h0]
        have q2 : w.heap.size ≤ g2 := p2
        clear hV10 hE10 r10
        go_wp2_with (first
          | (with_reducible refine wl_store_row rfl 23 (.tmp 2) (.tmp 28) g2 23 _ (vk .i64 [0, 0, 0, 0, 0, 0]) rfl rfl rfl r2d z0.out rfl (vk_one' _ _) ?_; intro w13 r13 o13))
        have hf : is = false := by rw [HID.out, hd]; rfl
        subst hf
        have hF : F = [0, 0, 0, 0, 0, 0] := by rw [HOF.out]; rfl
        subst hF
        refine bodyPost_ret (v := .tuple #[.agg (vk .i64 [0, 0, 0, 0, 0, 0]).toArray, .bool false]) ?_ rfl ⟨rfl, ?_⟩
        · exact results_row_tmp Tryd.results15 _ _ g2 23 _ (0, 0) _ _ rfl r13 Tryd.underlying23 rfl z0.out rfl
        · exact B10.trans (o13.below q2)
end Go.Proofs.YtllhboennfljlaaDoor

/-
  Keys: the document's own reading of a name: contracts. Own work.
-/
namespace Go.Proofs.YtllhboennfljlaaDoor
open Go.RowKit
theorem take_next2 {xs ys : List Int} {k : Nat} (h : xs.take k = ys.take k) (hx : k < xs.length) (hy : k < ys.length) (hv : xs.getD k 0 = ys.getD k 0) : xs.take (k + 1) = ys.take (k + 1) := by
  rw [List.take_add_one, List.take_add_one, h]
  simp only [List.getD, List.getElem?_eq_getElem hx, List.getElem?_eq_getElem hy, Option.getD_some] at hv ⊢
  rw [hv]
set_option maxRecDepth 100000 in
set_option maxHeartbeats 1000000 in
theorem rsame_any (A D : Option Addr) (m c n d : Nat) (xs ys : List Int) (w : World) (hx : Bs w w.heap.size A m xs) (hy : Bs w w.heap.size D n ys) (hm : m ≤ 1000000) (hn : n ≤ 1000000) :
    Calls Tryd.prog 33 #[.slice A m c, .slice D n d] w fun e w' => e = .returned (.bool (decide (xs = ys))) ∧ Below w.heap.size w w' := by
  have lx := hx.1
  have ly := hy.1
  by_cases hmn : m = n
  · subst hmn
    go_enter Tryd.func33, Tryd.ntmps33
    have LX := hide lx; have LY := hide ly
    clear lx ly
    go_wp2
    go_loopw [5] (fun iv wr => ∃ k : Nat, k ≤ m ∧ iv = .int .i64 k ∧ xs.take k = ys.take k ∧ Below w.heap.size w wr) (fun iv _ => m - (intOf iv).toNat)
    case atStart => exact ⟨0, Nat.zero_le _, rfl, rfl, Below.refl _ _⟩
    case round =>
      obtain ⟨k, hk, rfl, heq, br⟩ := hrel
      by_cases hlt : k < m
      · obtain ⟨b1, o1, hA, q1, k1⟩ := hx.at_ hlt
        obtain ⟨b2, o2, hD, q2, k2⟩ := hy.at_ hlt
        have c1 := (br.cell q1).trans k1
        have c2 := (br.cell q2).trans k2
        have hnx := take_next2 heq (by rw [LX.out]; exact hlt) (by rw [LY.out]; exact hlt)
        have hnd : xs.getD k 0 ≠ ys.getD k 0 → decide (xs = ys) = false := fun h => decide_eq_false (fun e => h (by rw [e]))
        have HX := hide hnx; have HD := hide hnd
        subst hA hD
        clear hnx hnd heq hx hy k1 k2 q1 q2
        by_cases hne : xs.getD k 0 = ys.getD k 0
        · have hnx := hide (HX.out hne)
          rw [← hne] at c2
          clear HX HD hne
          generalize xs.getD k 0 = x at *
          go_wp2_with fail
          go_quiet (fail)
          have bq := below_drewn br nq
          go_wp2
          go_roundw
          case rel => exact ⟨k + 1, by omega, by go_num, hnx.out, bq⟩
          case measure => simp [intOf]; omega
        · have hd := hide (HD.out hne)
          clear HX HD
          generalize xs.getD k 0 = x at *
          generalize ys.getD k 0 = y at *
          go_wp2_with fail
          go_quiet (fail)
          have bq := below_drewn br nq
          go_wp2
          go_ret
          exact ⟨by rw [hd.out]; rfl, bq⟩
      · have hkm : k = m := by omega
        subst hkm
        rw [List.take_of_length_le (by rw [LX.out]; exact Nat.le_refl _), List.take_of_length_le (by rw [LY.out]; exact Nat.le_refl _)] at heq
        have hd := hide (show decide (xs = ys) = true from decide_eq_true heq)
        clear heq
        go_wp2
        go_ret
        exact ⟨by rw [hd.out]; rfl, br⟩
  · have hne : ¬ ((m : Int) = (n : Int)) := by omega
    have hd := hide (show decide (xs = ys) = false from decide_eq_false (fun e => hmn (by rw [← lx, ← ly, e])))
    clear lx ly
    go_enter Tryd.func33, Tryd.ntmps33
    go_wp2
    go_ret
    exact ⟨by rw [hd.out]; rfl, Below.refl _ _⟩
theorem inumK_any {lo g : Nat} {xs : List Int} {e : Int} (w : World) (h : Id w lo g xs e) (hx : IsBy xs) :
    Calls Tryd.prog 32 #[.pointer (some ⟨g, 0, none⟩), .int .i64 1099511627776] w fun en w' => en = .returned (.int .i64 (tkK xs e).1) ∧ Id w' lo g (tkK xs e).2.1 (tkK xs e).2.2 ∧ w.grownBy w' (some g) :=
  inum_any w h hx 1099511627776 (by decide) (by decide)
theorem l00 : (vk .i64 [0, 0, 0, 0, 0, 0]).length = (vk .i64 [0, 0, 0, 0, 0, 0]).length := rfl
theorem l0v (a b c d e f : Int) : (vk .i64 [0, 0, 0, 0, 0, 0]).length = (vk .i64 [a, b, c, d, e, f]).length := rfl
theorem lt6 (a b c d e f : Int) {i : Nat} (h : i < 6) : i < (vk .i64 [a, b, c, d, e, f]).length := h
theorem builtIn (A : Option Addr) (n c : Nat) : Tryd.prog.built 57 [(0, .slice A n c)] = some ([.slice A n c, .int .i64 0] : List Value).toArray := by kernel_rfl
/-- Whether bytes are a name's, as the document's own answers say it. -/
def isIdR (xs : List Int) : Bool := okB (rdV xs 0) (rdV xs 1) (rdV xs 2) (rdV xs 3) (rdV xs 4) (rdV xs 5) && decide (idB (rdV xs 0) (rdV xs 1) (rdV xs 2) (rdV xs 3) (rdV xs 4) (rdV xs 5) = xs)
theorem isId_eq {xs : List Int} (hb : IsBy xs) : isId xs = isIdR xs := by
  have hpre : pre xs 6 = idP [rdV xs 0, rdV xs 1, rdV xs 2, rdV xs 3, rdV xs 4, rdV xs 5] 6 := rfl
  unfold isId isIdR idB
  have hB := rd_back (a := rdV xs 0) (b := rdV xs 1) (c := rdV xs 2) (d := rdV xs 3) (e := rdV xs 4) (f := rdV xs 5)
  have hF := rd_fore hb 6
  cases hok : okB (rdV xs 0) (rdV xs 1) (rdV xs 2) (rdV xs 3) (rdV xs 4) (rdV xs 5) with
  | false => rw [Bool.and_false]; rfl
  | true =>
    rw [if_pos rfl, Bool.and_true, Bool.true_and, ← hpre]
    have hB := (hB hok).1
    rw [← hpre] at hB
    rw [Bool.eq_iff_iff, decide_eq_true_eq, decide_eq_true_eq]
    unfold endV
    constructor
    · intro h
      by_cases he : (rdR xs 6).2 = 0
      · have hF := hF he
        by_cases hl : 0 < (rdR xs 6).1.length
        · rw [if_pos ⟨he, hl⟩] at h; exact absurd h (by decide)
        · have hn : (rdR xs 6).1 = [] := List.eq_nil_of_length_eq_zero (by omega)
          rw [hn, List.append_nil] at hF
          exact hF.symm
      · rw [if_neg (fun h => he h.1)] at h
        exact absurd h he
    · intro h
      rw [h] at hB
      rw [hB]
      rfl
set_option maxRecDepth 100000 in
set_option maxHeartbeats 4000000 in
theorem refParse_any (xs : List Int) (A : Option Addr) (m c : Nat) (w : World) (hx : Bs w w.heap.size A m xs) (hxb : IsBy xs) (hm : m ≤ 1000000) :
    Calls Tryd.prog 16 #[.slice A m c] w fun e w' => e = .returned (.tuple #[.agg (vk .i64 (idOf xs)).toArray, .bool (isId xs)]) ∧ Below w.heap.size w w' := by
  have hid : isId xs = isIdR xs := isId_eq hxb
  have hof : idOf xs = if isId xs = true then rdVs xs 6 else [0, 0, 0, 0, 0, 0] := rfl
  have hVs : rdVs xs 6 = [rdV xs 0, rdV xs 1, rdV xs 2, rdV xs 3, rdV xs 4, rdV xs 5] := rfl
  rw [hVs] at hof
  unfold isIdR at hid
  have i0 : isI (rdV xs 0) := by have := rdV_int hxb 0; unfold isI; omega
  have i1 : isI (rdV xs 1) := by have := rdV_int hxb 1; unfold isI; omega
  have i2 : isI (rdV xs 2) := by have := rdV_int hxb 2; unfold isI; omega
  have i3 : isI (rdV xs 3) := by have := rdV_int hxb 3; unfold isI; omega
  have i4 : isI (rdV xs 4) := by have := rdV_int hxb 4; unfold isI; omega
  have i5 : isI (rdV xs 5) := by have := rdV_int hxb 5; unfold isI; omega
  have hV := fun w => refValid_any _ _ _ _ _ _ w i0 i1 i2 i3 i4 i5
  have hB := fun w => refBytes_all _ _ _ _ _ _ w i0 i1 i2 i3 i4 i5
  have hBo := fun w => both_any none A 0 m 0 c [] xs w Bs.nil_
  rw [List.nil_append] at hBo
  have hBl : (idB (rdV xs 0) (rdV xs 1) (rdV xs 2) (rdV xs 3) (rdV xs 4) (rdV xs 5)).length ≤ 48 := by
    unfold idB
    split
    · rw [idP_len]; decide
    · exact Nat.zero_le _
  have hN0 : ∀ (w : World) (g : Nat), Id w 0 g (rdR xs 0).1 (rdR xs 0).2 → Calls Tryd.prog 32 #[.pointer (some ⟨g, 0, none⟩), .int .i64 1099511627776] w fun en w' => en = .returned (.int .i64 (rdV xs 0)) ∧ Id w' 0 g (rdR xs 1).1 (rdR xs 1).2 ∧ w.grownBy w' (some g) := fun w g h => inumK_any w h (rdR_by hxb 0)
  have hN1 : ∀ (w : World) (g : Nat), Id w 0 g (rdR xs 1).1 (rdR xs 1).2 → Calls Tryd.prog 32 #[.pointer (some ⟨g, 0, none⟩), .int .i64 1099511627776] w fun en w' => en = .returned (.int .i64 (rdV xs 1)) ∧ Id w' 0 g (rdR xs 2).1 (rdR xs 2).2 ∧ w.grownBy w' (some g) := fun w g h => inumK_any w h (rdR_by hxb 1)
  have hN2 : ∀ (w : World) (g : Nat), Id w 0 g (rdR xs 2).1 (rdR xs 2).2 → Calls Tryd.prog 32 #[.pointer (some ⟨g, 0, none⟩), .int .i64 1099511627776] w fun en w' => en = .returned (.int .i64 (rdV xs 2)) ∧ Id w' 0 g (rdR xs 3).1 (rdR xs 3).2 ∧ w.grownBy w' (some g) := fun w g h => inumK_any w h (rdR_by hxb 2)
  have hN3 : ∀ (w : World) (g : Nat), Id w 0 g (rdR xs 3).1 (rdR xs 3).2 → Calls Tryd.prog 32 #[.pointer (some ⟨g, 0, none⟩), .int .i64 1099511627776] w fun en w' => en = .returned (.int .i64 (rdV xs 3)) ∧ Id w' 0 g (rdR xs 4).1 (rdR xs 4).2 ∧ w.grownBy w' (some g) := fun w g h => inumK_any w h (rdR_by hxb 3)
  have hN4 : ∀ (w : World) (g : Nat), Id w 0 g (rdR xs 4).1 (rdR xs 4).2 → Calls Tryd.prog 32 #[.pointer (some ⟨g, 0, none⟩), .int .i64 1099511627776] w fun en w' => en = .returned (.int .i64 (rdV xs 4)) ∧ Id w' 0 g (rdR xs 5).1 (rdR xs 5).2 ∧ w.grownBy w' (some g) := fun w g h => inumK_any w h (rdR_by hxb 4)
  have hN5 : ∀ (w : World) (g : Nat), Id w 0 g (rdR xs 5).1 (rdR xs 5).2 → Calls Tryd.prog 32 #[.pointer (some ⟨g, 0, none⟩), .int .i64 1099511627776] w fun en w' => en = .returned (.int .i64 (rdV xs 5)) ∧ Id w' 0 g (rdR xs 6).1 (rdR xs 6).2 ∧ w.grownBy w' (some g) := fun w g h => inumK_any w h (rdR_by hxb 5)
  have hid0 : ∀ (w : World) (g : Nat), Id w 0 g xs 0 → Id w 0 g (rdR xs 0).1 (rdR xs 0).2 := fun w g h => h
  have hmx : xs.length = m := hx.1
  have HID := hide hid; have HOF := hide hof
  clear hid hof hVs i0 i1 i2 i3 i4 i5
  generalize rdV xs 0 = v0 at *
  generalize rdV xs 1 = v1 at *
  generalize rdV xs 2 = v2 at *
  generalize rdV xs 3 = v3 at *
  generalize rdV xs 4 = v4 at *
  generalize rdV xs 5 = v5 at *
  generalize rdR xs 0 = q0 at *
  generalize rdR xs 1 = q1 at *
  generalize rdR xs 2 = q2 at *
  generalize rdR xs 3 = q3 at *
  generalize rdR xs 4 = q4 at *
  generalize rdR xs 5 = q5 at *
  generalize rdR xs 6 = q6 at *
  generalize okB v0 v1 v2 v3 v4 v5 = ok at *
  generalize idB v0 v1 v2 v3 v4 v5 = X at *
  generalize isId xs = is at *
  generalize hF : idOf xs = F at *
  clear hF
  have zI := hide (sizeId (xs := [v0, v1, v2, v3, v4, v5]) rfl)
  have z0 := hide (sizeId (xs := [0, 0, 0, 0, 0, 0]) rfl)
  have bI := builtId0
  have hS := rsame_any
  go_enter Tryd.func16, Tryd.ntmps16
  go_wp2_with (first
    | (with_reducible refine wl_alloc (o := ⟨some 2, _, _, _, _, _⟩) rfl 23 _ (vk .i64 [0, 0, 0, 0, 0, 0]) rfl zeroId rfl ?_; intro g2 w1 r2 p2 l2 b1))
  refine (hBo w1 (hx.later b1) (by omega)).mono ?_
  rintro e w2 ⟨B, n, c', rfl, hp, hn, hc, b2⟩
  have B2 := b1.trans (b2.mono b1.size)
  have r2a := r2.later b2
  have bIn := builtIn B n c'
  clear r2 hBo b1 b2
  go_wp2_with (first
    | ((with_reducible refine wl_build rfl 57 [(0, .tmp 7)] rfl _ ?hv _ bIn ?hk); case hv => rfl)
    | (with_reducible refine wl_box rfl 57 (.tmp 8) _ [.slice B n c', .int .i64 0] rfl rfl rfl ?_; intro g4 w3 r4 p4 l4 b3)
    | ((with_reducible refine wl_build rfl 23 [] rfl _ ?hv2 _ bI ?hk2); case hv2 => rfl)
    | (with_reducible refine wl_alloc rfl 23 _ (vk .i64 [0, 0, 0, 0, 0, 0]) rfl zeroId rfl ?_; intro g5 w4 r5 p5 l5 b4)
    | (with_reducible refine wl_store_row rfl 23 (.tmp 5) (.tmp 10) g5 23 _ (vk .i64 [0, 0, 0, 0, 0, 0]) rfl rfl rfl r5 z0.out l00 (vk_one' _ _) ?_; intro w5 r5a o5))
  have hp2 : Bs w3 w2.heap.size B n xs := hp.below b3
  have hsp : Sp w3 0 g4 B n xs := ⟨hp2.1, fun h => by
    obtain ⟨b, o, e, hb, hcc⟩ := hp2.2 h
    exact ⟨b, o, e, Nat.zero_le _, Nat.lt_of_lt_of_le hb p4, hcc⟩⟩
  have hI3 : Id w3 0 g4 xs 0 := by
    have := hp.1
    unfold maxLen at hc
    exact ⟨B, n, c', Nat.zero_le _, r4, hsp, hn, ⟨by omega, by omega⟩, fun h => absurd rfl h⟩
  have h45 : g4 < g5 := by omega
  have h25 : g2 ≠ g5 := by have := r2a.lt; have := b3.size; omega
  have h24 : g2 ≠ g4 := by have := r2a.lt; omega
  have B3 := B2.trans (b3.mono B2.size)
  have B4 := B3.trans (b4.mono B3.size)
  have qg5 : w.heap.size ≤ g5 := Nat.le_trans B3.size p5
  have qg4 : w.heap.size ≤ g4 := Nat.le_trans B2.size p4
  have B5 := B4.trans (o5.below qg5)
  have hI5 : Id w5 0 g4 xs 0 := (hI3.later b4).grown (grown_onlyK o5) (.inr h45)
  have r2b := ((r2a.later b3).later b4).only o5 h25
  have hJ0 := hid0 _ _ hI5
  have hxw := hx
  have U0 := r5a
  have T0 := r2b
  have C0 := B5
  clear hp hp2 hsp hI3 hI5 r2a r4 r5 b3 b4 o5 B2 B3 B4 B5 r2b r5a hid0 bIn
  generalize w5 = W0 at *
  skip
  go_wp2_with fail
  refine (hN0 _ _ hJ0).mono ?_
  rintro e X0 ⟨rfl, hK0, gr0⟩
  have U0a := U0.keptG gr0 (by omega)
  have T0a := T0.keptG gr0 h24
  have C0a := below_grown C0 gr0 qg4
  clear U0 T0 C0 hJ0 gr0 hN0
  go_wp2_with (first
    | ((with_reducible refine wl_store rfl 3 (.tmp 13) (.tmp 12) g5 0 23 _ (.int .i64 v0) rfl (by kernel_rfl) rfl rfl U0a (lt6 _ _ _ _ _ _ (by decide)) rfl ?_; intro W1 r0b o0b); have U1 : Row W1 23 g5 (vk .i64 [v0, 0, 0, 0, 0, 0]) := r0b))
  have T1 := T0a.only o0b h25
  have hJ1 := hK0.grown (grown_onlyK o0b) (.inr h45)
  have C1 := C0a.trans (o0b.below qg5)
  clear U0a T0a C0a hK0 r0b o0b
  go_wp2_with fail
  skip
  refine (hN1 _ _ hJ1).mono ?_
  rintro e X1 ⟨rfl, hK1, gr1⟩
  have U1a := U1.keptG gr1 (by omega)
  have T1a := T1.keptG gr1 h24
  have C1a := below_grown C1 gr1 qg4
  clear U1 T1 C1 hJ1 gr1 hN1
  go_wp2_with (first
    | ((with_reducible refine wl_store rfl 3 (.tmp 16) (.tmp 15) g5 1 23 _ (.int .i64 v1) rfl (by kernel_rfl) rfl rfl U1a (lt6 _ _ _ _ _ _ (by decide)) rfl ?_; intro W2 r1b o1b); have U2 : Row W2 23 g5 (vk .i64 [v0, v1, 0, 0, 0, 0]) := r1b))
  have T2 := T1a.only o1b h25
  have hJ2 := hK1.grown (grown_onlyK o1b) (.inr h45)
  have C2 := C1a.trans (o1b.below qg5)
  clear U1a T1a C1a hK1 r1b o1b
  go_wp2_with fail
  skip
  refine (hN2 _ _ hJ2).mono ?_
  rintro e X2 ⟨rfl, hK2, gr2⟩
  have U2a := U2.keptG gr2 (by omega)
  have T2a := T2.keptG gr2 h24
  have C2a := below_grown C2 gr2 qg4
  clear U2 T2 C2 hJ2 gr2 hN2
  go_wp2_with (first
    | ((with_reducible refine wl_store rfl 3 (.tmp 19) (.tmp 18) g5 2 23 _ (.int .i64 v2) rfl (by kernel_rfl) rfl rfl U2a (lt6 _ _ _ _ _ _ (by decide)) rfl ?_; intro W3 r2b o2b); have U3 : Row W3 23 g5 (vk .i64 [v0, v1, v2, 0, 0, 0]) := r2b))
  have T3 := T2a.only o2b h25
  have hJ3 := hK2.grown (grown_onlyK o2b) (.inr h45)
  have C3 := C2a.trans (o2b.below qg5)
  clear U2a T2a C2a hK2 r2b o2b
  go_wp2_with fail
  skip
  refine (hN3 _ _ hJ3).mono ?_
  rintro e X3 ⟨rfl, hK3, gr3⟩
  have U3a := U3.keptG gr3 (by omega)
  have T3a := T3.keptG gr3 h24
  have C3a := below_grown C3 gr3 qg4
  clear U3 T3 C3 hJ3 gr3 hN3
  go_wp2_with (first
    | ((with_reducible refine wl_store rfl 3 (.tmp 22) (.tmp 21) g5 3 23 _ (.int .i64 v3) rfl (by kernel_rfl) rfl rfl U3a (lt6 _ _ _ _ _ _ (by decide)) rfl ?_; intro W4 r3b o3b); have U4 : Row W4 23 g5 (vk .i64 [v0, v1, v2, v3, 0, 0]) := r3b))
  have T4 := T3a.only o3b h25
  have hJ4 := hK3.grown (grown_onlyK o3b) (.inr h45)
  have C4 := C3a.trans (o3b.below qg5)
  clear U3a T3a C3a hK3 r3b o3b
  go_wp2_with fail
  skip
  refine (hN4 _ _ hJ4).mono ?_
  rintro e X4 ⟨rfl, hK4, gr4⟩
  have U4a := U4.keptG gr4 (by omega)
  have T4a := T4.keptG gr4 h24
  have C4a := below_grown C4 gr4 qg4
  clear U4 T4 C4 hJ4 gr4 hN4
  go_wp2_with (first
    | ((with_reducible refine wl_store rfl 3 (.tmp 25) (.tmp 24) g5 4 23 _ (.int .i64 v4) rfl (by kernel_rfl) rfl rfl U4a (lt6 _ _ _ _ _ _ (by decide)) rfl ?_; intro W5 r4b o4b); have U5 : Row W5 23 g5 (vk .i64 [v0, v1, v2, v3, v4, 0]) := r4b))
  have T5 := T4a.only o4b h25
  have hJ5 := hK4.grown (grown_onlyK o4b) (.inr h45)
  have C5 := C4a.trans (o4b.below qg5)
  clear U4a T4a C4a hK4 r4b o4b
  go_wp2_with fail
  skip
  refine (hN5 _ _ hJ5).mono ?_
  rintro e X5 ⟨rfl, hK5, gr5⟩
  have U5a := U5.keptG gr5 (by omega)
  have T5a := T5.keptG gr5 h24
  have C5a := below_grown C5 gr5 qg4
  clear U5 T5 C5 hJ5 gr5 hN5
  go_wp2_with (first
    | ((with_reducible refine wl_store rfl 3 (.tmp 28) (.tmp 27) g5 5 23 _ (.int .i64 v5) rfl (by kernel_rfl) rfl rfl U5a (lt6 _ _ _ _ _ _ (by decide)) rfl ?_; intro W6 r5b o5b); have U6 : Row W6 23 g5 (vk .i64 [v0, v1, v2, v3, v4, v5]) := r5b)
    | (with_reducible refine wl_load_row rfl 23 (.tmp 5) g5 23 (vk .i64 [v0, v1, v2, v3, v4, v5]) _ rfl rfl U6 Tryd.underlying23 rfl zI.out ?_))
  have T6 := T5a.only o5b h25
  have hJ6 := hK5.grown (grown_onlyK o5b) (.inr h45)
  have C6 := C5a.trans (o5b.below qg5)
  clear U5a T5a C5a hK5 r5b o5b
  refine (hV _).mono ?_
  rintro e Y1 ⟨rfl, by1⟩
  have D1 := C6.trans (by1.mono C6.size)
  have U7 := U6.later by1
  have T7 := T6.later by1
  clear U6 T6 C6 by1 hJ6 hV
  cases ok
  · go_wp2_with (first
      | (with_reducible refine wl_store_row rfl 23 (.tmp 2) (.tmp 39) g2 23 _ (vk .i64 [0, 0, 0, 0, 0, 0]) rfl rfl rfl T7 z0.out l00 (vk_one' _ _) ?_; intro w13 r13 o13))
    have hf : is = false := by rw [HID.out]; rfl
    subst hf
    have hF : F = [0, 0, 0, 0, 0, 0] := by rw [HOF.out]; rfl
    subst hF
    refine bodyPost_ret (v := .tuple #[.agg (vk .i64 [0, 0, 0, 0, 0, 0]).toArray, .bool false]) ?_ rfl ⟨rfl, ?_⟩
    · exact results_row_tmp Tryd.results16 _ _ g2 23 _ (0, 0) _ _ rfl r13 Tryd.underlying23 rfl z0.out rfl
    · exact D1.trans (o13.below p2)
  · go_wp2_with (first
      | (with_reducible refine wg_load_row 3 false 32 rfl rfl rfl 23 (.tmp 5) g5 23 (vk .i64 [v0, v1, v2, v3, v4, v5]) _ rfl rfl U7 Tryd.underlying23 rfl zI.out ?_))
    refine (hB _).mono ?_
    rintro e Y2 ⟨E2, n2, c2, rfl, hE2, hn2, hc2, by2⟩
    have D2 := D1.trans (by2.mono D1.size)
    have U8 := U7.later by2
    have T8 := T7.later by2
    have hxx := hxw.later D2
    have hS2 := hS E2 A n2 c2 m c X xs Y2 hE2 hxx (by have := hE2.1; omega) hm
    clear U7 T7 D1 by2 hB hS
    go_wp2_with fail
    refine hS2.mono ?_
    rintro e Y3 ⟨rfl, by3⟩
    have D3 := D2.trans (by3.mono D2.size)
    have U9 := U8.later by3
    have T9 := T8.later by3
    clear hS2 U8 T8 D2 by3
    generalize decide (X = xs) = eq at *
    cases eq
    · go_wp2_with (first
        | (with_reducible refine wl_store_row rfl 23 (.tmp 2) (.tmp 39) g2 23 _ (vk .i64 [0, 0, 0, 0, 0, 0]) rfl rfl rfl T9 z0.out l00 (vk_one' _ _) ?_; intro w13 r13 o13))
      have hf : is = false := by rw [HID.out]; rfl
      subst hf
      have hF : F = [0, 0, 0, 0, 0, 0] := by rw [HOF.out]; rfl
      subst hF
      refine bodyPost_ret (v := .tuple #[.agg (vk .i64 [0, 0, 0, 0, 0, 0]).toArray, .bool false]) ?_ rfl ⟨rfl, ?_⟩
      · exact results_row_tmp Tryd.results16 _ _ g2 23 _ (0, 0) _ _ rfl r13 Tryd.underlying23 rfl z0.out rfl
      · exact D3.trans (o13.below p2)
    · go_wp2_with (first
        | (with_reducible refine wl_load_row rfl 23 (.tmp 5) g5 23 (vk .i64 [v0, v1, v2, v3, v4, v5]) _ rfl rfl U9 Tryd.underlying23 rfl zI.out ?_)
        | (with_reducible refine wl_store_row rfl 23 (.tmp 2) (.tmp 40) g2 23 _ (vk .i64 [v0, v1, v2, v3, v4, v5]) rfl rfl rfl T9 zI.out (l0v _ _ _ _ _ _) (vk_one' _ _) ?_; intro w13 r13 o13))
      have hf : is = true := by rw [HID.out]; rfl
      subst hf
      have hF : F = [v0, v1, v2, v3, v4, v5] := by rw [HOF.out]; rfl
      subst hF
      refine bodyPost_ret (v := .tuple #[.agg (vk .i64 [v0, v1, v2, v3, v4, v5]).toArray, .bool true]) ?_ rfl ⟨rfl, ?_⟩
      · exact results_row_tmp Tryd.results16 _ _ g2 23 _ (0, 0) _ _ rfl r13 Tryd.underlying23 rfl zI.out rfl
      · exact D3.trans (o13.below p2)
end Go.Proofs.YtllhboennfljlaaDoor

/-
  Keys: the law KeysParse: contract. Own work.
-/
namespace Go.Proofs.YtllhboennfljlaaDoor
open Go.RowKit
theorem eqIdOf (xs : List Int) (w : World) : (Op.equalIn 10000 23 (.agg (vk .i64 (idOf xs)).toArray) (.agg (vk .i64 (idOf xs)).toArray)).run Tryd.prog w = .ok true w := by
  unfold idOf
  split
  · rw [show rdVs xs 6 = [rdV xs 0, rdV xs 1, rdV xs 2, rdV xs 3, rdV xs 4, rdV xs 5] from rfl]
    exact (eqId _ _ _ _ _ _ _ _ _ _ _ _ w).trans (by simp)
  · exact (eqId _ _ _ _ _ _ _ _ _ _ _ _ w).trans (by simp)
theorem idOf_len (xs : List Int) : (idOf xs).length = 6 := by
  unfold idOf
  split
  · exact rdVs_len xs 6
  · rfl
set_option maxRecDepth 100000 in
set_option maxHeartbeats 2000000 in
theorem keysParse_any (xs : List Int) (A : Option Addr) (m c : Nat) (w : World) (hT : TabK w) (hx : Bs w w.heap.size A m xs) (hxb : IsBy xs) :
    Calls Tryd.prog 4 #[.slice A m c] w fun e w' => e = .returned (.bool true) ∧ Below w.heap.size w w' := by
  by_cases hm : m ≤ 200
  · have hle : ¬ ((200 : Int) < (m : Int)) := by omega
    have hP := fun w h1 h2 => parse_any xs A m c w h1 h2 hxb (by omega)
    have hR := fun w h2 => refParse_any xs A m c w h2 hxb (by omega)
    have hE := eqIdOf xs
    have hl6 := idOf_len xs
    have z6 := hide (sizeId hl6)
    have l6 := hide (show (vk .i64 [0, 0, 0, 0, 0, 0]).length = (vk .i64 (idOf xs)).length by rw [vk_len, vk_len, hl6]; rfl)
    clear hl6
    generalize idOf xs = F at *
    generalize isId xs = is at *
    go_enter Tryd.func4, Tryd.ntmps4
    go_wp2_with fail
    refine (hP w hT hx).mono ?_
    rintro e w1 ⟨rfl, b1⟩
    go_wp2_with (first
      | (with_reducible refine wl_alloc rfl 23 _ (vk .i64 [0, 0, 0, 0, 0, 0]) rfl zeroId rfl ?_; intro g3 w2 r3 p3 l3 b2)
      | (with_reducible refine wl_store_row rfl 23 (.tmp 3) (.tmp 14) g3 23 _ (vk .i64 F) rfl rfl rfl r3 z6.out l6.out (vk_one' _ _) ?_; intro w3 r3a o3))
    have B3 := (b1.trans (b2.mono b1.size)).trans (o3.below (Nat.le_trans b1.size p3))
    clear r3 b1 b2 o3 hP
    refine (hR w3 (hx.later B3)).mono ?_
    rintro e w4 ⟨rfl, b4⟩
    have B4 := B3.trans (b4.mono B3.size)
    have r3b := r3a.later b4
    clear r3a b4 B3 hR
    go_wp2_with (first
      | (with_reducible refine wl_alloc rfl 23 _ (vk .i64 [0, 0, 0, 0, 0, 0]) rfl zeroId rfl ?_; intro g5 w5 r5 p5 l5 b5)
      | (with_reducible refine wl_store_row rfl 23 (.tmp 5) (.tmp 19) g5 23 _ (vk .i64 F) rfl rfl rfl r5 z6.out l6.out (vk_one' _ _) ?_; intro w6 r5a o5; have b56 := b5.trans (o5.below p5); have r3c := r3b.later b56)
      | (with_reducible refine wl_load_row rfl 23 (.tmp 3) g3 23 (vk .i64 F) _ rfl rfl r3c Tryd.underlying23 rfl z6.out ?_)
      | (with_reducible refine wl_load_row rfl 23 (.tmp 5) g5 23 (vk .i64 F) _ rfl rfl r5a Tryd.underlying23 rfl z6.out ?_)
      | rw [hE])
    have B6 := B4.trans (b56.mono B4.size)
    refine (awake_any w6 (hT.later B6)).mono ?_
    rintro e w7 ⟨rfl, b7⟩
    go_wp2_with fail
    go_ret
    exact ⟨rfl, B6.trans (b7.mono B6.size)⟩
  · have hle : (200 : Int) < (m : Int) := by omega
    go_enter Tryd.func4, Tryd.ntmps4
    go_wp2_with fail
    refine (awake_any w hT).mono ?_
    rintro e w7 ⟨rfl, b7⟩
    go_wp2_with fail
    go_ret
    exact ⟨rfl, b7⟩
end Go.Proofs.YtllhboennfljlaaDoor

/-
  Keys: the law KeysUnlike: contract. Own work.
-/
namespace Go.Proofs.YtllhboennfljlaaDoor
open Go.RowKit
theorem bytesOf_back {xs : List Int} (hx : IsBy xs) : (Lib.bytesOf xs).map (fun b => (b.toNat : Int)) = xs := by
  unfold Lib.bytesOf
  rw [List.map_map]
  induction xs with
  | nil => rfl
  | cons x xs ih =>
    have h1 := hx x (by simp)
    rw [List.map_cons, ih (fun y hy => hx y (List.mem_cons_of_mem _ hy))]
    have h2 : ((UInt8.ofNat x.toNat).toNat : Int) = x := by
      rw [UInt8.toNat_ofNat']
      omega
    simp only [Function.comp]
    rw [h2]
theorem equal_r (A B : Option Addr) (n m c d : Nat) (xs ys : List Int) (w : World) (h1 : Bs w w.heap.size A n xs) (h2 : Bs w w.heap.size B m ys) (r : Bool) (hx : IsBy xs) (hy : IsBy ys) (hr : decide (xs = ys) = r) :
    Calls Tryd.prog 11 #[.slice A n c, .slice B m d] w fun e w' => e = .returned (.bool r) ∧ Below w.heap.size w w' := by
  refine (equal_any A B n m c d xs ys w h1 h2).mono ?_
  rintro e w' ⟨rfl, rfl⟩
  have hb : (Lib.bytesOf xs == Lib.bytesOf ys) = r := by
    rw [← hr, Bool.eq_iff_iff, beq_iff_eq, decide_eq_true_eq]
    refine ⟨fun h => ?_, fun h => by rw [h]⟩
    rw [← bytesOf_back hx, ← bytesOf_back hy, h]
  exact ⟨by rw [hb], Below.refl _ _⟩
theorem idP_byk (ns : List Int) (k : Nat) : IsBy (idP ns k) := by
  induction k with
  | zero => exact fun _ h => by cases h
  | succ k ih =>
    intro x hx
    have hx' : x ∈ idP ns k ++ highB (max (ns.getD k 0) 0) 8 := hx
    rcases List.mem_append.1 hx' with h | h
    · exact ih x h
    · exact lowB_byte _ 8 x (by simpa [highB] using h)
theorem id_back {a b c d e f : Int} (h : okB a b c d e f = true) : isId (idP [a, b, c, d, e, f] 6) = true ∧ idOf (idP [a, b, c, d, e, f] 6) = [a, b, c, d, e, f] := by
  obtain ⟨h0, h1, h2, h3, h4, h5, h6⟩ := rd_back h
  have hi : isId (idP [a, b, c, d, e, f] 6) = true := by
    unfold isId
    rw [h0, h1, h2, h3, h4, h5, h6, h]
    rfl
  refine ⟨hi, ?_⟩
  unfold idOf
  rw [if_pos hi]
  show [rdV _ 0, rdV _ 1, rdV _ 2, rdV _ 3, rdV _ 4, rdV _ 5] = _
  rw [h1, h2, h3, h4, h5, h6]
theorem id_inj {a b c d e f a' b' c' d' e' f' : Int} (h : okB a b c d e f = true) (h' : okB a' b' c' d' e' f' = true) : decide (idP [a, b, c, d, e, f] 6 = idP [a', b', c', d', e', f'] 6) = decide ([a, b, c, d, e, f] = [a', b', c', d', e', f']) := by
  rw [Bool.eq_iff_iff, decide_eq_true_eq, decide_eq_true_eq]
  constructor
  · intro e1
    have h1 := (id_back h).2
    rw [e1, (id_back h').2] at h1
    exact h1.symm
  · intro e1; rw [e1]
def FUn (X Y : List Int) (opn : Nat) (v : Value) (w : World) : Prop :=
  match opn with
  | 8 => SlF X v w
  | 10 => SlF Y v w
  | _ => True
theorem FUn_mono (X Y : List Int) : ∀ j v w w', FUn X Y j v w → Below w.heap.size w w' → FUn X Y j v w' := by
  intro j v w w' h hb
  unfold FUn at h ⊢
  split at h
  · exact h.later hb
  · exact h.later hb
  · trivial

def SUn (xs ys : List Int) (r : Bool) (opn : Nat) (v : Value) : Prop :=
  match opn with
  | 0 | 1 | 4 | 5 | 6 | 15 | 16 | 17 | 18 | 19 | 20 => v = .bool true
  | 2 | 3 | 7 | 12 => v = .agg (vk .i64 xs).toArray
  | 9 | 13 => v = .agg (vk .i64 ys).toArray
  | 11 | 14 => v = .bool r
  | _ => True

set_option maxRecDepth 100000 in
set_option maxHeartbeats 2000000 in
theorem keysUnlike_any (a b c d e f a' b' c' d' e' f' : Int) (w : World) (hT : TabK w) : Calls Tryd.prog 5 #[.agg (vk .i64 [a, b, c, d, e, f]).toArray, .agg (vk .i64 [a', b', c', d', e', f']).toArray] w fun en w' => en = .returned (.bool true) ∧ Below w.heap.size w w' := by
  have zX := hide (sizeId (xs := [a, b, c, d, e, f]) rfl)
  have zY := hide (sizeId (xs := [a', b', c', d', e', f']) rfl)
  have hVx := valid_any a b c d e f
  have hVy := valid_any a' b' c' d' e' f'
  have hBx0 := bytes_yes a b c d e f
  have hBy0 := bytes_yes a' b' c' d' e' f'
  have hEx : ∀ w, (Op.equalIn 10000 23 (.agg (vk .i64 [a, b, c, d, e, f]).toArray) (.agg (vk .i64 [a, b, c, d, e, f]).toArray)).run Tryd.prog w = .ok true w := fun w => (eqId _ _ _ _ _ _ _ _ _ _ _ _ w).trans (by simp)
  have hExy := eqId a b c d e f a' b' c' d' e' f'
  have hib := id_back (a := a) (b := b) (c := c) (d := d) (e := e) (f := f)
  have hXY0 := id_inj (a := a) (b := b) (c := c) (d := d) (e := e) (f := f) (a' := a') (b' := b') (c' := c') (d' := d') (e' := e') (f' := f')
  have hXb := idP_byk [a, b, c, d, e, f] 6
  have hYb := idP_byk [a', b', c', d', e', f'] 6
  have hXl := idP_len [a, b, c, d, e, f] 6
  generalize hok : okB a b c d e f = ok at *
  generalize hok' : okB a' b' c' d' e' f' = ok' at *
  clear hok hok'
  generalize idP [a, b, c, d, e, f] 6 = X at *
  generalize idP [a', b', c', d', e', f'] 6 = Y at *
  generalize decide ([a, b, c, d, e, f] = [a', b', c', d', e', f']) = r at *
  generalize [a, b, c, d, e, f] = xs at *
  generalize [a', b', c', d', e', f'] = ys at *
  have HI := hide hib
  have HXY := hide hXY0
  have hBx1 := hide hBx0
  have hBy1 := hide hBy0
  clear hib hXY0 hBx0 hBy0
  go_enter Tryd.func5, Tryd.ntmps5
  go_wp2_with (first
    | (with_reducible refine wl_box (o := ⟨some 2, _, _, _, _, _⟩) rfl 23 (.tmp 0) _ (vk .i64 xs) rfl rfl rfl ?_; intro g2 w2 r2 p2 l2 b2)
    | (with_reducible refine wl_box (o := ⟨some 3, _, _, _, _, _⟩) rfl 23 (.tmp 1) _ (vk .i64 ys) rfl rfl rfl ?_; intro g3 w3 r3 p3 l3 b3; have r2a := r2.later b3)
    | (with_reducible refine wl_load_row rfl 23 (.tmp 2) g2 23 (vk .i64 xs) _ rfl rfl r2a Tryd.underlying23 rfl zX.out ?_))
  have B3 := b2.trans (b3.mono b2.size)
  refine (hVx w3 (hT.later B3)).mono ?_
  rintro en w4 ⟨rfl, b4⟩
  have B4 := B3.trans (b4.mono B3.size)
  have r2b := r2a.later b4
  have r3b := r3.later b4
  clear r2 r2a r3 b2 b3 b4 B3 hVx
  cases ok
  · go_wp2_with fail
    refine (awake_any w4 (hT.later B4)).mono ?_
    rintro en w5 ⟨rfl, b5⟩
    go_wp2_with fail
    go_ret
    exact ⟨rfl, B4.trans (b5.mono B4.size)⟩
  · go_wp2_with (first
      | (with_reducible refine wg_load_row 3 false 10 rfl rfl rfl 23 (.tmp 3) g3 23 (vk .i64 ys) _ rfl rfl r3b Tryd.underlying23 rfl zY.out ?_))
    refine (hVy w4 (hT.later B4)).mono ?_
    rintro en w5 ⟨rfl, b5⟩
    have B5 := B4.trans (b5.mono B4.size)
    have r2c := r2b.later b5
    have r3c := r3b.later b5
    clear r2b r3b b5 B4 hVy
    cases ok'
    · go_wp2_with fail
      refine (awake_any w5 (hT.later B5)).mono ?_
      rintro en w6 ⟨rfl, b6⟩
      go_wp2_with fail
      go_ret
      exact ⟨rfl, B5.trans (b6.mono B5.size)⟩
    · obtain ⟨hi1, hi2⟩ := HI.out (by trivial)
      have hXY := hide (HXY.out (by trivial) (by trivial))
      have hPa := fun A n c w h1 h2 => parse_any X A n c w h1 h2 hXb
      rw [hi1, hi2] at hPa
      have hBx : ∀ w, TabK w → Calls Tryd.prog 12 #[.agg (vk .i64 xs).toArray] w (RetBs X w) := fun w h => hBx1.out w h (by trivial)
      have hBy : ∀ w, TabK w → Calls Tryd.prog 12 #[.agg (vk .i64 ys).toArray] w (RetBs Y w) := fun w h => hBy1.out w h (by trivial)
      have hl := hide (show (vk .i64 [0, 0, 0, 0, 0, 0]).length = (vk .i64 xs).length by
        have := zX.out
        have hz := sizeId (xs := [0, 0, 0, 0, 0, 0]) rfl
        rw [this] at hz
        injection hz with hz
        exact hz.symm)
      clear HI HXY hi1 hi2 hBx1 hBy1
      go_wp2_with (first
        | (with_reducible refine wl_load_row rfl 23 (.tmp 2) g2 23 (vk .i64 xs) _ rfl rfl r2c Tryd.underlying23 rfl zX.out ?_))
      refine (hBx w5 (hT.later B5)).mono ?_
      rintro en w6 ⟨A, n, cc, rfl, hp, hn, hc, b6⟩
      have B6 := B5.trans (b6.mono B5.size)
      have hn2 : n ≤ 1000000 := by have := hp.1; omega
      go_wp2_with fail
      refine (hPa A n cc w6 (hT.later B6) hp hn2).mono ?_
      rintro en w7 ⟨rfl, b7⟩
      have B7 := B6.trans (b7.mono B6.size)
      have r2d := (r2c.later b6).later b7
      have r3d := (r3c.later b6).later b7
      clear r2c r3c b6 b7 hp hPa B5 B6
      go_wp2_with (first
        | (with_reducible refine wl_alloc rfl 23 _ (vk .i64 [0, 0, 0, 0, 0, 0]) rfl zeroId rfl ?_; intro g5 w8 r5z p5 l5 b8)
        | (with_reducible refine wl_store_row rfl 23 (.tmp 5) (.tmp 20) g5 23 _ (vk .i64 xs) rfl rfl rfl r5z zX.out hl.out (vk_one' _ _) ?_; intro w9 r5 o9))
      rename_i K1 hK1
      have b89 := b8.trans (o9.below p5)
      have B9 := B7.trans (b89.mono B7.size)
      have r2 := r2d.later b89
      have r3 := r3d.later b89
      have hT9 := hT.later B9
      clear hT r2d r3d r5z b8 o9 b89 B7
      have hT := hT9
      clear hT9
      refine wp_region_valsG [8, 10, 11, 18] (SUn xs ys r) (JF w9 [8, 10, 11, 18] (FUn X Y)) (by kernel_rfl) (by kernel_rfl) (by kernel_rfl) (by kernel_rfl) (JF.start _) ?obs ?he
      case obs =>
        refine ⟨?_, ?_, ?_, ?_, ?_, ?_, ?_, ?_, ?_, ?_, ?_, ?_, ?_, ?_, ?_, ?_, ?_, ?_, ?_, ?_, ?_, trivial⟩
        · refine ⟨.inl rfl, ?_⟩
          exact .inl ⟨by kernel_rfl, fun L a1 w1 n h => ⟨_, rfl, run_move (.tmp 6) rfl (h.var n 6 (by kernel_rfl))⟩⟩
        · refine ⟨.inl rfl, ?_⟩
          exact .inl ⟨by kernel_rfl, fun L a1 w1 n h => ⟨_, rfl, run_move (.tmp 22) rfl (h.dep n 0 22 (by kernel_rfl) rfl)⟩⟩
        · refine ⟨.inr ⟨1, true, 23, rfl, by kernel_rfl, rfl, by simp, fun v h => h⟩, ?_⟩
          exact .inl ⟨by kernel_rfl, fun L a1 w1 n h => ⟨_, rfl, run_loadRow 23 (.tmp 5) g5 23 _ _ rfl (h.var n 5 (by kernel_rfl)) (r5.later h.inv.1) Tryd.underlying23 rfl (zX.out)⟩⟩
        · refine ⟨.inr ⟨1, true, 23, rfl, by kernel_rfl, rfl, by simp, fun v h => h⟩, ?_⟩
          exact .inl ⟨by kernel_rfl, fun L a1 w1 n h => ⟨_, rfl, run_loadRow 23 (.tmp 2) g2 23 _ _ rfl (h.var n 2 (by kernel_rfl)) (r2.later h.inv.1) Tryd.underlying23 rfl (zX.out)⟩⟩
        · refine ⟨.inr ⟨1, true, 23, rfl, by kernel_rfl, rfl, by simp, fun v h => h⟩, ?_⟩
          exact .inl ⟨by kernel_rfl, fun L a1 w1 n h => ⟨_, rfl, run_eqlS (.tmp 24) (.tmp 25) rfl hEx (h.dep n 2 24 (by kernel_rfl) rfl) (h.dep n 3 25 (by kernel_rfl) rfl) (by kernel_rfl)⟩⟩
        · refine ⟨.inl rfl, ?_⟩
          exact .inl ⟨by kernel_rfl, fun L a1 w1 n h => ⟨_, rfl, run_pickT (.tmp 23) _ _ rfl (h.dep n 1 23 (by kernel_rfl) rfl) (h.dep n 4 26 (by kernel_rfl) rfl)⟩⟩
        · refine ⟨.inl rfl, ?_⟩
          exact .inl ⟨by kernel_rfl, fun L a1 w1 n h => ⟨_, rfl, run_move (.tmp 27) rfl (h.dep n 5 27 (by kernel_rfl) rfl)⟩⟩
        · refine ⟨.inr ⟨6, true, 28, rfl, by kernel_rfl, rfl, by simp, fun v h => h⟩, ?_⟩
          exact .inl ⟨by kernel_rfl, fun L a1 w1 n h => ⟨_, rfl, run_loadRow 23 (.tmp 2) g2 23 _ _ rfl (h.var n 2 (by kernel_rfl)) (r2.later h.inv.1) Tryd.underlying23 rfl (zX.out)⟩⟩
        · refine ⟨.inr ⟨6, true, 28, rfl, by kernel_rfl, rfl, by simp, fun v h => h⟩, ?_⟩
          refine .inr fun L a1 w1 n h K hK => ?_
          have e0 : a1.eval (.tmp 29) = .agg (vk .i64 xs).toArray := h.dep n 7 29 (by kernel_rfl) rfl
          refine JF.call (FUn_mono X Y) h hK 30 rfl 12 _ _ #[.agg (vk .i64 xs).toArray] rfl Tryd.call12 ?_ (hBx w1 (hT.later h.inv.1)) ?_
          · simp only [List.map_toArray, List.map_cons, List.map_nil, e0]
          · rintro e w3 h9
            obtain ⟨v9, rfl, f9, b9⟩ := SlF.of_ret h9
            exact ⟨_, rfl, trivial, f9, b9⟩
        · refine ⟨.inr ⟨6, true, 28, rfl, by kernel_rfl, rfl, by simp, fun v h => h⟩, ?_⟩
          exact .inl ⟨by kernel_rfl, fun L a1 w1 n h => ⟨_, rfl, run_loadRow 23 (.tmp 3) g3 23 _ _ rfl (h.var n 3 (by kernel_rfl)) (r3.later h.inv.1) Tryd.underlying23 rfl (zY.out)⟩⟩
        · refine ⟨.inr ⟨6, true, 28, rfl, by kernel_rfl, rfl, by simp, fun v h => h⟩, ?_⟩
          refine .inr fun L a1 w1 n h K hK => ?_
          have e0 : a1.eval (.tmp 31) = .agg (vk .i64 ys).toArray := h.dep n 9 31 (by kernel_rfl) rfl
          refine JF.call (FUn_mono X Y) h hK 32 rfl 12 _ _ #[.agg (vk .i64 ys).toArray] rfl Tryd.call12 ?_ (hBy w1 (hT.later h.inv.1)) ?_
          · simp only [List.map_toArray, List.map_cons, List.map_nil, e0]
          · rintro e w3 h9
            obtain ⟨v9, rfl, f9, b9⟩ := SlF.of_ret h9
            exact ⟨_, rfl, trivial, f9, b9⟩
        · refine ⟨.inr ⟨6, true, 28, rfl, by kernel_rfl, rfl, by simp, fun v h => h⟩, ?_⟩
          refine .inr fun L a1 w1 n h K hK => ?_
          obtain ⟨A1, c1, v1, q1, _, _⟩ := JF.get h n 8 30 (by kernel_rfl) (by kernel_rfl) rfl
          obtain ⟨A2, c2, v2, q2, _, _⟩ := JF.get h n 10 32 (by kernel_rfl) (by kernel_rfl) rfl
          have e0 : a1.eval (.tmp 30) = .slice A1 X.length c1 := v1
          have e1 : a1.eval (.tmp 32) = .slice A2 Y.length c2 := v2
          refine JF.call (FUn_mono X Y) h hK 33 rfl 11 _ _ #[.slice A1 X.length c1, .slice A2 Y.length c2] rfl Tryd.call11 ?_ (equal_r A1 A2 _ _ c1 c2 X Y w1 q1 q2 r hXb hYb hXY.out) ?_
          · simp only [List.map_toArray, List.map_cons, List.map_nil, e0, e1]
          · rintro e w3 ⟨rfl, b9⟩
            exact ⟨_, rfl, rfl, trivial, b9⟩
        · refine ⟨.inr ⟨6, true, 28, rfl, by kernel_rfl, rfl, by simp, fun v h => h⟩, ?_⟩
          exact .inl ⟨by kernel_rfl, fun L a1 w1 n h => ⟨_, rfl, run_loadRow 23 (.tmp 2) g2 23 _ _ rfl (h.var n 2 (by kernel_rfl)) (r2.later h.inv.1) Tryd.underlying23 rfl (zX.out)⟩⟩
        · refine ⟨.inr ⟨6, true, 28, rfl, by kernel_rfl, rfl, by simp, fun v h => h⟩, ?_⟩
          exact .inl ⟨by kernel_rfl, fun L a1 w1 n h => ⟨_, rfl, run_loadRow 23 (.tmp 3) g3 23 _ _ rfl (h.var n 3 (by kernel_rfl)) (r3.later h.inv.1) Tryd.underlying23 rfl (zY.out)⟩⟩
        · refine ⟨.inr ⟨6, true, 28, rfl, by kernel_rfl, rfl, by simp, fun v h => h⟩, ?_⟩
          exact .inl ⟨by kernel_rfl, fun L a1 w1 n h => ⟨_, rfl, run_eqlS (.tmp 34) (.tmp 35) rfl hExy (h.dep n 12 34 (by kernel_rfl) rfl) (h.dep n 13 35 (by kernel_rfl) rfl) (by kernel_rfl)⟩⟩
        · refine ⟨.inr ⟨6, true, 28, rfl, by kernel_rfl, rfl, by simp, fun v h => h⟩, ?_⟩
          refine .inl ⟨by kernel_rfl, fun L a1 w1 n h => ⟨.bool true, rfl, ?_⟩⟩
          have e0 : a1.eval (.tmp 33) = _ := h.dep n 11 33 (by kernel_rfl) rfl
          have e1 : a1.eval (.tmp 36) = _ := h.dep n 14 36 (by kernel_rfl) rfl
          unfold execOp
          simp only [e0, e1]
          go_simp
        · refine ⟨.inl rfl, ?_⟩
          exact .inl ⟨by kernel_rfl, fun L a1 w1 n h => ⟨_, rfl, run_pickT (.tmp 28) _ _ rfl (h.dep n 6 28 (by kernel_rfl) rfl) (h.dep n 15 37 (by kernel_rfl) rfl)⟩⟩
        · refine ⟨.inl rfl, ?_⟩
          exact .inl ⟨by kernel_rfl, fun L a1 w1 n h => ⟨_, rfl, run_move (.tmp 38) rfl (h.dep n 16 38 (by kernel_rfl) rfl)⟩⟩
        · refine ⟨.inr ⟨17, true, 39, rfl, by kernel_rfl, rfl, by simp, fun v h => h⟩, ?_⟩
          refine .inr fun L a1 w1 n h K hK => ?_
          refine JF.call (FUn_mono X Y) h hK 40 rfl 14 _ _ #[] rfl Tryd.call14 ?_ (awake_any w1 (hT.later h.inv.1)) ?_
          · simp
          · rintro e w3 ⟨rfl, b9⟩
            exact ⟨_, rfl, rfl, trivial, b9⟩
        · refine ⟨.inl rfl, ?_⟩
          exact .inl ⟨by kernel_rfl, fun L a1 w1 n h => ⟨_, rfl, run_pickT (.tmp 39) _ _ rfl (h.dep n 17 39 (by kernel_rfl) rfl) (h.dep n 18 40 (by kernel_rfl) rfl)⟩⟩
        · refine ⟨.inl rfl, ?_⟩
          exact .inl ⟨by kernel_rfl, fun L a1 w1 n h => ⟨_, rfl, run_assign (.tmp 41) rfl (h.dep n 19 41 (by kernel_rfl) rfl)⟩⟩
      case he =>
        intro V w10 hV2 hJ
        have h20 : V 20 = .bool true := hV2 20 4 rfl
        have hB : Below w9.heap.size w9 w10 := hJ.1
        clear hV2 hJ
        simp only [putOps, List.setIfInBounds_toArray, List.set_cons_succ, List.set_cons_zero]
        refine hK1 _ _ ?_
        go_wp2
        go_ret
        exact ⟨congrArg Ending.returned h20, B9.trans (hB.mono B9.size)⟩
end Go.Proofs.YtllhboennfljlaaDoor

/-
  Keys: the program's key of a secret and a name: contract. Own work.
-/
namespace Go.Proofs.YtllhboennfljlaaDoor
open Go.RowKit
def saltL : List Int := [105, 110, 116, 97, 103, 108, 105, 111]
theorem saltL_by : IsBy saltL := by
  intro x hx
  simp only [saltL, List.mem_cons, List.not_mem_nil, or_false] at hx
  omega
/-- The key of a secret and a name's bytes. -/
def drvL (ss X : List Int) : List Int := expL (hmacS saltL ss) X 32
theorem drvL_len (ss X : List Int) : (drvL ss X).length = 32 := expL_len _ _ _
theorem st_arrK {P : Program} {o : Oper} {a : Act} {w : World} {K : Act → World → Prop} {Q : Exit → Act → World → Prop} (t : TypeId) (x : Operand) (ho : o.op = .sliceToArrayPointer t x) (n e : Nat) (ht : P.underlying t = some (.array n e)) (A : Option Addr) (m c : Nat) (hx : a.eval x = .slice A m c) (hm : n ≤ m)
    (hk : K (a.put o.dst (.pointer A)) w) : o.wp P a w K Q := by
  unfold Oper.wp execOp
  simp only [ho, hx]
  simp [Instr.arrayAt, run_underlying ht, show ¬ m < n by omega]
  exact hk
theorem wl_arr {P : Program} {ops : Array Oper} {rest : List Oper} {o : Oper} {a : Act} {w : World} {Q : Exit → Act → World → Prop} (hgd : o.guard = none) (t : TypeId) (x : Operand) (ho : o.op = .sliceToArrayPointer t x) (n e : Nat) (ht : P.underlying t = some (.array n e)) (A : Option Addr) (m c : Nat) (hx : a.eval x = .slice A m c) (hm : n ≤ m)
    (hk : wpList P ops Q rest (a.put o.dst (.pointer A)) w) : wpList P ops Q (o :: rest) a w :=
  wpList_plain hgd fun K hK => st_arrK t x ho n e ht A m c hx hm (hK _ _ hk)
theorem bs_cellsK {w : World} {B n : Nat} {b o : Nat} {xs : List Int} (h : Bs w B (some ⟨b, o, none⟩) n xs) : ∀ j v, (bv xs)[j]? = some v → w.cell? ⟨b, o + j, none⟩ = some v := by
  intro j v hv
  have := h.cells rfl j v hv
  rwa [addr_plain] at this
theorem bs_addr {w : World} {A : Option Addr} {xs : List Int} {n : Nat} (h : Bs w w.heap.size A n xs) (hn : 0 < n) : ∃ b o, A = some ⟨b, o, none⟩ ∧ ∀ j v, (bv xs)[j]? = some v → w.cell? ⟨b, o + j, none⟩ = some v := by
  obtain ⟨b, o, e, _⟩ := h.2 hn
  subst e
  exact ⟨b, o, rfl, bs_cellsK h⟩
def FDp (X E : List Int) (opn : Nat) (v : Value) (w : World) : Prop :=
  match opn with
  | 2 => SlF X v w
  | 3 => PrF (.bool true) E v w
  | 4 => PrF (.bool true) E v w
  | 5 => SlF E v w
  | 6 => IsF (.bool true) v w
  | 7 => SlF E v w
  | 8 => IsF (.bool true) v w
  | _ => True
theorem FDp_mono (X E : List Int) : ∀ j v w w', FDp X E j v w → Below w.heap.size w w' → FDp X E j v w' := by
  intro j v w w' h hb
  unfold FDp at h ⊢
  split at h
  · exact h.later hb
  · exact h.later hb
  · exact h.later hb
  · exact h.later hb
  · exact h.later hb
  · exact h.later hb
  · exact h.later hb
  · trivial

def SDp (xs : List Int) (g3 g6 : Nat) (opn : Nat) (v : Value) : Prop :=
  match opn with
  | 0 => v = .slice (some ⟨g6, 0, none⟩) 32 32
  | 1 => v = .agg (vk .i64 xs).toArray
  | _ => True

set_option maxRecDepth 100000 in
set_option maxHeartbeats 4000000 in
theorem derive_any (ss : List Int) (A : Option Addr) (m cc : Nat) (a b c d e f : Int) (w : World) (hTK : TabK w) (hT : Tabs w) (hs : Bs w w.heap.size A m ss) (hsb : IsBy ss) (hm : m ≤ 1000000) (hok : okB a b c d e f = true) :
    Calls Tryd.prog 17 #[.slice A m cc, .agg (vk .i64 [a, b, c, d, e, f]).toArray] w fun en w' => en = .returned (.tuple #[.agg (bv (drvL ss (idP [a, b, c, d, e, f] 6))).toArray, .bool true]) ∧ Below w.heap.size w w' := by
  have zX := hide (sizeId (xs := [a, b, c, d, e, f]) rfl)
  have hV := valid_any a b c d e f
  rw [hok] at hV
  have hB := fun w h => bytes_yes a b c d e f w h hok
  have hX := fun A1 n c1 w hT h1 hc hM hs => extract_any saltL ss A1 A n c1 m cc w hT h1 saltL_by hc hM hs hsb (by omega)
  obtain ⟨E, hEd⟩ : ∃ E, E = drvL ss (idP [a, b, c, d, e, f] 6) := ⟨_, rfl⟩
  rw [← hEd]
  have hEl := hide (show E.length = 32 by rw [hEd]; exact drvL_len _ _)
  have hXl := idP_len [a, b, c, d, e, f] 6
  have hXb := idP_byk [a, b, c, d, e, f] 6
  have hRl := hmacS_len saltL ss
  have hRb := hmacS_by saltL ss
  unfold drvL at hEd
  have hE0 := fun w gr A1 n c1 hT h1 h2 h3 => expand_any (hmacS saltL ss) (idP [a, b, c, d, e, f] 6) 32 (some ⟨gr, 0, none⟩) A1 32 32 n c1 w hT h1 hRb (Nat.le_refl _) (by decide) h2 hXb h3
  rw [← hEd] at hE0
  clear hEd hok
  generalize idP [a, b, c, d, e, f] 6 = X at *
  generalize hmacS saltL ss = RT at *
  generalize [a, b, c, d, e, f] = xs at *
  have zR := hide (size32b hRl)
  have zE := hide (size32b hEl.out)
  have lR := hide (show (bv zs32).length = (bv RT).length by rw [bv_len, bv_len, hRl, zs32_len])
  have lE := hide (show (bv zs32).length = (bv E).length by rw [bv_len, bv_len, hEl.out, zs32_len])
  have zz := zero32z
  have hRL := hide hRl
  clear hRl
  generalize zs32 = Z at *
  have kc := fun (w : World) (C : Array Value) (n c : Nat) => Lib.run_convert_bytes_const (P := Tryd.prog) w 26 5 C n c Tryd.underlying26 Tryd.underlying5
  go_enter Tryd.func17, Tryd.ntmps17
  go_wp2_with (first
    | (with_reducible refine wl_box (o := ⟨some 3, _, _, _, _, _⟩) rfl 23 (.tmp 1) _ (vk .i64 xs) rfl rfl rfl ?_; intro g3 w1 r3 p3 l3 b1)
    | (with_reducible refine wl_alloc (o := ⟨some 4, _, _, _, _, _⟩) rfl 33 _ (bv Z) rfl zz rfl ?_; intro g4 w2 r4 p4 l4 b2; have r3a := r3.later b2)
    | (with_reducible refine wl_load_row rfl 23 (.tmp 3) g3 23 (vk .i64 xs) _ rfl rfl r3a Tryd.underlying23 rfl zX.out ?_))
  have B2 := b1.trans (b2.mono b1.size)
  refine (hV w2 (hTK.later B2)).mono ?_
  rintro en w3 ⟨rfl, b3⟩
  have B3 := B2.trans (b3.mono B2.size)
  have q4 : w.heap.size ≤ g4 := Nat.le_trans b1.size p4
  have r3b := r3a.later b3
  have r4b := r4.later b3
  clear r3 r3a r4 b1 b2 b3 B2 hV
  go_wp2_with fail
  have hb := Bs.lit' w3 5 (8, 9) saltL #[.int .u8 105, .int .u8 110, .int .u8 116, .int .u8 97, .int .u8 103, .int .u8 108, .int .u8 105, .int .u8 111] 8 _ rfl rfl rfl
  have b4 : Below w3.heap.size w3 (w3.alloc (.cells #[.int .u8 105, .int .u8 110, .int .u8 116, .int .u8 97, .int .u8 103, .int .u8 108, .int .u8 105, .int .u8 111] 5 (8, 9))) := (Below.refl _ _).alloc (Nat.le_refl _) _
  have B4 := B3.trans (b4.mono B3.size)
  have r3c := r3b.later b4
  have r4c := r4b.later b4
  refine (hX _ 8 _ _ (hT.later B4) hb (Nat.le_refl _) (by decide) (hs.later B4)).mono ?_
  rintro en w5 ⟨rfl, b5⟩
  have B5 := B4.trans (b5.mono B4.size)
  have r3d := r3c.later b5
  have r4d := r4c.later b5
  clear r3b r4b r3c r4c b4 b5 B3 B4 hb hX kc
  go_wp2_with (first
    | (with_reducible refine wl_alloc (o := ⟨some 6, _, _, _, _, _⟩) rfl 33 _ (bv Z) rfl zz rfl ?_; intro g6 w6 r6 p6 l6 b6)
    | (with_reducible refine wl_store_row rfl 33 (.tmp 6) (.tmp 16) g6 33 _ (bv RT) rfl rfl rfl r6 zR.out lR.out (bv_one _) ?_; intro w7 r6a o7))
  rename_i Q1 K1 hK1
  have b67 := b6.trans (o7.below p6)
  have B7 := B5.trans (b67.mono B5.size)
  have r3 := r3d.later b67
  have r4 := r4d.later b67
  have hroot := Bs.row r6a hRL.out
  have hTK7 := hTK.later B7
  have hT7 := hT.later B7
  have hXn := hXl
  have hE : ∀ (w : World) A1 c1, Tabs w → Bs w w.heap.size (some ⟨g6, 0, none⟩) 32 RT → Bs w w.heap.size A1 X.length X → X.length ≤ c1 → Calls Tryd.prog 35 #[.slice (some ⟨g6, 0, none⟩) 32 32, .slice A1 X.length c1, .int .i64 32] w (RetOk E 32 w) := fun w A1 c1 h1 h2 h3 h4 => hE0 w g6 A1 X.length c1 h1 h2 h3 h4 (by omega) (by decide)
  clear hTK hT r3d r4d r6 b6 o7 b67 B5 hE0
  have hTK := hTK7
  have hT := hT7
  clear hTK7 hT7 hXn
  refine wp_region_vals [2, 3, 4, 5, 6, 7, 8] (SDp xs g3 g6) (JF w7 [2, 3, 4, 5, 6, 7, 8] (FDp X E)) (by kernel_rfl) (by kernel_rfl) (by kernel_rfl) (by kernel_rfl) (by kernel_rfl) (JF.start _) ?obs ?he
  case obs =>
    refine ⟨?_, ?_, ?_, ?_, ?_, ?_, ?_, ?_, ?_, trivial⟩
    · refine .inl ⟨by kernel_rfl, fun L a1 w1 n h => ⟨.slice (some ⟨g6, 0, none⟩) 32 32, rfl, ?_⟩⟩
      have e0 : a1.eval (.tmp 6) = _ := h.var n 6 (by kernel_rfl)
      unfold execOp
      simp only [e0]
      go_simp
    · exact .inl ⟨by kernel_rfl, fun L a1 w1 n h => ⟨_, rfl, run_loadRow 23 (.tmp 3) g3 23 _ _ rfl (h.var n 3 (by kernel_rfl)) (r3.later h.inv.1) Tryd.underlying23 rfl (zX.out)⟩⟩
    · refine .inr fun L a1 w1 n h K hK => ?_
      have e0 : a1.eval (.tmp 19) = .agg (vk .i64 xs).toArray := h.dep n 1 19 (by kernel_rfl) rfl
      refine JF.call (FDp_mono X E) h hK 20 rfl 12 _ _ #[.agg (vk .i64 xs).toArray] rfl Tryd.call12 ?_ (hB w1 (hTK.later h.inv.1)) ?_
      · simp only [List.map_toArray, List.map_cons, List.map_nil, e0]
      · rintro e w3 h9
        obtain ⟨v9, rfl, f9, b9⟩ := SlF.of_ret h9
        exact ⟨_, rfl, trivial, f9, b9⟩
    · refine .inr fun L a1 w1 n h K hK => ?_
      obtain ⟨A1, c1, v1, q1, l1, _⟩ := JF.get h n 2 20 (by kernel_rfl) (by kernel_rfl) rfl
      have e0 : a1.eval (.tmp 18) = .slice (some ⟨g6, 0, none⟩) 32 32 := h.dep n 0 18 (by kernel_rfl) rfl
      have e1 : a1.eval (.tmp 20) = .slice A1 X.length c1 := v1
      refine JF.call (FDp_mono X E) h hK 21 rfl 35 _ _ #[.slice (some ⟨g6, 0, none⟩) 32 32, .slice A1 X.length c1, .int .i64 32] rfl Tryd.call35 ?_ (hE w1 A1 c1 (hT.later h.inv.1) (hroot.later h.inv.1) q1 l1) ?_
      · simp only [List.map_toArray, List.map_cons, List.map_nil, e0, e1]; rfl
      · rintro e w3 ⟨A9, c9, rfl, h9, l9, m9, b9⟩
        exact ⟨_, rfl, trivial, ⟨A9, c9, by rw [hEl.out], by rw [hEl.out]; exact h9, by rw [hEl.out]; exact l9, m9⟩, b9⟩
    · refine .inr fun L a1 w1 n h K hK => ?_
      obtain ⟨A9, c9, v9, h9⟩ := JF.get h n 3 21 (by kernel_rfl) (by kernel_rfl) rfl
      exact JF.run (FDp_mono X E) h hK 17 rfl (.tuple #[.slice A9 E.length c9, .bool true]) (run_move (.tmp 21) rfl v9) trivial ⟨A9, c9, rfl, h9⟩
    · refine .inr fun L a1 w1 n h K hK => ?_
      obtain ⟨A9, c9, v9, h9⟩ := JF.get h n 4 17 (by kernel_rfl) (by kernel_rfl) rfl
      exact JF.run (FDp_mono X E) h hK 22 rfl (.slice A9 E.length c9) (run_extractA (v := .slice A9 E.length c9) (.tmp 17) 0 _ rfl v9 rfl) trivial ⟨A9, c9, rfl, h9⟩
    · refine .inr fun L a1 w1 n h K hK => ?_
      obtain ⟨A9, c9, v9, h9⟩ := JF.get h n 4 17 (by kernel_rfl) (by kernel_rfl) rfl
      exact JF.run (FDp_mono X E) h hK 23 rfl (.bool true) (run_extractA (v := .bool true) (.tmp 17) 1 _ rfl v9 rfl) trivial rfl
    · refine .inr fun L a1 w1 n h K hK => ?_
      obtain ⟨A9, c9, v9, h9⟩ := JF.get h n 5 22 (by kernel_rfl) (by kernel_rfl) rfl
      exact JF.run (FDp_mono X E) h hK 7 rfl (.slice A9 E.length c9) (run_assign (.tmp 22) rfl v9) trivial ⟨A9, c9, rfl, h9⟩
    · refine .inr fun L a1 w1 n h K hK => ?_
      obtain v9 := JF.get h n 6 23 (by kernel_rfl) (by kernel_rfl) rfl
      exact JF.run (FDp_mono X E) h hK 8 rfl (.bool true) (run_assign (.tmp 23) rfl v9) trivial rfl
  case he =>
    intro V w8 hV hJ
    obtain ⟨A9, c9, v9, h9, l9, m9⟩ := JF.last hJ 7 7 rfl rfl
    have i9 := JF.last hJ 8 8 rfl rfl
    have i9' : V 8 = .bool true := i9
    have hb8 := hJ.1
    clear hV hJ i9
    simp only [putOps, List.setIfInBounds_toArray, List.set_cons_succ, List.set_cons_zero]
    rw [v9, i9']
    refine hK1 _ _ ?_
    clear hK1 v9 i9' hE hroot
    have B8 := B7.trans (hb8.mono B7.size)
    have r4e := r4.later hb8
    rw [hEl.out] at h9 ⊢
    obtain ⟨b9, o9, rfl, k9⟩ := bs_addr h9 (by decide)
    clear r4 r3 h9 l9 m9 hb8 B7
    go_wp2_with (first
      | (with_reducible refine wl_arr rfl 33 (.tmp 24) rfl 32 5 Tryd.underlying33 _ 32 c9 rfl (Nat.le_refl _) ?_)
      | (with_reducible refine wl_load_cells rfl 33 (.tmp 25) b9 o9 (bv E) _ rfl rfl k9 Tryd.underlying33 rfl zE.out ?_)
      | (with_reducible refine wl_store_row rfl 33 (.tmp 4) (.tmp 26) g4 33 _ (bv E) rfl rfl rfl r4e zE.out lE.out (bv_one _) ?_; intro w13 r13 o13))
    refine bodyPost_ret (v := .tuple #[.agg (bv E).toArray, .bool true]) ?_ rfl ⟨rfl, ?_⟩
    · exact results_row_tmp Tryd.results17 _ _ g4 33 _ (0, 0) _ _ rfl r13 Tryd.underlying33 rfl zE.out rfl
    · exact B8.trans (o13.below q4)
set_option maxRecDepth 100000 in
set_option maxHeartbeats 2000000 in
theorem derive_no (A : Option Addr) (m cc : Nat) (a b c d e f : Int) (w : World) (hTK : TabK w) (hok : okB a b c d e f = false) :
    Calls Tryd.prog 17 #[.slice A m cc, .agg (vk .i64 [a, b, c, d, e, f]).toArray] w fun en w' => en = .returned (.tuple #[.agg (bv zs32).toArray, .bool false]) ∧ Below w.heap.size w w' := by
  have zX := hide (sizeId (xs := [a, b, c, d, e, f]) rfl)
  have hV := valid_any a b c d e f
  rw [hok] at hV
  have zE := hide (size32b zs32_len)
  have zz := zero32z
  have bz := bZ32
  clear hok
  generalize [a, b, c, d, e, f] = xs at *
  generalize zs32 = Z at *
  have lE := hide (And.intro (rfl : (bv Z).length = (bv Z).length) trivial)
  go_enter Tryd.func17, Tryd.ntmps17
  go_wp2_with (first
    | (with_reducible refine wl_box (o := ⟨some 3, _, _, _, _, _⟩) rfl 23 (.tmp 1) _ (vk .i64 xs) rfl rfl rfl ?_; intro g3 w1 r3 p3 l3 b1)
    | (with_reducible refine wl_alloc (o := ⟨some 4, _, _, _, _, _⟩) rfl 33 _ (bv Z) rfl zz rfl ?_; intro g4 w2 r4 p4 l4 b2; have r3a := r3.later b2)
    | (with_reducible refine wl_load_row rfl 23 (.tmp 3) g3 23 (vk .i64 xs) _ rfl rfl r3a Tryd.underlying23 rfl zX.out ?_))
  have B2 := b1.trans (b2.mono b1.size)
  refine (hV w2 (hTK.later B2)).mono ?_
  rintro en w3 ⟨rfl, b3⟩
  have B3 := B2.trans (b3.mono B2.size)
  have q4 : w.heap.size ≤ g4 := Nat.le_trans b1.size p4
  have r4b := r4.later b3
  clear r3 r3a r4 b1 b2 b3 B2 hV
  go_wp2_with (first
    | ((with_reducible refine wl_build rfl 33 [] rfl _ ?hv2 _ bz ?hk2); case hv2 => rfl)
    | (with_reducible refine wl_store_row rfl 33 (.tmp 4) (.tmp 12) g4 33 _ (bv Z) rfl rfl rfl r4b zE.out rfl (bv_one _) ?_; intro w13 r13 o13))
  refine bodyPost_ret (v := .tuple #[.agg (bv Z).toArray, .bool false]) ?_ rfl ⟨rfl, ?_⟩
  · exact results_row_tmp Tryd.results17 _ _ g4 33 _ (0, 0) _ _ rfl r13 Tryd.underlying33 rfl zE.out rfl
  · exact B3.trans (o13.below q4)
end Go.Proofs.YtllhboennfljlaaDoor

/-
  Keys: the document's key of a secret and a name: contract. Own work.
-/
namespace Go.Proofs.YtllhboennfljlaaDoor
open Go.RowKit
theorem zget (j n : Nat) : (List.replicate n (0 : Int)).getD j 0 = 0 := by
  rw [List.getD, List.getElem?_replicate]
  split <;> rfl
theorem zeros_take (i n : Nat) (h : i ≤ n) : (List.replicate n (0 : Int)).take i ++ List.replicate (n - i) 0 = List.replicate n 0 := by
  rw [List.take_replicate, Nat.min_eq_left h, List.replicate_append_replicate, Nat.add_sub_cancel' h]
/-- Bytes that lie in a block that holds nothing yet are nothing, and the block's. -/
theorem alias_or {w : World} {t g b o : Nat} {E : List Int} (hr : Row w t g (bv (List.replicate 32 0))) (hE : E.length = 32) (hk : ∀ j v, (bv E)[j]? = some v → w.cell? ⟨b, o + j, none⟩ = some v) : b ≠ g ∨ (b = g ∧ o = 0 ∧ E = List.replicate 32 0) := by
  by_cases hb : b = g
  · subst hb
    have hc : ∀ j, w.cell? ⟨b, j, none⟩ = (bv (List.replicate 32 0))[j]? := fun j => by
      have := cell_of_row w b j _ t (0, 0) hr
      rw [this, List.getElem?_toArray]
    have hg : ∀ j, j < 32 → (bv E)[j]? = some (.int .u8 (E.getD j 0)) := fun j hj => vk_get (kd := .u8) (by omega)
    have h31 := hk 31 _ (hg 31 (by decide))
    rw [hc] at h31
    have hlt := (List.getElem?_eq_some_iff.1 h31).1
    rw [bv_len, List.length_replicate] at hlt
    obtain rfl : o = 0 := by omega
    refine .inr ⟨rfl, rfl, ?_⟩
    refine List.ext_getElem (by rw [hE, List.length_replicate]) fun j h1 h2 => ?_
    have hj : j < 32 := by omega
    have h := hk j _ (hg j hj)
    rw [Nat.zero_add, hc, show (bv (List.replicate 32 0))[j]? = some (.int .u8 ((List.replicate 32 0).getD j 0)) from vk_get (kd := .u8) (by simpa using hj)] at h
    injection h with h
    injection h with _ h
    rw [List.getElem_replicate]
    have e1 : E.getD j 0 = E[j] := by simp [List.getD, List.getElem?_eq_getElem h1]
    rw [← e1, ← h, zget]
  · exact .inl hb
theorem alias_keep {w w' : World} {t g b o k : Nat} {E : List Int} (ha : b ≠ g ∨ (b = g ∧ o = 0 ∧ E = List.replicate 32 0)) (hr : Row w' t g (bv (E.take k ++ List.replicate (32 - k) 0))) (hk32 : k ≤ 32) (ho : Only g w w') (hk : ∀ j v, (bv E)[j]? = some v → w.cell? ⟨b, o + j, none⟩ = some v) : ∀ j v, (bv E)[j]? = some v → w'.cell? ⟨b, o + j, none⟩ = some v := by
  rcases ha with hb | ⟨rfl, rfl, hE⟩
  · intro j v hv
    rw [← hk j v hv]
    exact World.cell?_of_block (w := w) (ho.block b hb)
  · intro j v hv
    rw [hE, zeros_take k 32 hk32] at hr
    rw [hE] at hv
    rw [Nat.zero_add]
    exact hr.cell hv
def FDr (X E : List Int) (opn : Nat) (v : Value) (w : World) : Prop :=
  match opn with
  | 2 => SlF X v w
  | 3 => PrF (.bool true) E v w
  | 4 => PrF (.bool true) E v w
  | 5 => SlF E v w
  | 6 => IsF (.bool true) v w
  | 7 => SlF E v w
  | 8 => IsF (.bool true) v w
  | _ => True
theorem FDr_mono (X E : List Int) : ∀ j v w w', FDr X E j v w → Below w.heap.size w w' → FDr X E j v w' := by
  intro j v w w' h hb
  unfold FDr at h ⊢
  split at h
  · exact h.later hb
  · exact h.later hb
  · exact h.later hb
  · exact h.later hb
  · exact h.later hb
  · exact h.later hb
  · exact h.later hb
  · trivial

def SDr (xs : List Int) (g3 g6 : Nat) (opn : Nat) (v : Value) : Prop :=
  match opn with
  | 0 => v = .slice (some ⟨g6, 0, none⟩) 32 32
  | 1 => v = .agg (vk .i64 xs).toArray
  | _ => True

set_option maxRecDepth 100000 in
set_option maxHeartbeats 4000000 in
theorem refDerive_any (ss : List Int) (A : Option Addr) (m cc : Nat) (a b c d e f : Int) (w : World) (ha : isI a) (hb : isI b) (hc : isI c) (hd : isI d) (he : isI e) (hf : isI f) (hs : Bs w w.heap.size A m ss) (hsb : IsBy ss) (hm : m ≤ 1000000) (hok : okB a b c d e f = true) :
    Calls Tryd.prog 18 #[.slice A m cc, .agg (vk .i64 [a, b, c, d, e, f]).toArray] w fun en w' => en = .returned (.tuple #[.agg (bv (drvL ss (idP [a, b, c, d, e, f] 6))).toArray, .bool true]) ∧ Below w.heap.size w w' := by
  have zX := hide (sizeId (xs := [a, b, c, d, e, f]) rfl)
  have hV := fun w => refValid_any a b c d e f w ha hb hc hd he hf
  rw [hok] at hV
  have hB := fun w => refBytes_yes a b c d e f w ha hb hc hd he hf hok
  clear ha hb hc hd he hf
  have hX := fun A1 n c1 w h1 hc hM hs => refExtract_any saltL ss A1 A n c1 m cc w h1 saltL_by hc hM hs hsb (by omega)
  obtain ⟨E, hEd⟩ : ∃ E, E = drvL ss (idP [a, b, c, d, e, f] 6) := ⟨_, rfl⟩
  rw [← hEd]
  have hEl := hide (show E.length = 32 by rw [hEd]; exact drvL_len _ _)
  have hXl := idP_len [a, b, c, d, e, f] 6
  have hXb := idP_byk [a, b, c, d, e, f] 6
  have hRl := hmacS_len saltL ss
  have hRb := hmacS_by saltL ss
  unfold drvL at hEd
  have hE0 := fun w gr A1 n c1 h1 h2 h3 => refExpand_any (hmacS saltL ss) (idP [a, b, c, d, e, f] 6) 32 (some ⟨gr, 0, none⟩) A1 32 32 n c1 w h1 hRb (Nat.le_refl _) (by decide) h2 hXb h3
  rw [← hEd] at hE0
  clear hEd hok
  generalize idP [a, b, c, d, e, f] 6 = X at *
  generalize hmacS saltL ss = RT at *
  generalize [a, b, c, d, e, f] = xs at *
  have zR := hide (size32b hRl)
  have zE := hide (size32b hEl.out)
  have lR := hide (show (bv zs32).length = (bv RT).length by rw [bv_len, bv_len, hRl, zs32_len])
  have lE := hide (show (bv zs32).length = (bv E).length by rw [bv_len, bv_len, hEl.out, zs32_len])
  have zz := zero32z
  have hRL := hide hRl
  clear hRl
  have hZ : zs32 = List.replicate 32 0 := rfl
  have HZ := hide hZ
  clear hZ
  generalize zs32 = Z at *
  have kc := fun (w : World) (C : Array Value) (n c : Nat) => Lib.run_convert_bytes_const (P := Tryd.prog) w 26 5 C n c Tryd.underlying26 Tryd.underlying5
  go_enter Tryd.func18, Tryd.ntmps18
  go_wp2_with (first
    | (with_reducible refine wl_box (o := ⟨some 3, _, _, _, _, _⟩) rfl 23 (.tmp 1) _ (vk .i64 xs) rfl rfl rfl ?_; intro g3 w1 r3 p3 l3 b1)
    | (with_reducible refine wl_alloc (o := ⟨some 4, _, _, _, _, _⟩) rfl 33 _ (bv Z) rfl zz rfl ?_; intro g4 w2 r4 p4 l4 b2; have r3a := r3.later b2)
    | (with_reducible refine wl_alloc (o := ⟨some 6, _, _, _, _, _⟩) rfl 33 _ (bv Z) rfl zz rfl ?_; intro go w2b ro po lo b2b; have r3b0 := r3a.later b2b; have r4b0 := r4.later b2b)
    | (with_reducible refine wl_load_row rfl 23 (.tmp 3) g3 23 (vk .i64 xs) _ rfl rfl r3b0 Tryd.underlying23 rfl zX.out ?_))
  have B2a := b1.trans (b2.mono b1.size)
  have B2 := B2a.trans (b2b.mono B2a.size)
  refine (hV w2b).mono ?_
  rintro en w3 ⟨rfl, b3⟩
  have B3 := B2.trans (b3.mono B2.size)
  have q4 : w.heap.size ≤ g4 := Nat.le_trans b1.size p4
  have qo : w.heap.size ≤ go := Nat.le_trans B2a.size po
  have h4o : g4 ≠ go := by omega
  have r3b := r3b0.later b3
  have r4b := r4b0.later b3
  have rob := ro.later b3
  clear r3 r3a r3b0 r4 r4b0 ro b1 b2 b2b b3 B2 B2a hV
  go_wp2_with fail
  have hb := Bs.lit' w3 5 (8, 9) saltL #[.int .u8 105, .int .u8 110, .int .u8 116, .int .u8 97, .int .u8 103, .int .u8 108, .int .u8 105, .int .u8 111] 8 _ rfl rfl rfl
  have b4 : Below w3.heap.size w3 (w3.alloc (.cells #[.int .u8 105, .int .u8 110, .int .u8 116, .int .u8 97, .int .u8 103, .int .u8 108, .int .u8 105, .int .u8 111] 5 (8, 9))) := (Below.refl _ _).alloc (Nat.le_refl _) _
  have B4 := B3.trans (b4.mono B3.size)
  have r3c := r3b.later b4
  have r4c := r4b.later b4
  have roc := rob.later b4
  refine (hX _ 8 _ _ hb (Nat.le_refl _) (by decide) (hs.later B4)).mono ?_
  rintro en w5 ⟨rfl, b5⟩
  have B5 := B4.trans (b5.mono B4.size)
  have r3d := r3c.later b5
  have r4d := r4c.later b5
  have rod := roc.later b5
  clear r3b r4b r3c r4c rob roc b4 b5 B3 B4 hb hX kc
  go_wp2_with (first
    | (with_reducible refine wl_alloc (o := ⟨some 7, _, _, _, _, _⟩) rfl 33 _ (bv Z) rfl zz rfl ?_; intro g6 w6 r6 p6 l6 b6)
    | (with_reducible refine wl_store_row rfl 33 (.tmp 7) (.tmp 18) g6 33 _ (bv RT) rfl rfl rfl r6 zR.out lR.out (bv_one _) ?_; intro w7 r6a o7))
  rename_i Q1 K1 hK1
  have b67 := b6.trans (o7.below p6)
  have B7 := B5.trans (b67.mono B5.size)
  have r3 := r3d.later b67
  have r4 := r4d.later b67
  have ro := rod.later b67
  have hroot := Bs.row r6a hRL.out
  have hE : ∀ (w : World) A1 c1, Bs w w.heap.size (some ⟨g6, 0, none⟩) 32 RT → Bs w w.heap.size A1 X.length X → X.length ≤ c1 → Calls Tryd.prog 37 #[.slice (some ⟨g6, 0, none⟩) 32 32, .slice A1 X.length c1, .int .i64 32] w (RetOk E 32 w) := fun w A1 c1 h2 h3 h4 => hE0 w g6 A1 X.length c1 h2 h3 h4 (by omega) (by decide)
  clear r3d r4d rod r6 b6 o7 b67 B5 hE0
  refine wp_region_vals [2, 3, 4, 5, 6, 7, 8] (SDr xs g3 g6) (JF w7 [2, 3, 4, 5, 6, 7, 8] (FDr X E)) (by kernel_rfl) (by kernel_rfl) (by kernel_rfl) (by kernel_rfl) (by kernel_rfl) (JF.start _) ?obs ?he
  case obs =>
    refine ⟨?_, ?_, ?_, ?_, ?_, ?_, ?_, ?_, ?_, trivial⟩
    · refine .inl ⟨by kernel_rfl, fun L a1 w1 n h => ⟨.slice (some ⟨g6, 0, none⟩) 32 32, rfl, ?_⟩⟩
      have e0 : a1.eval (.tmp 7) = _ := h.var n 7 (by kernel_rfl)
      unfold execOp
      simp only [e0]
      go_simp
    · exact .inl ⟨by kernel_rfl, fun L a1 w1 n h => ⟨_, rfl, run_loadRow 23 (.tmp 3) g3 23 _ _ rfl (h.var n 3 (by kernel_rfl)) (r3.later h.inv.1) Tryd.underlying23 rfl (zX.out)⟩⟩
    · refine .inr fun L a1 w1 n h K hK => ?_
      have e0 : a1.eval (.tmp 21) = .agg (vk .i64 xs).toArray := h.dep n 1 21 (by kernel_rfl) rfl
      refine JF.call (FDr_mono X E) h hK 22 rfl 13 _ _ #[.agg (vk .i64 xs).toArray] rfl Tryd.call13 ?_ (hB w1) ?_
      · simp only [List.map_toArray, List.map_cons, List.map_nil, e0]
      · rintro e w3 h9
        obtain ⟨v9, rfl, f9, b9⟩ := SlF.of_ret h9
        exact ⟨_, rfl, trivial, f9, b9⟩
    · refine .inr fun L a1 w1 n h K hK => ?_
      obtain ⟨A1, c1, v1, q1, l1, _⟩ := JF.get h n 2 22 (by kernel_rfl) (by kernel_rfl) rfl
      have e0 : a1.eval (.tmp 20) = .slice (some ⟨g6, 0, none⟩) 32 32 := h.dep n 0 20 (by kernel_rfl) rfl
      have e1 : a1.eval (.tmp 22) = .slice A1 X.length c1 := v1
      refine JF.call (FDr_mono X E) h hK 23 rfl 37 _ _ #[.slice (some ⟨g6, 0, none⟩) 32 32, .slice A1 X.length c1, .int .i64 32] rfl Tryd.call37 ?_ (hE w1 A1 c1 (hroot.later h.inv.1) q1 l1) ?_
      · simp only [List.map_toArray, List.map_cons, List.map_nil, e0, e1]; rfl
      · rintro e w3 ⟨A9, c9, rfl, h9, l9, m9, b9⟩
        exact ⟨_, rfl, trivial, ⟨A9, c9, by rw [hEl.out], by rw [hEl.out]; exact h9, by rw [hEl.out]; exact l9, m9⟩, b9⟩
    · refine .inr fun L a1 w1 n h K hK => ?_
      obtain ⟨A9, c9, v9, h9⟩ := JF.get h n 3 23 (by kernel_rfl) (by kernel_rfl) rfl
      exact JF.run (FDr_mono X E) h hK 19 rfl (.tuple #[.slice A9 E.length c9, .bool true]) (run_move (.tmp 23) rfl v9) trivial ⟨A9, c9, rfl, h9⟩
    · refine .inr fun L a1 w1 n h K hK => ?_
      obtain ⟨A9, c9, v9, h9⟩ := JF.get h n 4 19 (by kernel_rfl) (by kernel_rfl) rfl
      exact JF.run (FDr_mono X E) h hK 24 rfl (.slice A9 E.length c9) (run_extractA (v := .slice A9 E.length c9) (.tmp 19) 0 _ rfl v9 rfl) trivial ⟨A9, c9, rfl, h9⟩
    · refine .inr fun L a1 w1 n h K hK => ?_
      obtain ⟨A9, c9, v9, h9⟩ := JF.get h n 4 19 (by kernel_rfl) (by kernel_rfl) rfl
      exact JF.run (FDr_mono X E) h hK 25 rfl (.bool true) (run_extractA (v := .bool true) (.tmp 19) 1 _ rfl v9 rfl) trivial rfl
    · refine .inr fun L a1 w1 n h K hK => ?_
      obtain ⟨A9, c9, v9, h9⟩ := JF.get h n 5 24 (by kernel_rfl) (by kernel_rfl) rfl
      exact JF.run (FDr_mono X E) h hK 8 rfl (.slice A9 E.length c9) (run_assign (.tmp 24) rfl v9) trivial ⟨A9, c9, rfl, h9⟩
    · refine .inr fun L a1 w1 n h K hK => ?_
      obtain v9 := JF.get h n 6 25 (by kernel_rfl) (by kernel_rfl) rfl
      exact JF.run (FDr_mono X E) h hK 9 rfl (.bool true) (run_assign (.tmp 25) rfl v9) trivial rfl
  case he =>
    intro V w8 hV hJ
    obtain ⟨A9, c9, v9, h9, l9, m9⟩ := JF.last hJ 7 8 rfl rfl
    have i9 := JF.last hJ 8 9 rfl rfl
    have i9' : V 8 = .bool true := i9
    have hb8 := hJ.1
    clear hV hJ i9
    simp only [putOps, List.setIfInBounds_toArray, List.set_cons_succ, List.set_cons_zero, Nat.reduceAdd]
    rw [v9, i9']
    refine hK1 _ _ ?_
    clear hK1 v9 i9' hE hroot
    have B8 := B7.trans (hb8.mono B7.size)
    have r4e := r4.later hb8
    have roe := ro.later hb8
    rw [HZ.out] at roe
    rw [hEl.out] at h9 ⊢
    obtain ⟨b9, o9, rfl, k9⟩ := bs_addr h9 (by decide)
    have hal := alias_or roe hEl.out k9
    clear r4 r3 ro h9 l9 hb8 B7 hs
    have HAL := hide hal
    clear hal
    go_wp2_with fail
    have roe' : Row w8 33 go (bv (E.take 0 ++ List.replicate (32 - 0) 0)) := roe
    go_loopw [10] (fun iv wr => ∃ i : Nat, i ≤ 32 ∧ iv = .int .i64 i ∧ Row wr 33 go (bv (E.take i ++ List.replicate (32 - i) 0)) ∧ Row wr 33 g4 (bv Z) ∧ (∀ j v, (bv E)[j]? = some v → wr.cell? ⟨b9, o9 + j, none⟩ = some v) ∧ Below w.heap.size w wr) (fun iv _ => 32 - (intOf iv).toNat)
    case atStart => exact ⟨0, Nat.zero_le _, rfl, roe', r4e, k9, B8⟩
    case round =>
      clear roe roe' r4e k9 B8
      obtain ⟨i, hi, rfl, ro, r4, k9, br⟩ := hrel
      by_cases hlt : i < 32
      · have hset := fill_next (xs := E) (i := i) (n := 32) (by rw [hEl.out]; exact hlt) hlt
        have hll : i < (bv (E.take i ++ List.replicate (32 - i) 0)).length := by rw [bv_len, List.length_append, List.length_take, hEl.out, List.length_replicate]; omega
        have hcl := k9 i _ (vk_get (kd := .u8) (xs := E) (j := i) (by rw [hEl.out]; exact hlt))
        have HS := hide hset; have HL := hide hll; have HK := hide k9
        clear hset hll k9
        generalize hcur : E.take i ++ List.replicate (32 - i) 0 = cur at *
        clear hcur
        generalize E.getD i 0 = x at *
        go_wp2_with (first
          | (with_reducible refine wl_store rfl 5 (.tmp 35) (.tmp 34) go i 33 _ (.int .u8 x) rfl u8_size rfl rfl ro HL.out rfl ?_; intro w10 r10 o10))
        have r10' : Row w10 33 go (bv (E.take (i + 1) ++ List.replicate (32 - (i + 1)) 0)) := by
          rw [← HS.out, ← bv_set]
          exact r10
        have k10 := alias_keep HAL.out r10' (by omega) o10 HK.out
        go_roundw
        case rel => exact ⟨i + 1, by omega, by go_num, r10', r4.only o10 h4o, k10, br.trans (o10.below qo)⟩
        case measure => simp [intOf]; omega
      · have h32 : i = 32 := by omega
        subst h32
        have roE : Row wr 33 go (bv E) := by
          rw [Nat.sub_self, List.replicate_zero, List.append_nil, List.take_of_length_le (by rw [hEl.out]; exact Nat.le_refl _)] at ro
          exact ro
        clear ro k9 HAL HZ
        go_wp2_with (first
          | (with_reducible refine wl_load_row rfl 33 (.tmp 6) go 33 (bv E) _ rfl rfl roE Tryd.underlying33 rfl zE.out ?_)
          | (with_reducible refine wl_store_row rfl 33 (.tmp 4) (.tmp 36) g4 33 _ (bv E) rfl rfl rfl r4 zE.out lE.out (bv_one _) ?_; intro w13 r13 o13))
        refine bodyPost_ret (v := .tuple #[.agg (bv E).toArray, .bool true]) ?_ rfl ⟨rfl, ?_⟩
        · exact results_row_tmp Tryd.results18 _ _ g4 33 _ (0, 0) _ _ rfl r13 Tryd.underlying33 rfl zE.out rfl
        · exact br.trans (o13.below q4)
set_option maxRecDepth 100000 in
set_option maxHeartbeats 2000000 in
theorem refDerive_no (A : Option Addr) (m cc : Nat) (a b c d e f : Int) (w : World) (ha : isI a) (hb : isI b) (hc : isI c) (hd : isI d) (he : isI e) (hf : isI f) (hok : okB a b c d e f = false) :
    Calls Tryd.prog 18 #[.slice A m cc, .agg (vk .i64 [a, b, c, d, e, f]).toArray] w fun en w' => en = .returned (.tuple #[.agg (bv zs32).toArray, .bool false]) ∧ Below w.heap.size w w' := by
  have zX := hide (sizeId (xs := [a, b, c, d, e, f]) rfl)
  have hV := fun w => refValid_any a b c d e f w ha hb hc hd he hf
  rw [hok] at hV
  have zE := hide (size32b zs32_len)
  have zz := zero32z
  clear hok ha hb hc hd he hf
  generalize [a, b, c, d, e, f] = xs at *
  generalize zs32 = Z at *
  go_enter Tryd.func18, Tryd.ntmps18
  go_wp2_with (first
    | (with_reducible refine wl_box (o := ⟨some 3, _, _, _, _, _⟩) rfl 23 (.tmp 1) _ (vk .i64 xs) rfl rfl rfl ?_; intro g3 w1 r3 p3 l3 b1)
    | (with_reducible refine wl_alloc (o := ⟨some 4, _, _, _, _, _⟩) rfl 33 _ (bv Z) rfl zz rfl ?_; intro g4 w2 r4 p4 l4 b2; have r3a := r3.later b2)
    | (with_reducible refine wl_alloc (o := ⟨some 6, _, _, _, _, _⟩) rfl 33 _ (bv Z) rfl zz rfl ?_; intro go w2b ro po lo b2b; have r3b0 := r3a.later b2b; have r4b0 := r4.later b2b)
    | (with_reducible refine wl_load_row rfl 23 (.tmp 3) g3 23 (vk .i64 xs) _ rfl rfl r3b0 Tryd.underlying23 rfl zX.out ?_))
  have B2a := b1.trans (b2.mono b1.size)
  have B2 := B2a.trans (b2b.mono B2a.size)
  refine (hV w2b).mono ?_
  rintro en w3 ⟨rfl, b3⟩
  have B3 := B2.trans (b3.mono B2.size)
  have q4 : w.heap.size ≤ g4 := Nat.le_trans b1.size p4
  have r4b := r4b0.later b3
  have rob := ro.later b3
  clear r3 r3a r3b0 r4 r4b0 ro b1 b2 b2b b3 B2 B2a hV
  go_wp2_with (first
    | (with_reducible refine wl_load_row rfl 33 (.tmp 6) go 33 (bv Z) _ rfl rfl rob Tryd.underlying33 rfl zE.out ?_)
    | (with_reducible refine wl_store_row rfl 33 (.tmp 4) (.tmp 14) g4 33 _ (bv Z) rfl rfl rfl r4b zE.out rfl (bv_one _) ?_; intro w13 r13 o13))
  refine bodyPost_ret (v := .tuple #[.agg (bv Z).toArray, .bool false]) ?_ rfl ⟨rfl, ?_⟩
  · exact results_row_tmp Tryd.results18 _ _ g4 33 _ (0, 0) _ _ rfl r13 Tryd.underlying33 rfl zE.out rfl
  · exact B3.trans (o13.below q4)
end Go.Proofs.YtllhboennfljlaaDoor

/-
  Keys: the law KeysDerive: contract; from the cards' premise to all three tables. Own work.
-/
namespace Go.Proofs.YtllhboennfljlaaDoor
open Go.RowKit
/-- The key, or none. -/
def drvA (ss : List Int) (a b c d e f : Int) : List Int := if okB a b c d e f = true then drvL ss (idP [a, b, c, d, e, f] 6) else zs32
theorem drvA_len (ss : List Int) (a b c d e f : Int) : (drvA ss a b c d e f).length = 32 := by
  unfold drvA
  split
  · exact drvL_len _ _
  · exact zs32_len
theorem derive_all (ss : List Int) (A : Option Addr) (m cc : Nat) (a b c d e f : Int) (w : World) (hTK : TabK w) (hT : Tabs w) (hs : Bs w w.heap.size A m ss) (hsb : IsBy ss) (hm : m ≤ 1000000) :
    Calls Tryd.prog 17 #[.slice A m cc, .agg (vk .i64 [a, b, c, d, e, f]).toArray] w fun en w' => en = .returned (.tuple #[.agg (bv (drvA ss a b c d e f)).toArray, .bool (okB a b c d e f)]) ∧ Below w.heap.size w w' := by
  unfold drvA
  cases h : okB a b c d e f with
  | true => rw [if_pos rfl]; exact derive_any ss A m cc a b c d e f w hTK hT hs hsb hm h
  | false => rw [if_neg (by decide)]; exact derive_no A m cc a b c d e f w hTK h
theorem refDerive_all (ss : List Int) (A : Option Addr) (m cc : Nat) (a b c d e f : Int) (w : World) (ha : isI a) (hb : isI b) (hc : isI c) (hd : isI d) (he : isI e) (hf : isI f) (hs : Bs w w.heap.size A m ss) (hsb : IsBy ss) (hm : m ≤ 1000000) :
    Calls Tryd.prog 18 #[.slice A m cc, .agg (vk .i64 [a, b, c, d, e, f]).toArray] w fun en w' => en = .returned (.tuple #[.agg (bv (drvA ss a b c d e f)).toArray, .bool (okB a b c d e f)]) ∧ Below w.heap.size w w' := by
  unfold drvA
  cases h : okB a b c d e f with
  | true => rw [if_pos rfl]; exact refDerive_any ss A m cc a b c d e f w ha hb hc hd he hf hs hsb hm h
  | false => rw [if_neg (by decide)]; exact refDerive_no A m cc a b c d e f w ha hb hc hd he hf h
theorem eq32k (xs : List Int) (hx : xs.length = 32) (w : World) : (Op.equalIn 10000 33 (.agg (bv xs).toArray) (.agg (bv xs).toArray)).run Tryd.prog w = .ok true w := by
  obtain ⟨i0, hi, _⟩ := u8_info
  exact (run_eqArr w Tryd.underlying33 hi (by kernel_rfl) Tryd.underlying5 Tryd.isAgg5 xs xs hx hx).trans (by simp)
set_option maxRecDepth 100000 in
set_option maxHeartbeats 2000000 in
theorem keysDerive_any (ss : List Int) (A : Option Addr) (m cc : Nat) (a b c d e f : Int) (w : World) (hTK : TabK w) (hT : Tabs w) (ha : isI a) (hb : isI b) (hc : isI c) (hd : isI d) (he : isI e) (hf : isI f) (hs : Bs w w.heap.size A m ss) (hsb : IsBy ss) :
    Calls Tryd.prog 6 #[.slice A m cc, .agg (vk .i64 [a, b, c, d, e, f]).toArray] w fun en w' => en = .returned (.bool true) ∧ Below w.heap.size w w' := by
  have zX := hide (sizeId (xs := [a, b, c, d, e, f]) rfl)
  by_cases hm : m ≤ 300
  · have hle : ¬ ((300 : Int) < (m : Int)) := by omega
    have hP := fun w h0 h1 h2 => derive_all ss A m cc a b c d e f w h0 h1 h2 hsb (by omega)
    have hR := fun w h2 => refDerive_all ss A m cc a b c d e f w ha hb hc hd he hf h2 hsb (by omega)
    have hl := drvA_len ss a b c d e f
    have hE := eq32k _ hl
    have z6 := hide (size32b hl)
    have l6 := hide (show (bv zs32).length = (bv (drvA ss a b c d e f)).length by rw [bv_len, bv_len, hl, zs32_len])
    have zz := zero32z
    clear hl ha hb hc hd he hf
    generalize drvA ss a b c d e f = F at *
    generalize okB a b c d e f = is at *
    generalize [a, b, c, d, e, f] = xs at *
    generalize zs32 = Z at *
    go_enter Tryd.func6, Tryd.ntmps6
    go_wp2_with (first
      | (with_reducible refine wl_box (o := ⟨some 3, _, _, _, _, _⟩) rfl 23 (.tmp 1) _ (vk .i64 xs) rfl rfl rfl ?_; intro g3 w1 r3 p3 l3 b1)
      | (with_reducible refine wl_load_row rfl 23 (.tmp 3) g3 23 (vk .i64 xs) _ rfl rfl r3 Tryd.underlying23 rfl zX.out ?_))
    refine (hP w1 (hTK.later b1) (hT.later b1) (hs.later b1)).mono ?_
    rintro en w2 ⟨rfl, b2⟩
    have B2 := b1.trans (b2.mono b1.size)
    have r3a := r3.later b2
    clear r3 b1 b2 hP
    go_wp2_with (first
      | (with_reducible refine wl_alloc (o := ⟨some 5, _, _, _, _, _⟩) rfl 33 _ (bv Z) rfl zz rfl ?_; intro g5 w3 r5 p5 l5 b3; have r3b := r3a.later b3)
      | (with_reducible refine wl_store_row rfl 33 (.tmp 5) (.tmp 17) g5 33 _ (bv F) rfl rfl rfl r5 z6.out l6.out (bv_one _) ?_; intro w4 r5a o4; have b34 := b3.trans (o4.below p5); have r3c := r3a.later b34)
      | (with_reducible refine wl_load_row rfl 23 (.tmp 3) g3 23 (vk .i64 xs) _ rfl rfl r3c Tryd.underlying23 rfl zX.out ?_))
    have B4 := B2.trans (b34.mono B2.size)
    refine (hR w4 (hs.later B4)).mono ?_
    rintro en w5 ⟨rfl, b5⟩
    have B5 := B4.trans (b5.mono B4.size)
    have r5b := r5a.later b5
    clear r3a r3b r3c r5 r5a b3 o4 b34 b5 B4 hR
    go_wp2_with (first
      | (with_reducible refine wl_alloc (o := ⟨some 7, _, _, _, _, _⟩) rfl 33 _ (bv Z) rfl zz rfl ?_; intro g7 w6 r7 p7 l7 b6)
      | (with_reducible refine wl_store_row rfl 33 (.tmp 7) (.tmp 23) g7 33 _ (bv F) rfl rfl rfl r7 z6.out l6.out (bv_one _) ?_; intro w7 r7a o7; have b67 := b6.trans (o7.below p7); have r5c := r5b.later b67)
      | (with_reducible refine wl_load_row rfl 33 (.tmp 5) g5 33 (bv F) _ rfl rfl r5c Tryd.underlying33 rfl z6.out ?_)
      | (with_reducible refine wl_load_row rfl 33 (.tmp 7) g7 33 (bv F) _ rfl rfl r7a Tryd.underlying33 rfl z6.out ?_)
      | rw [hE])
    have B7 := B5.trans (b67.mono B5.size)
    refine (awake_any w7 (hTK.later B7)).mono ?_
    rintro en w8 ⟨rfl, b8⟩
    go_wp2_with fail
    go_ret
    exact ⟨rfl, B7.trans (b8.mono B7.size)⟩
  · have hle : (300 : Int) < (m : Int) := by omega
    clear ha hb hc hd he hf
    generalize [a, b, c, d, e, f] = xs at *
    go_enter Tryd.func6, Tryd.ntmps6
    go_wp2_with (first
      | (with_reducible refine wl_box (o := ⟨some 3, _, _, _, _, _⟩) rfl 23 (.tmp 1) _ (vk .i64 xs) rfl rfl rfl ?_; intro g3 w1 r3 p3 l3 b1))
    refine (awake_any w1 (hTK.later b1)).mono ?_
    rintro en w8 ⟨rfl, b8⟩
    go_wp2_with fail
    go_ret
    exact ⟨rfl, b1.trans (b8.mono b1.size)⟩
end Go.Proofs.YtllhboennfljlaaDoor

/-
  From the cards' premise to the two tables of sha and the table of keys. Own work.
-/
namespace Go.Proofs.YtllhboennfljlaaDoor
open Go.RowKit Go.ChangeShapes Go.WideShapes
theorem gStart : Tryd.prog.globalNamed "intaglio/sha.start" = some 1 := by kernel_rfl
theorem gRoots : Tryd.prog.globalNamed "intaglio/sha.roots" = some 2 := by kernel_rfl
theorem tStart : (Tryd.prog.globals[1]?).map (·.type) = some 103 := by kernel_rfl
theorem tRoots : (Tryd.prog.globals[2]?).map (·.type) = some 86 := by kernel_rfl
def laid3 : List (String × DataW Unit) := [("intaglio/sha.start", Rows.laid_intaglio_sha_start), ("intaglio/sha.roots", Rows.laid_intaglio_sha_roots), ("intaglio/keys.bounds", Rows.laid_intaglio_keys_bounds)]
def Tabs3 (w : World) : Prop := Tabs w ∧ TabK w
set_option maxRecDepth 100000 in
theorem tabs3_of_laid {W : World} (h : laidMetH Tryd.prog laid3 W) : Tabs3 W := by
  rw [MakeChecks.laidMetH_plain _ _ _ (by kernel_rfl)] at h
  obtain ⟨ps, ⟨g0, t0, cs0, f0, p0, q0, hg0, ht0, hv0, hd0, ⟨g1, t1, cs1, f1, p1, q1, hg1, ht1, hv1, hd1, ⟨g2, t2, cs2, f2, p2, q2, hg2, ht2, hv2, hd2, _, _⟩, _⟩, _⟩, _, _⟩ := h
  obtain rfl := Option.some.inj (gStart.symm.trans hg0)
  obtain rfl := Option.some.inj (gRoots.symm.trans hg1)
  obtain rfl := Option.some.inj (gBounds.symm.trans hg2)
  obtain rfl := Option.some.inj (tStart.symm.trans ht0)
  obtain rfl := Option.some.inj (tRoots.symm.trans ht1)
  obtain rfl := Option.some.inj (tBounds.symm.trans ht2)
  have e0 : cs0.toList = startL.map fun z => Value.int .u32 z := Lib.cells_of_tab (zs := startL) (k := .u32) Tryd.underlying103 Tryd.underlying85 (by kernel_rfl) (by kernel_rfl) hd0
  have e1 : cs1.toList = rootsL.map fun z => Value.int .u32 z := Lib.cells_of_tab (zs := rootsL) (k := .u32) Tryd.underlying86 Tryd.underlying85 (by kernel_rfl) (by kernel_rfl) hd1
  have e2 := tabK_of rfl hd2
  have b0 : 1 < W.heap.size := block_lt_of_cell (v := .int .u32 (startL.getD 0 0)) (by rw [World.var?_cell hg0 hv0 0, ← Array.getElem?_toList, e0]; rfl)
  have b1 : 2 < W.heap.size := block_lt_of_cell (v := .int .u32 (rootsL.getD 0 0)) (by rw [World.var?_cell hg1 hv1 0, ← Array.getElem?_toList, e1]; rfl)
  have b2 : 0 < W.heap.size := block_lt_of_cell (v := .int .i64 (boundsL.getD 0 0)) (by rw [World.var?_cell hg2 hv2 0, ← Array.getElem?_toList, e2]; rfl)
  refine ⟨⟨by omega, fun j hj => ?_, fun j hj => ?_⟩, ⟨b2, fun j hj => ?_⟩⟩
  · rw [World.var?_cell hg0 hv0 j, ← Array.getElem?_toList, e0]
    simp [List.getD, show j < startL.length from hj]
  · rw [World.var?_cell hg1 hv1 j, ← Array.getElem?_toList, e1]
    simp [List.getD, show j < rootsL.length from hj]
  · rw [World.var?_cell hg2 hv2 j, ← Array.getElem?_toList, e2]
    exact vk_get (by exact hj)
end Go.Proofs.YtllhboennfljlaaDoor

/- Proved: the law KeysDerive (P7.2) answers true and leaves its arguments as they read before. For every secret and every name; no condition but the ties of the two tables of sha and of the table of keys to the program's text. -/
namespace Go.Proofs.YtllhboennfljlaaDoor.keysDerive
open Go.ChangeShapes Go.WideShapes Go.ChangeAt Go.WideMaps Go.WideElems Go.RowKit

theorem own : ownKnob Tryd.prog.godebug = none := by kernel_rfl
theorem laidOut : laidOutB Tryd.prog = true := by kernel_rfl
theorem door_met (os : Os) (args : Array Value) : laidMetH Tryd.prog laid3 ((World.doorLaid Tryd.prog 400 os).forCall (fun _ _ => 0) ⟨#[], args, []⟩).memory :=
  laidMetH_of_parts3 (fuel := 8) (laidMet_of_run' 8 (by kernel_rfl) (by kernel_rfl)) (by kernel_rfl) (by kernel_rfl)

set_option maxRecDepth 100000 in
theorem lifted (os : Os) (started : os.Started) (H : Type) (enc : TypeId × Value → H) :
    ReturnsInHanded {} Tryd.checked os 6 .any (fun w args => (Rows.keysDeriveSpec.pre enc Tryd.prog Tryd.f6 [] false w args ∧ laidMetH Tryd.prog laid3 w) ∧ sizedMet enc Tryd.prog Tryd.f6 (OpenSpec.ofChange Rows.keysDeriveSpec) false w args)
      (Rows.keysDeriveSpec.post enc Tryd.prog Tryd.f6 false true false false) := by
  refine returnsInHanded_of_change_and (C := Tryd.checked) (X := fun w _ => laidMetH Tryd.prog laid3 w) (fun _ _ _ hh h => h.of_heap hh) own started (by kernel_rfl) Tryd.func6
    (ChangeSpec.witness_shaped (enc := enc) (C := Tryd.checked) (os := os) (X := fun w _ => laidMetH Tryd.prog laid3 w) false (World.doorLaid Tryd.prog 400 os) #[.slice none 0 0, .agg #[.int .i64 0, .int .i64 0, .int .i64 0, .int .i64 0, .int .i64 0, .int .i64 0]] 8 rfl (World.shaped_of_RefB (by kernel_rfl) (by kernel_rfl)) (by kernel_rfl) (by kernel_rfl) (by kernel_rfl) (door_met os _)) ?_
  intro W base args ds gs before hval0 hW _ _ hL _
  have hval : ∀ (j : Nat) t v, Tryd.f6.params[j]? = some t → args[j]? = some v → Value.okWide Tryd.prog W .any base t v := hval0
  have hW' := hW
  obtain ⟨p, q, hA0, hV, rfl, hfz, hnd⟩ := hW
  have hA : DataW.TrodAll enc Tryd.prog W 0 (fun _ => true) true Tryd.f6.params.toList args.toList ds p := hA0
  rw [Tryd.params6] at hA hval
  obtain ⟨v0, vs0, d0, ds0, p0, q0, hargs, rfl, rfl, h0, r0⟩ := trodAll_cons hA
  obtain ⟨v1, vs1, d1, ds1, p1, q1, rfl, rfl, rfl, h1, r1⟩ := trodAll_cons r0
  obtain ⟨rfl, rfl, rfl⟩ := trodAll_nil r1
  obtain rfl : args = #[v0, v1] := by cases args; simp_all
  obtain ⟨rfl, rfl⟩ := trodVars_none hV
  obtain ⟨a0, len0, cap0, rfl⟩ := okWide_slice Tryd.underlying26 (hval 0 26 v0 rfl rfl)
  have k0 := h0
  have lt0 : ∀ x ∈ p0, x.block < W.heap.size := by obtain ⟨m, hm⟩ := k0; exact DataW.trod_lt m _ _ _ hm
  have k1 := h1
  have lt1 : ∀ x ∈ p1, x.block < W.heap.size := by obtain ⟨m, hm⟩ := k1; exact DataW.trod_lt m _ _ _ hm
  clear hA0 hval0
  have hT : Tabs3 W := tabs3_of_laid hL
  obtain ⟨x0, b0, by0, m0⟩ : ∃ xs, Bs W W.heap.size a0 len0 xs ∧ IsBy xs ∧ len0 ≤ cap0 := by
    obtain ⟨fuel, hf⟩ := k0
    obtain ⟨A', n', c', xs, hv, hb, hby, h1, h2⟩ := trod_bs Tryd.underlying26 Tryd.underlying5 (by kernel_rfl) hf
    simp at hv
    obtain ⟨rfl, rfl, rfl⟩ := hv
    exact ⟨xs, hb, hby, h1⟩
  obtain ⟨ds, rfl⟩ : ∃ ds : List Value, v1 = .agg ds.toArray := by
    have := hval 1 23 v1 rfl rfl
    obtain ⟨ds, rfl, _⟩ : ∃ ds, v1 = .agg ds ∧ ds.size = Tryd.prog.cellsOf 23 ∧ Row.okWide Tryd.prog W .any base 23 ds := by
      simpa [Value.okWide, Tryd.underlying23] using this
    exact ⟨ds.toList, by simp⟩
  have kl := k1
  obtain ⟨fuel2, hg⟩ := kl
  obtain ⟨a', b', c', d', e', f', hcs', ja, jb, jc, jd, je, jf⟩ := open_id hg
  obtain rfl : ds = vk .i64 [a', b', c', d', e', f'] := hcs'
  clear hg
  refine (keysDerive_any x0 a0 len0 cap0 a' b' c' d' e' f' W hT.2 hT.1 ja jb jc jd je jf b0 by0).mono fun e W' ⟨he, bel⟩ => ?_
  subst he
  exact ⟨_, rfl, _, _, _, [], _, [], hW', trodAll_mk1 (shut_bool Tryd.underlying4 _), (trodAll_cons_mk (Below.trod laidOut (by kernel_rfl) (of_decide_eq_true (by kernel_rfl)) k0 bel lt0) (trodAll_cons_mk (Below.trod laidOut (by kernel_rfl) (of_decide_eq_true (by kernel_rfl)) k1 bel lt1) trodAll_mk0)), rfl, bel.frame _, fun h => by cases h⟩

theorem over : Rows.KeysDeriveSaid :=
  OpenClaim.holds_of_wide 6 Tryd.f6 rfl rfl rfl rfl rfl rfl rfl ⟨rfl, rfl, rfl, rfl, rfl⟩ rfl rfl rfl rfl rfl (by kernel_rfl) Tryd.func6 (by kernel_rfl)
    (of_decide_eq_true (by kernel_rfl)) (by unfold Func.isWrapper; first | (rw [if_pos (by decide +kernel)]; kernel_rfl) | (rw [if_neg (by decide +kernel)]; exact ⟨rfl, rfl⟩))
    (fun os started H enc _ => lifted os started H enc)

/-- The given statement. -/
theorem proved : Rows.KeysDeriveCardSaid :=
  Claim7.holds_tied_plain_at .later [] [.data, .data, .data] true (true, "c5e6d4fba9d01d79537203324b4b20f015822582f19f4e8141ef0e0e286c03f5") false
    over (fun _ h => by cases h) (by kernel_rfl) (fun _ h => by cases h) keysDerive_row_tie rfl ⟨rfl, rfl⟩ (by kernel_rfl) rfl
    (fun f fn hf hfn => by
      obtain rfl : f = 6 := Option.some.inj ((show Tryd.prog.funcNamed "intaglio/intagliolaw07.KeysDerive" = some 6 by kernel_rfl).symm.trans hf) |>.symm
      obtain rfl : fn = Tryd.f6 := (Option.some.inj (Tryd.func6.symm.trans hfn)).symm
      exact ⟨by kernel_rfl, fun j t ht => by
        rw [Tryd.params6] at ht
        have hm : t ∈ [26, 23] := by simpa using Array.mem_of_getElem? ht
        have hall : ([26, 23].all fun u => !Tryd.prog.wantsStandIn u) = true := by kernel_rfl
        exact (show Tryd.prog.wantsStandIn t = false by simpa using List.all_eq_true.1 hall t hm)⟩)
    (by kernel_rfl)
#print axioms proved
end Go.Proofs.YtllhboennfljlaaDoor.keysDerive

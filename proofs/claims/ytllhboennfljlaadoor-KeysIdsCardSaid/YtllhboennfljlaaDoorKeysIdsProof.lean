/- Proved: the law KeysIds (P7.1) answers true and leaves its argument as it read before. For every name; no condition but the tie of the table of keys to the program's text. -/
import Derived.Test.YtllhboennfljlaaDoorRows
import Derived.Test.YtllhboennfljlaaDoorCards
import Derived.Test.YtllhboennfljlaaDoorTie
import Derived.WalkKit
import Derived.ProofKit
import Derived.OpenShut
import Derived.ShutString
import Derived.ChangeOld
import Derived.Below
import Derived.LaidMore
import Derived.Stop.Joined
import Derived.SevenTiedAt
import Derived.Test.YtllhboennfljlaaDoorGK
import Derived.Test.YtllhboennfljlaaDoorGA
set_option linter.unusedVariables false
set_option linter.unusedSimpArgs false
/-
  Keys: the law KeysIds: contract. Own work.
-/
namespace Go.Proofs.YtllhboennfljlaaDoor
open Go.RowKit
/-- The bytes of a name; none, if it may not be. -/
def idB (a b c d e f : Int) : List Int := if okB a b c d e f = true then idP [a, b, c, d, e, f] 6 else []
theorem ret_nil (w w' : World) (h : Below w.heap.size w w') : RetBs [] w (.returned (.slice none 0 0)) w' := ⟨none, 0, 0, rfl, Bs.nil_, Nat.le_refl _, by simp [maxLen], h⟩
theorem bytes_all (a b c d e f : Int) (w : World) (hT : TabK w) : Calls Tryd.prog 12 #[.agg (vk .i64 [a, b, c, d, e, f]).toArray] w (RetBs (idB a b c d e f) w) := by
  unfold idB
  by_cases h : okB a b c d e f = true
  · rw [if_pos h]; exact bytes_yes a b c d e f w hT h
  · rw [if_neg h]
    refine (bytes_no a b c d e f w hT (by simpa using h)).mono ?_
    rintro en w' ⟨rfl, hb⟩
    exact ret_nil _ _ hb
theorem refBytes_all (a b c d e f : Int) (w : World) (ha : isI a) (hb : isI b) (hc : isI c) (hd : isI d) (he : isI e) (hf : isI f) : Calls Tryd.prog 13 #[.agg (vk .i64 [a, b, c, d, e, f]).toArray] w (RetBs (idB a b c d e f) w) := by
  unfold idB
  by_cases h : okB a b c d e f = true
  · rw [if_pos h]; exact refBytes_yes a b c d e f w ha hb hc hd he hf h
  · rw [if_neg h]
    refine (refBytes_no a b c d e f w ha hb hc hd he hf (by simpa using h)).mono ?_
    rintro en w' ⟨rfl, hb⟩
    exact ret_nil _ _ hb
def FId (X : List Int) (opn : Nat) (v : Value) (w : World) : Prop :=
  match opn with
  | 7 => SlF X v w
  | 9 => SlF X v w
  | _ => True
theorem FId_mono (X : List Int) : ∀ j v w w', FId X j v w → Below w.heap.size w w' → FId X j v w' := by
  intro j v w w' h hb
  unfold FId at h ⊢
  split at h
  · exact h.later hb
  · exact h.later hb
  · trivial

def SId (ns : List Int) (ok : Bool) (opn : Nat) (v : Value) : Prop :=
  match opn with
  | 0 | 2 | 6 | 8 => v = .agg (vk .i64 ns).toArray
  | 1 | 3 => v = .bool ok
  | 4 | 5 | 10 | 11 | 12 | 13 | 14 | 15 => v = .bool true
  | _ => True

set_option maxRecDepth 100000 in
set_option maxHeartbeats 1000000 in
theorem keysIds_any (a b c d e f : Int) (w : World) (hT : TabK w) (ha : isI a) (hb : isI b) (hc : isI c) (hd : isI d) (he : isI e) (hf : isI f) : Calls Tryd.prog 3 #[.agg (vk .i64 [a, b, c, d, e, f]).toArray] w fun e w' => e = .returned (.bool true) ∧ Below w.heap.size w w' := by
  have zId := hide (sizeId (xs := [a, b, c, d, e, f]) rfl)
  have hV := valid_any a b c d e f
  have hR := fun w => refValid_any a b c d e f w ha hb hc hd he hf
  have hB := bytes_all a b c d e f
  have hRB := fun w => refBytes_all a b c d e f w ha hb hc hd he hf
  generalize idB a b c d e f = X at *
  generalize okB a b c d e f = ok at *
  generalize [a, b, c, d, e, f] = ns at *
  clear ha hb hc hd he hf
  go_enter Tryd.func3, Tryd.ntmps3
  go_wp2_with (first
    | (with_reducible refine wl_box rfl 23 (.tmp 0) _ (vk .i64 ns) rfl rfl rfl ?_; intro g1 w1 r1 p1 l1 b1))
  rename_i K1 hK1
  have hT1 := hT.later b1
  clear hT
  have hT := hT1
  clear hT1
  refine wp_region_valsG [1, 3, 7, 9, 10, 13] (SId ns ok) (JF w1 [1, 3, 7, 9, 10, 13] (FId X)) (by kernel_rfl) (by kernel_rfl) (by kernel_rfl) (by kernel_rfl) (JF.start _) ?obs ?he
  case obs =>
    refine ⟨?_, ?_, ?_, ?_, ?_, ?_, ?_, ?_, ?_, ?_, ?_, ?_, ?_, ?_, ?_, ?_, trivial⟩
    · refine ⟨.inl rfl, ?_⟩
      exact .inl ⟨by kernel_rfl, fun L a1 w1 n h => ⟨_, rfl, run_loadRow 23 (.tmp 1) g1 23 _ _ rfl (h.var n 1 (by kernel_rfl)) (r1.later h.inv.1) Tryd.underlying23 rfl (zId.out)⟩⟩
    · refine ⟨.inl rfl, ?_⟩
      refine .inr fun L a1 w1 n h K hK => ?_
      have e0 : a1.eval (.tmp 3) = .agg (vk .i64 ns).toArray := h.dep n 0 3 (by kernel_rfl) rfl
      refine JF.call (FId_mono X) h hK 4 rfl 9 _ _ #[.agg (vk .i64 ns).toArray] rfl Tryd.call9 ?_ (hV w1 (hT.later h.inv.1)) ?_
      · simp only [List.map_toArray, List.map_cons, List.map_nil, e0]
      · rintro e w3 ⟨rfl, b9⟩
        exact ⟨_, rfl, rfl, trivial, b9⟩
    · refine ⟨.inl rfl, ?_⟩
      exact .inl ⟨by kernel_rfl, fun L a1 w1 n h => ⟨_, rfl, run_loadRow 23 (.tmp 1) g1 23 _ _ rfl (h.var n 1 (by kernel_rfl)) (r1.later h.inv.1) Tryd.underlying23 rfl (zId.out)⟩⟩
    · refine ⟨.inl rfl, ?_⟩
      refine .inr fun L a1 w1 n h K hK => ?_
      have e0 : a1.eval (.tmp 5) = .agg (vk .i64 ns).toArray := h.dep n 2 5 (by kernel_rfl) rfl
      refine JF.call (FId_mono X) h hK 6 rfl 10 _ _ #[.agg (vk .i64 ns).toArray] rfl Tryd.call10 ?_ (hR w1) ?_
      · simp only [List.map_toArray, List.map_cons, List.map_nil, e0]
      · rintro e w3 ⟨rfl, b9⟩
        exact ⟨_, rfl, rfl, trivial, b9⟩
    · refine ⟨.inl rfl, ?_⟩
      refine .inl ⟨by kernel_rfl, fun L a1 w1 n h => ⟨.bool true, rfl, ?_⟩⟩
      have e0 : a1.eval (.tmp 4) = _ := h.dep n 1 4 (by kernel_rfl) rfl
      have e1 : a1.eval (.tmp 6) = _ := h.dep n 3 6 (by kernel_rfl) rfl
      unfold execOp
      simp only [e0, e1]
      go_simp
    · refine ⟨.inl rfl, ?_⟩
      exact .inl ⟨by kernel_rfl, fun L a1 w1 n h => ⟨_, rfl, run_move (.tmp 7) rfl (h.dep n 4 7 (by kernel_rfl) rfl)⟩⟩
    · refine ⟨.inr ⟨5, true, 8, rfl, by kernel_rfl, rfl, by simp, fun v h => h⟩, ?_⟩
      exact .inl ⟨by kernel_rfl, fun L a1 w1 n h => ⟨_, rfl, run_loadRow 23 (.tmp 1) g1 23 _ _ rfl (h.var n 1 (by kernel_rfl)) (r1.later h.inv.1) Tryd.underlying23 rfl (zId.out)⟩⟩
    · refine ⟨.inr ⟨5, true, 8, rfl, by kernel_rfl, rfl, by simp, fun v h => h⟩, ?_⟩
      refine .inr fun L a1 w1 n h K hK => ?_
      have e0 : a1.eval (.tmp 9) = .agg (vk .i64 ns).toArray := h.dep n 6 9 (by kernel_rfl) rfl
      refine JF.call (FId_mono X) h hK 10 rfl 12 _ _ #[.agg (vk .i64 ns).toArray] rfl Tryd.call12 ?_ (hB w1 (hT.later h.inv.1)) ?_
      · simp only [List.map_toArray, List.map_cons, List.map_nil, e0]
      · rintro e w3 h9
        obtain ⟨v9, rfl, f9, b9⟩ := SlF.of_ret h9
        exact ⟨_, rfl, trivial, f9, b9⟩
    · refine ⟨.inr ⟨5, true, 8, rfl, by kernel_rfl, rfl, by simp, fun v h => h⟩, ?_⟩
      exact .inl ⟨by kernel_rfl, fun L a1 w1 n h => ⟨_, rfl, run_loadRow 23 (.tmp 1) g1 23 _ _ rfl (h.var n 1 (by kernel_rfl)) (r1.later h.inv.1) Tryd.underlying23 rfl (zId.out)⟩⟩
    · refine ⟨.inr ⟨5, true, 8, rfl, by kernel_rfl, rfl, by simp, fun v h => h⟩, ?_⟩
      refine .inr fun L a1 w1 n h K hK => ?_
      have e0 : a1.eval (.tmp 11) = .agg (vk .i64 ns).toArray := h.dep n 8 11 (by kernel_rfl) rfl
      refine JF.call (FId_mono X) h hK 12 rfl 13 _ _ #[.agg (vk .i64 ns).toArray] rfl Tryd.call13 ?_ (hRB w1) ?_
      · simp only [List.map_toArray, List.map_cons, List.map_nil, e0]
      · rintro e w3 h9
        obtain ⟨v9, rfl, f9, b9⟩ := SlF.of_ret h9
        exact ⟨_, rfl, trivial, f9, b9⟩
    · refine ⟨.inr ⟨5, true, 8, rfl, by kernel_rfl, rfl, by simp, fun v h => h⟩, ?_⟩
      refine .inr fun L a1 w1 n h K hK => ?_
      obtain ⟨A1, c1, v1, q1, _, _⟩ := JF.get h n 7 10 (by kernel_rfl) (by kernel_rfl) rfl
      obtain ⟨A2, c2, v2, q2, _, _⟩ := JF.get h n 9 12 (by kernel_rfl) (by kernel_rfl) rfl
      have e0 : a1.eval (.tmp 10) = .slice A1 X.length c1 := v1
      have e1 : a1.eval (.tmp 12) = .slice A2 X.length c2 := v2
      refine JF.call (FId_mono X) h hK 13 rfl 11 _ _ #[.slice A1 X.length c1, .slice A2 X.length c2] rfl Tryd.call11 ?_ (equal_same A1 A2 _ _ c1 c2 X w1 q1 q2) ?_
      · simp only [List.map_toArray, List.map_cons, List.map_nil, e0, e1]
      · rintro e w3 ⟨rfl, b9⟩
        exact ⟨_, rfl, rfl, trivial, b9⟩
    · refine ⟨.inl rfl, ?_⟩
      exact .inl ⟨by kernel_rfl, fun L a1 w1 n h => ⟨_, rfl, run_pickT (.tmp 8) _ _ rfl (h.dep n 5 8 (by kernel_rfl) rfl) (h.dep n 10 13 (by kernel_rfl) rfl)⟩⟩
    · refine ⟨.inl rfl, ?_⟩
      exact .inl ⟨by kernel_rfl, fun L a1 w1 n h => ⟨_, rfl, run_move (.tmp 14) rfl (h.dep n 11 14 (by kernel_rfl) rfl)⟩⟩
    · refine ⟨.inr ⟨12, true, 15, rfl, by kernel_rfl, rfl, by simp, fun v h => h⟩, ?_⟩
      refine .inr fun L a1 w1 n h K hK => ?_
      refine JF.call (FId_mono X) h hK 16 rfl 14 _ _ #[] rfl Tryd.call14 ?_ (awake_any w1 (hT.later h.inv.1)) ?_
      · simp
      · rintro e w3 ⟨rfl, b9⟩
        exact ⟨_, rfl, rfl, trivial, b9⟩
    · refine ⟨.inl rfl, ?_⟩
      exact .inl ⟨by kernel_rfl, fun L a1 w1 n h => ⟨_, rfl, run_pickT (.tmp 15) _ _ rfl (h.dep n 12 15 (by kernel_rfl) rfl) (h.dep n 13 16 (by kernel_rfl) rfl)⟩⟩
    · refine ⟨.inl rfl, ?_⟩
      exact .inl ⟨by kernel_rfl, fun L a1 w1 n h => ⟨_, rfl, run_assign (.tmp 17) rfl (h.dep n 14 17 (by kernel_rfl) rfl)⟩⟩
  case he =>
    intro V w5 hV2 hJ
    have h15 : V 15 = .bool true := hV2 15 2 rfl
    have hB : Below w1.heap.size w1 w5 := hJ.1
    clear hV2 hJ
    simp only [putOps, List.setIfInBounds_toArray, List.set_cons_succ, List.set_cons_zero]
    refine hK1 _ _ ?_
    go_wp2
    go_ret
    exact ⟨congrArg Ending.returned h15, b1.trans (hB.mono b1.size)⟩
end Go.Proofs.YtllhboennfljlaaDoor

/- Proved: the law KeysIds (P7.1) answers true and leaves its argument as it read before. For every name; no condition but the tie of the table of keys to the program's text. -/
namespace Go.Proofs.YtllhboennfljlaaDoor.keysIds
open Go.ChangeShapes Go.WideShapes Go.ChangeAt Go.WideMaps Go.WideElems Go.RowKit

theorem own : ownKnob Tryd.prog.godebug = none := by kernel_rfl
theorem laidOut : laidOutB Tryd.prog = true := by kernel_rfl
theorem door_met (os : Os) (args : Array Value) : laidMetH Tryd.prog laidK ((World.doorLaid Tryd.prog 400 os).forCall (fun _ _ => 0) ⟨#[], args, []⟩).memory :=
  laidMetH_of_parts3 (fuel := 8) (laidMet_of_run' 8 (by kernel_rfl) (by kernel_rfl)) (by kernel_rfl) (by kernel_rfl)

set_option maxRecDepth 100000 in
theorem lifted (os : Os) (started : os.Started) (H : Type) (enc : TypeId × Value → H) :
    ReturnsInHanded {} Tryd.checked os 3 .any (fun w args => (Rows.keysIdsSpec.pre enc Tryd.prog Tryd.f3 [] false w args ∧ laidMetH Tryd.prog laidK w) ∧ sizedMet enc Tryd.prog Tryd.f3 (OpenSpec.ofChange Rows.keysIdsSpec) false w args)
      (Rows.keysIdsSpec.post enc Tryd.prog Tryd.f3 false true false false) := by
  refine returnsInHanded_of_change_and (C := Tryd.checked) (X := fun w _ => laidMetH Tryd.prog laidK w) (fun _ _ _ hh h => h.of_heap hh) own started (by kernel_rfl) Tryd.func3
    (ChangeSpec.witness_shaped (enc := enc) (C := Tryd.checked) (os := os) (X := fun w _ => laidMetH Tryd.prog laidK w) false (World.doorLaid Tryd.prog 400 os) #[.agg #[.int .i64 0, .int .i64 0, .int .i64 0, .int .i64 0, .int .i64 0, .int .i64 0]] 8 rfl (World.shaped_of_RefB (by kernel_rfl) (by kernel_rfl)) (by kernel_rfl) (by kernel_rfl) (by kernel_rfl) (door_met os _)) ?_
  intro W base args ds gs before hval0 hW _ _ hL _
  have hval : ∀ (j : Nat) t v, Tryd.f3.params[j]? = some t → args[j]? = some v → Value.okWide Tryd.prog W .any base t v := hval0
  have hW' := hW
  obtain ⟨p, q, hA0, hV, rfl, hfz, hnd⟩ := hW
  have hA : DataW.TrodAll enc Tryd.prog W 0 (fun _ => true) true Tryd.f3.params.toList args.toList ds p := hA0
  rw [Tryd.params3] at hA hval
  obtain ⟨v0, vs0, d0, ds0, p0, q0, hargs, rfl, rfl, h0, r0⟩ := trodAll_cons hA
  obtain ⟨rfl, rfl, rfl⟩ := trodAll_nil r0
  obtain rfl : args = #[v0] := by cases args; simp_all
  obtain ⟨rfl, rfl⟩ := trodVars_none hV
  have k0 := h0
  have lt0 : ∀ x ∈ p0, x.block < W.heap.size := by obtain ⟨m, hm⟩ := k0; exact DataW.trod_lt m _ _ _ hm
  clear hA0 hval0
  have hT : TabK W := tabsK_of_laid hL
  obtain ⟨cs, rfl⟩ : ∃ cs : List Value, v0 = .agg cs.toArray := by
    have := hval 0 23 v0 rfl rfl
    obtain ⟨cs, rfl, _⟩ : ∃ cs, v0 = .agg cs ∧ cs.size = Tryd.prog.cellsOf 23 ∧ Row.okWide Tryd.prog W .any base 23 cs := by
      simpa [Value.okWide, Tryd.underlying23] using this
    exact ⟨cs.toList, by simp⟩
  have kk := k0
  obtain ⟨fuel, hf⟩ := kk
  obtain ⟨a, b, c, d, e, f, hcs, ia, ib, ic, id, ie, if'⟩ := open_id hf
  obtain rfl : cs = vk .i64 [a, b, c, d, e, f] := hcs
  clear hf
  refine (keysIds_any a b c d e f W hT ia ib ic id ie if').mono fun e W' ⟨he, bel⟩ => ?_
  subst he
  exact ⟨_, rfl, _, _, _, [], _, [], hW', trodAll_mk1 (shut_bool Tryd.underlying4 _), (trodAll_cons_mk (Below.trod laidOut (by kernel_rfl) (of_decide_eq_true (by kernel_rfl)) k0 bel lt0) trodAll_mk0), rfl, bel.frame _, fun h => by cases h⟩

theorem over : Rows.KeysIdsSaid :=
  OpenClaim.holds_of_wide 3 Tryd.f3 rfl rfl rfl rfl rfl rfl rfl ⟨rfl, rfl, rfl, rfl, rfl⟩ rfl rfl rfl rfl rfl (by kernel_rfl) Tryd.func3 (by kernel_rfl)
    (of_decide_eq_true (by kernel_rfl)) (by unfold Func.isWrapper; first | (rw [if_pos (by decide +kernel)]; kernel_rfl) | (rw [if_neg (by decide +kernel)]; exact ⟨rfl, rfl⟩))
    (fun os started H enc _ => lifted os started H enc)

/-- The given statement. -/
theorem proved : Rows.KeysIdsCardSaid :=
  Claim7.holds_tied_plain_at .later [] [.data] true (true, "c5e6d4fba9d01d79537203324b4b20f015822582f19f4e8141ef0e0e286c03f5") false
    over (fun _ h => by cases h) (by kernel_rfl) (fun _ h => by cases h) keysIds_row_tie rfl ⟨rfl, rfl⟩ (by kernel_rfl) rfl
    (fun f fn hf hfn => by
      obtain rfl : f = 3 := Option.some.inj ((show Tryd.prog.funcNamed "intaglio/intagliolaw07.KeysIds" = some 3 by kernel_rfl).symm.trans hf) |>.symm
      obtain rfl : fn = Tryd.f3 := (Option.some.inj (Tryd.func3.symm.trans hfn)).symm
      exact ⟨by kernel_rfl, fun j t ht => by
        rw [Tryd.params3] at ht
        have hm : t ∈ [23] := by simpa using Array.mem_of_getElem? ht
        have hall : ([23].all fun u => !Tryd.prog.wantsStandIn u) = true := by kernel_rfl
        exact (show Tryd.prog.wantsStandIn t = false by simpa using List.all_eq_true.1 hall t hm)⟩)
    (by kernel_rfl)
#print axioms proved
end Go.Proofs.YtllhboennfljlaaDoor.keysIds

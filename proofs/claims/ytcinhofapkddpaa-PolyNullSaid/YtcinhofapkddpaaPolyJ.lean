/-
  Poly: a part's number, the sum behind it: contracts. Own work.
-/
import Derived.Test.YtcinhofapkddpaaPolyI
namespace Go.Proofs.Ytcinhofapkddpaa
open Go.RowKit
set_option linter.unusedVariables false
set_option linter.unusedSimpArgs false
theorem bv_app (xs ys : List Int) : bv (xs ++ ys) = bv xs ++ bv ys := by simp [bv]
theorem bv_drop (xs : List Int) (n : Nat) : bv (xs.drop n) = (bv xs).drop n := by simp [bv, List.map_drop]
theorem bv_take (xs : List Int) (n : Nat) : bv (xs.take n) = (bv xs).take n := by simp [bv, List.map_take]
theorem n3_nb {xs : List Int} (h : IsBy xs) : n3 (leV xs 0 8) (leV xs 8 8) (leV xs 16 8) = nb (leN xs) := by
  simp only [n3, nb, nW_leN h]
/-- 'x[:h]' of an array. -/
theorem run_sliceHi {P : Program} {o : Oper} {a : Act} {w : World} (t : TypeId) (x y : Operand) (n e : Nat) (g h : Nat) (ho : o.op = .slice t x none (some y) none) (hu : P.underlying t = some (.array n e)) (hs : ∀ w, (sizeOf e).run P w = .ok 1 w)
    (hx : a.eval x = .pointer (some ⟨g, 0, none⟩)) (hy : a.eval y = .int .i64 h) (hl : h ≤ n) : (execOp a.eval o).run P w = .ok (.value (.slice (some ⟨g, 0, none⟩) h n)) w := by
  have h1 : (0 : Int) ≤ h := by omega
  have h2 : (h : Int) ≤ n := by omega
  have hadd : (⟨g, 0, none⟩ : Addr).add 0 = ⟨g, 0, none⟩ := by unfold Addr.add; split <;> simp_all
  unfold execOp
  simp only [ho, hx, hy, Option.map_some, Option.map_none]
  simp [Instr.sliceAt, underlying, hu, Instr.sureAddr, Instr.sliceBounds, Instr.sliceBound, asIntOf, hs, h1, h2, hadd, hl]
/-- A Mac's cells. -/
def macL (held : List Int) (n R S T : Nat) : List Value := bv held ++ (.int .i64 (n : Int) :: (fb R ++ (nb S ++ nb T)))
theorem mac16 {held : List Int} (h : held.length = 16) (n R S T : Nat) : (macL held n R S T)[16]? = some (.int .i64 (n : Int)) := by
  unfold macL
  rw [List.getElem?_append_right (by rw [bv_len]; omega), bv_len, h]; rfl
theorem macLen {held : List Int} (h : held.length = 16) (n R S T : Nat) : (macL held n R S T).length = 25 := by simp [macL, bv_len, h, fb, nb]
theorem zero17 : (Try.prog.info? 73).map (fun i => i.zero) = some (some (.agg (bv (List.replicate 17 0)).toArray)) := by kernel_rfl
def SPc (g g3 n : Nat) (opn : Nat) (v : Value) : Prop :=
  match opn with
  | 0 => v = .slice (some ⟨g3, 0, none⟩) 17 17
  | 1 | 2 | 3 | 4 | 5 => v = .pointer (some ⟨g, 0, none⟩)
  | 6 => v = .pointer (some ⟨g, 16, none⟩)
  | 7 | 9 => v = .int .i64 (n : Int)
  | 8 => v = .slice (some ⟨g, 0, none⟩) n 16
  | _ => True

set_option maxRecDepth 100000 in
set_option maxHeartbeats 1000000 in
theorem piece_any (g n R S T : Nat) (held : List Int) (w : World) (hr : Row w 48 g (macL held n R S T)) (hh : held.length = 16) (hb : IsBy held) (hpos : 0 < n) (hn : n ≤ 16) :
    Calls Try.prog 39 #[.pointer (some ⟨g, 0, none⟩)] w fun e w' => e = .returned (.agg (nb (leN (held.take n ++ [1]))).toArray) ∧ Below w.heap.size w w' := by
  have c16 := mac16 hh n R S T
  have hbn : IsBy (held.take n ++ (1 :: List.replicate (16 - n) 0)) := (hb.take n).app fun x hx => by
    simp only [List.mem_cons, List.mem_replicate] at hx
    rcases hx with rfl | ⟨_, rfl⟩ <;> omega
  have hlen : (held.take n ++ (1 :: List.replicate (16 - n) 0)).length = 17 := by simp [hh]; omega
  have hval : leN (held.take n ++ (1 :: List.replicate (16 - n) 0)) = leN (held.take n ++ [1]) := by
    rw [leN_append, leN_append]
    simp [leN, leN_zeros]
  have HB : ∀ w', Row w' 48 g (macL held n R S T) → Bs w' (g + 1) (some ⟨g, 0, none⟩) n (held.take n) := fun w' h => by
    have e : macL held n R S T = [] ++ (bv (held.take n) ++ (bv (held.drop n) ++ (.int .i64 (n : Int) :: (fb R ++ (nb S ++ nb T))))) := by
      unfold macL
      rw [List.nil_append, ← List.append_assoc (bv (held.take n)), ← bv_app, List.take_append_drop]
    rw [e] at h
    have := h.bs (B := g + 1) rfl (by omega)
    rwa [List.length_take, Nat.min_eq_left (by omega)] at this
  have hmid : (bv (List.replicate 17 0)).take 0 ++ (bv (held.take n) ++ (bv (List.replicate 17 0)).drop (0 + n)) = bv (held.take n ++ List.replicate (17 - n) 0) := by
    rw [List.take_zero, List.nil_append, Nat.zero_add, bv_app, ← bv_drop, List.drop_replicate]
  have hset : (bv (held.take n ++ List.replicate (17 - n) 0)).set n (.int .u8 1) = bv (held.take n ++ (1 :: List.replicate (16 - n) 0)) := by
    rw [bv_set]
    congr 1
    rw [List.set_append_right _ _ (by rw [List.length_take]; omega), List.length_take, Nat.min_eq_left (by omega), Nat.sub_self, show 17 - n = (16 - n) + 1 by omega, List.replicate_succ]
    rfl
  have hln : n < (bv (held.take n ++ List.replicate (17 - n) 0)).length := by rw [bv_len]; simp [hh]; omega
  have HV := hide hval
  have HL := hide hlen
  have HS := hide hset
  have HM := hide hmid
  have hn3 := n3_nb hbn
  have hF := fun A m c w h => fromBytes_any A m c _ w h hbn
  clear hval hlen hset
  generalize hys : held.take n ++ (1 :: List.replicate (16 - n) 0) = ys at *
  clear hys
  rw [hn3] at hF
  go_enter Try.func39, Try.ntmps39
  go_wp2_with (first
    | (with_reducible refine wl_alloc rfl 46 _ (n3 0 0 0) rfl zeroN3 rfl ?_; intro g2 w1 r1 a1 l1 b1; have hr1 := hr.later b1)
    | (with_reducible refine wl_alloc rfl 73 _ (bv (List.replicate 17 0)) rfl zero17 rfl ?_; intro g3 w2 r2 a2 l2 b2; have hr3 := hr1.later b2))
  have hne : g ≠ g3 := by have := hr1.lt; omega
  have s1 := b1.size; have s2 := b2.size
  rename_i K1 hK1
  refine wp_region_vals [9] (SPc g g3 n) (JB g3 73 w2 0 (bv (List.replicate 17 0)) (bv (held.take n ++ List.replicate (17 - n) 0))) (by kernel_rfl) (by kernel_rfl) (by kernel_rfl) (by kernel_rfl) (by kernel_rfl) (JB.start r2 rfl) ?obs ?he
  case obs =>
    refine ⟨?_, ?_, ?_, ?_, ?_, ?_, ?_, ?_, ?_, ?_, trivial⟩
    · exact .inl ⟨by kernel_rfl, fun L a1 w1 n' h => ⟨_, rfl, run_sliceAll 73 (.tmp 3) 17 5 g3 rfl Try.underlying73 Try.sizeOf5 (h.var n' 3 (by kernel_rfl))⟩⟩
    · exact .inl ⟨by kernel_rfl, fun L a1 w1 n' h => ⟨_, rfl, run_move (.tmp 0) rfl (h.var n' 0 (by kernel_rfl))⟩⟩
    · refine .inl ⟨by kernel_rfl, fun L a1 w1 n' h => ⟨.pointer (some ⟨g, 0, none⟩), rfl, ?_⟩⟩
      have e0 : a1.eval (.tmp 5) = _ := h.dep n' 1 5 (by kernel_rfl) rfl
      unfold execOp
      simp only [e0]
      go_simp
    · refine .inl ⟨by kernel_rfl, fun L a1 w1 n' h => ⟨.pointer (some ⟨g, 0, none⟩), rfl, ?_⟩⟩
      have e0 : a1.eval (.tmp 6) = _ := h.dep n' 2 6 (by kernel_rfl) rfl
      unfold execOp
      simp only [e0]
      go_simp
    · exact .inl ⟨by kernel_rfl, fun L a1 w1 n' h => ⟨_, rfl, run_move (.tmp 0) rfl (h.var n' 0 (by kernel_rfl))⟩⟩
    · refine .inl ⟨by kernel_rfl, fun L a1 w1 n' h => ⟨.pointer (some ⟨g, 0, none⟩), rfl, ?_⟩⟩
      have e0 : a1.eval (.tmp 8) = _ := h.dep n' 4 8 (by kernel_rfl) rfl
      unfold execOp
      simp only [e0]
      go_simp
    · refine .inl ⟨by kernel_rfl, fun L a1 w1 n' h => ⟨.pointer (some ⟨g, 16, none⟩), rfl, ?_⟩⟩
      have e0 : a1.eval (.tmp 9) = _ := h.dep n' 5 9 (by kernel_rfl) rfl
      unfold execOp
      simp only [e0]
      go_simp
    · exact .inl ⟨by kernel_rfl, fun L a1 w1 n' h => ⟨_, rfl, run_loadA 3 (.tmp 10) ⟨g, 16, none⟩ rfl Try.isAgg3 (h.dep n' 6 10 (by kernel_rfl) rfl) ((hr3.but h.inv.2.2 hne).cell c16)⟩⟩
    · exact .inl ⟨by kernel_rfl, fun L a1 w1 n' h => ⟨_, rfl, run_sliceHi 26 (.tmp 7) (.tmp 11) 16 5 g n rfl Try.underlying26 Try.sizeOf5 (h.dep n' 3 7 (by kernel_rfl) rfl) (h.dep n' 7 11 (by kernel_rfl) rfl) hn⟩⟩
    · refine .inr fun L a1 w1 n' h K hK => ?_
      have no : L.getD 9 false = false := n'.not_yet
      refine st_copy (.tmp 4) (.tmp 12) _ _ rfl 5 Try.underlying23 u8_size g3 0 17 17 n 16 73 (g + 1) (some ⟨g, 0, none⟩) (h.dep n' 0 4 (by kernel_rfl) rfl) (h.dep n' 8 12 (by kernel_rfl) rfl) (bv (List.replicate 17 0)) (held.take n) (h.inv.1 no) (HB _ (hr3.but h.inv.2.2 hne)) (by omega) hpos (by rw [bv_len, List.length_replicate]; omega) ?_
      intro w3 r3 o3
      rw [hmid] at r3
      exact hK _ w3 rfl (h.inv.store (us := []) o3 r3 rfl)
  case he =>
    intro V w5 hV hJ
    have r5 := hJ.2.1 rfl
    have bx := hJ.2.2
    clear hV hJ
    simp only [putOps, List.setIfInBounds_toArray, List.set_cons_succ, List.set_cons_zero]
    refine hK1 _ _ ?_
    have hr5 := hr3.but bx hne
    have c5 := hr5.cell c16
    go_wp2_with (first
      | (with_reducible refine wl_store rfl 5 (.tmp 18) (.const (.int .u8 1)) g3 n 73 _ (.int .u8 1) rfl (by kernel_rfl) rfl rfl r5 hln rfl ?_; intro w7 r7 o7; rw [HS.out] at r7))
    have hbs := (Row.toOwn r7).bs (B := w7.heap.size) r7.lt
    rw [HL.out] at hbs
    refine (hF _ _ 17 _ hbs (by omega)).mono ?_
    rintro e w8 ⟨rfl, b8⟩
    have s5 := bx.size; have s7 := o7.size
    have hne2 : g2 ≠ g3 := by omega
    have r1' := (((r1.later b2).but bx hne2).only o7 hne2).later b8
    go_wp2_with (first
      | (with_reducible refine wl_store_row rfl 46 (.tmp 2) (.tmp 20) g2 46 _ (nb (leN ys)) rfl rfl rfl r1' (sizeNb _) rfl (oneNb _) ?_; intro w9 r9 o9))
    refine bodyPost_ret (v := .agg (nb (leN ys)).toArray) ?_ rfl ⟨by rw [HV.out], ?_⟩
    · exact results_cell_row Try.results39 _ _ g2 46 _ (0, 0) _ rfl r9 Try.underlying46 rfl (by simpa using sizeNb (leN ys))
    · exact (((((b1.trans (b2.mono (by omega))).trans (bx.below (by omega) (by omega))).trans (o7.below (by omega))).trans (b8.mono (by omega))).trans (o9.below (by omega)))
/-! ### The sum behind it -/
def SNx (g g2 n R S T : Nat) (held : List Int) (opn : Nat) (v : Value) : Prop :=
  match opn with
  | 0 | 1 | 4 | 5 | 6 | 9 | 10 => v = .pointer (some ⟨g, 0, none⟩)
  | 2 => v = .pointer (some ⟨g, 22, none⟩)
  | 3 => v = .agg (nb T).toArray
  | 7 => v = .agg (nb (leN (held.take n ++ [1]))).toArray
  | 8 => v = .agg (nb (T + leN (held.take n ++ [1]))).toArray
  | 11 => v = .pointer (some ⟨g, 17, none⟩)
  | 12 => v = .agg (fb R).toArray
  | 13 => v = .agg (nb (fold1 ((T + leN (held.take n ++ [1])) * R))).toArray
  | _ => True

set_option maxRecDepth 100000 in
set_option maxHeartbeats 2000000 in
theorem next_any (g n R S T : Nat) (held : List Int) (w : World) (hr0 : Row w 48 g (macL held n R S T)) (hh : held.length = 16) (hb : IsBy held) (hpos : 0 < n) (hn : n ≤ 16) (hR : R < 2 ^ 124) (hT : T < 1361129467683753853853498429727072845824 + 340282366920938463463374607431768211456) :
    Calls Try.prog 27 #[.pointer (some ⟨g, 0, none⟩)] w fun e w' => e = .returned (.agg (nb (stepI R T (held.take n))).toArray) ∧ Below w.heap.size w w' := by
  have hp := piece_lt (hb.take n) (by rw [List.length_take]; omega)
  have hX : T + leN (held.take n ++ [1]) < 2 ^ 131 := by omega
  clear hp hT
  unfold stepI
  go_enter Try.func27, Try.ntmps27
  go_wp2_with (first
    | (with_reducible refine wl_alloc rfl 46 _ (n3 0 0 0) rfl zeroN3 rfl ?_; intro g2 w1 r1 a1 l1 b1; have hr := hr0.later b1))
  have hne : g ≠ g2 := by have := hr0.lt; omega
  rename_i K1 hK1
  refine wp_region_vals [7, 8, 13, 14] (SNx g g2 n R S T held) (JB g2 46 w1 3 (n3 0 0 0) (nb (fold1 ((T + leN (held.take n ++ [1])) * R)))) (by kernel_rfl) (by kernel_rfl) (by kernel_rfl) (by kernel_rfl) (by kernel_rfl) (JB.start r1 rfl) ?obs ?he
  case obs =>
    refine ⟨?_, ?_, ?_, ?_, ?_, ?_, ?_, ?_, ?_, ?_, ?_, ?_, ?_, ?_, ?_, trivial⟩
    · exact .inl ⟨by kernel_rfl, fun L a1 w1 n' h => ⟨_, rfl, run_move (.tmp 0) rfl (h.var n' 0 (by kernel_rfl))⟩⟩
    · refine .inl ⟨by kernel_rfl, fun L a1 w1 n' h => ⟨.pointer (some ⟨g, 0, none⟩), rfl, ?_⟩⟩
      have e0 : a1.eval (.tmp 3) = _ := h.dep n' 0 3 (by kernel_rfl) rfl
      unfold execOp
      simp only [e0]
      go_simp
    · refine .inl ⟨by kernel_rfl, fun L a1 w1 n' h => ⟨.pointer (some ⟨g, 22, none⟩), rfl, ?_⟩⟩
      have e0 : a1.eval (.tmp 4) = _ := h.dep n' 1 4 (by kernel_rfl) rfl
      unfold execOp
      simp only [e0]
      go_simp
    · exact .inl ⟨by kernel_rfl, fun L a1 w1 n' h => ⟨_, rfl, run_loadP 46 (.tmp 5) g 22 48 (bv held ++ (.int .i64 (n : Int) :: (fb R ++ nb S))) (nb T) ([]) _ rfl (h.dep n' 2 5 (by kernel_rfl) rfl) (by have := hr.but h.inv.2.2 hne; simpa [macL] using this) (by simp [bv_len, fb, nb, hh]) Try.underlying46 rfl (sizeNb _)⟩⟩
    · exact .inl ⟨by kernel_rfl, fun L a1 w1 n' h => ⟨_, rfl, run_move (.tmp 0) rfl (h.var n' 0 (by kernel_rfl))⟩⟩
    · refine .inl ⟨by kernel_rfl, fun L a1 w1 n' h => ⟨.pointer (some ⟨g, 0, none⟩), rfl, ?_⟩⟩
      have e0 : a1.eval (.tmp 7) = _ := h.dep n' 4 7 (by kernel_rfl) rfl
      unfold execOp
      simp only [e0]
      go_simp
    · refine .inl ⟨by kernel_rfl, fun L a1 w1 n' h => ⟨.pointer (some ⟨g, 0, none⟩), rfl, ?_⟩⟩
      have e0 : a1.eval (.tmp 8) = _ := h.dep n' 5 8 (by kernel_rfl) rfl
      unfold execOp
      simp only [e0]
      go_simp
    · refine .inr fun L a1 w1 n' h K hK => ?_
      have e0 : a1.eval (.tmp 9) = .pointer (some ⟨g, 0, none⟩) := h.dep n' 6 9 (by kernel_rfl) rfl
      refine st_call 39 _ _ #[.pointer (some ⟨g, 0, none⟩)] rfl Try.call39 ?_ (piece_any g n R S T held w1 (hr.but h.inv.2.2 hne) hh hb hpos hn) ?_
      · simp only [List.map_toArray, List.map_cons, List.map_nil, e0]
      · rintro e w3 ⟨rfl, b9⟩
        exact ⟨_, rfl, hK _ w3 rfl (h.inv.call (us := []) b9)⟩
    · refine .inr fun L a1 w1 n' h K hK => ?_
      have e0 : a1.eval (.tmp 6) = .agg (nb T).toArray := h.dep n' 3 6 (by kernel_rfl) rfl
      have e1 : a1.eval (.tmp 10) = .agg (nb (leN (held.take n ++ [1]))).toArray := h.dep n' 7 10 (by kernel_rfl) rfl
      refine st_call 30 _ _ #[.agg (nb T).toArray, .agg (nb (leN (held.take n ++ [1]))).toArray] rfl Try.call30 ?_ (plus_any T (leN (held.take n ++ [1])) w1) ?_
      · simp only [List.map_toArray, List.map_cons, List.map_nil, e0, e1]
      · rintro e w3 ⟨rfl, b9⟩
        exact ⟨_, rfl, hK _ w3 rfl (h.inv.call (us := []) b9)⟩
    · exact .inl ⟨by kernel_rfl, fun L a1 w1 n' h => ⟨_, rfl, run_move (.tmp 0) rfl (h.var n' 0 (by kernel_rfl))⟩⟩
    · refine .inl ⟨by kernel_rfl, fun L a1 w1 n' h => ⟨.pointer (some ⟨g, 0, none⟩), rfl, ?_⟩⟩
      have e0 : a1.eval (.tmp 12) = _ := h.dep n' 9 12 (by kernel_rfl) rfl
      unfold execOp
      simp only [e0]
      go_simp
    · refine .inl ⟨by kernel_rfl, fun L a1 w1 n' h => ⟨.pointer (some ⟨g, 17, none⟩), rfl, ?_⟩⟩
      have e0 : a1.eval (.tmp 13) = _ := h.dep n' 10 13 (by kernel_rfl) rfl
      unfold execOp
      simp only [e0]
      go_simp
    · exact .inl ⟨by kernel_rfl, fun L a1 w1 n' h => ⟨_, rfl, run_loadP 44 (.tmp 14) g 17 48 (bv held ++ [.int .i64 (n : Int)]) (fb R) (nb S ++ nb T) _ rfl (h.dep n' 11 14 (by kernel_rfl) rfl) (by have := hr.but h.inv.2.2 hne; simpa [macL] using this) (by simp [bv_len, fb, nb, hh]) Try.underlying44 rfl (by kernel_rfl)⟩⟩
    · refine .inr fun L a1 w1 n' h K hK => ?_
      have e0 : a1.eval (.tmp 11) = .agg (nb (T + leN (held.take n ++ [1]))).toArray := h.dep n' 8 11 (by kernel_rfl) rfl
      have e1 : a1.eval (.tmp 15) = .agg (fb R).toArray := h.dep n' 12 15 (by kernel_rfl) rfl
      refine st_call 38 _ _ #[.agg (nb (T + leN (held.take n ++ [1]))).toArray, .agg (fb R).toArray] rfl Try.call38 ?_ (times_any (T + leN (held.take n ++ [1])) R w1 hX hR) ?_
      · simp only [List.map_toArray, List.map_cons, List.map_nil, e0, e1]
      · rintro e w3 ⟨rfl, b9⟩
        exact ⟨_, rfl, hK _ w3 rfl (h.inv.call (us := []) b9)⟩
    · refine .inr fun L a1 w1 n' h K hK => ?_
      have no : L.getD 14 false = false := n'.not_yet
      refine st_store_row 46 (.tmp 2) (.tmp 16) g2 46 (n3 0 0 0) (nb (fold1 ((T + leN (held.take n ++ [1])) * R))) rfl (h.var n' 2 (by kernel_rfl)) (h.dep n' 13 16 (by kernel_rfl) rfl) (h.inv.1 no) (sizeNb _) rfl (oneNb _) ?_
      intro w3 r3 o3
      exact hK undef w3 trivial (h.inv.store (us := []) o3 r3 rfl)
  case he =>
    intro V w5 hV hJ
    have r5 := hJ.2.1 rfl
    have bx := hJ.2.2
    clear hV hJ
    simp only [putOps, List.setIfInBounds_toArray, List.set_cons_succ, List.set_cons_zero]
    refine hK1 _ _ ?_
    go_wp2
    refine bodyPost_ret (v := .agg (nb (fold1 ((T + leN (held.take n ++ [1])) * R))).toArray) ?_ rfl ⟨rfl, ?_⟩
    · exact results_cell_row Try.results27 _ _ g2 46 _ (0, 0) _ rfl r5 Try.underlying46 rfl (by simpa using sizeNb (fold1 ((T + leN (held.take n ++ [1])) * R)))
    · exact b1.trans (bx.below a1 b1.size)
end Go.Proofs.Ytcinhofapkddpaa

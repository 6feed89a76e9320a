/-
  Commands: finding a spec; the example. Contracts. Own work.
-/
import Derived.Test.YtolmomnocfkhoaaDoorVerbL
import Derived.Test.YtolmomnocfkhoaaDoorVerbF
import Derived.Test.YtolmomnocfkhoaaDoorVerbG
namespace Go.Proofs.YtolmomnocfkhoaaDoor
open Go.RowKit
set_option linter.unusedVariables false
set_option linter.unusedSimpArgs false
def FD2 (x : Sp) (g4 : Nat) (BB : Bool) (opn : Nat) (v : Value) : Prop :=
  match opn with
  | 0 => v = x.val
  | 1 => v = .pointer (some ⟨g4, 3, none⟩)
  | 2 => v = encStr x.nm
  | 3 | 5 => v = .bool BB
  | _ => True

set_option maxRecDepth 100000 in
set_option maxHeartbeats 1000000 in
theorem find_of (w : World) (name : List UInt8) (hl : name.length ≤ 1000000) (x : Sp) (hS : ∀ w, Calls Tryd.prog 27 #[encStr (upL name)] w fun e w' => e = .returned x.val ∧ Below w.heap.size w w') :
    Calls Tryd.prog 10 #[encStr name] w fun e w' => e = .returned (.tuple #[x.val, .bool (!decide (x.nm = []))]) ∧ Below w.heap.size w w' := by
  have HU := fun w => upper_any w name hl
  generalize upL name = U at *
  obtain ⟨BB, hBB⟩ : ∃ b, b = (!decide (x.nm = [])) := ⟨_, rfl⟩
  rw [← hBB]
  have hbb := hide hBB.symm
  clear hBB hl
  go_enter Tryd.func10, Tryd.ntmps10
  go_wp2_with (first
    | ((with_reducible refine wl_alloc (o := ⟨some 2, _, _, _, _, _⟩) rfl 26 _ [.int .i64 0, .int .i64 0, .int .i64 0, encStr [], .int .i64 0, .int .i64 0, .bool false, .bool false, .bool false] rfl rfl rfl ?_); intro g2 w2 r2 p2 l2 b2))
  refine (HU w2).mono ?_
  rintro e w3 ⟨rfl, b3⟩
  clear HU
  go_wp2_with fail
  refine (hS w3).mono ?_
  rintro e w4 ⟨rfl, b4⟩
  clear hS
  have r2 := (r2.later b3).later b4
  have B4 := b2.trans ((b3.trans (b4.mono b3.size)).mono b2.size)
  have lt2 := r2.lt
  replace r2 := hide r2
  go_wp2_with (first
    | ((with_reducible refine wl_alloc (o := ⟨some 4, _, _, _, _, _⟩) rfl 26 _ [.int .i64 0, .int .i64 0, .int .i64 0, encStr [], .int .i64 0, .int .i64 0, .bool false, .bool false, .bool false] rfl rfl rfl ?_); intro g4 w5 r4 p4 l4 b5)
    | ((with_reducible refine wl_store_row rfl 26 (.tmp 4) (.tmp 7) g4 26 _ x.cells rfl rfl rfl r4 (szSp _ _ _ _ _ _ _ _ _) rfl (one9 _ _ _ _ _ _ _ _ _) ?_); intro w6 r4 o6))
  have hne := hide (show g4 ≠ g2 by omega)
  have r26 := (r2.out.later b5).only o6 (Ne.symm hne.out)
  have B6 := B4.trans ((b5.trans (o6.below p4)).mono B4.size)
  rename_i K2 hK2
  refine wp_region_vals [4] (FD2 x g4 BB) (JB g2 26 w6 0 [.int .i64 0, .int .i64 0, .int .i64 0, encStr [], .int .i64 0, .int .i64 0, .bool false, .bool false, .bool false] x.cells) (by kernel_rfl) (by kernel_rfl) (by kernel_rfl) (by kernel_rfl) (by kernel_rfl) (JB.start r26 rfl) ?obs ?he
  case obs =>
    refine ⟨?_, ?_, ?_, ?_, ?_, ?_, trivial⟩
    · exact .inl ⟨by kernel_rfl, fun L a1 w1 n' h => ⟨_, rfl, run_loadRow 26 (.tmp 4) g4 26 _ _ rfl (h.var n' 4 (by kernel_rfl)) (r4.but h.inv.2.2 hne.out) Tryd.underlying26 rfl (szSp _ _ _ _ _ _ _ _ _)⟩⟩
    · refine .inl ⟨by kernel_rfl, fun L a1 w1 n' h => ⟨.pointer (some ⟨g4, 3, none⟩), rfl, ?_⟩⟩
      have e0 : a1.eval (.tmp 4) = _ := h.var n' 4 (by kernel_rfl)
      unfold execOp
      simp only [e0]
      go_simp
    · exact .inl ⟨by kernel_rfl, fun L a1 w1 n' h => ⟨_, rfl, run_load1 9 (.tmp 9) g4 3 _ rfl Tryd.isAgg9 (h.dep n' 1 9 (by kernel_rfl) rfl) (Row.cell (r4.but h.inv.2.2 hne.out) (j := 3) rfl)⟩⟩
    · exact .inl ⟨by kernel_rfl, fun L a1 w1 n' h => ⟨_, rfl, run_neStr (.tmp 10) (.const (.string { data := #[] })) rfl (h.dep n' 2 10 (by kernel_rfl) rfl) rfl hbb.out⟩⟩
    · refine .inr fun L a1 w1 n' h K hK => ?_
      have no : L.getD 4 false = false := n'.not_yet
      refine st_store_row 26 (.tmp 2) (.tmp 8) g2 26 ([.int .i64 0, .int .i64 0, .int .i64 0, encStr [], .int .i64 0, .int .i64 0, .bool false, .bool false, .bool false]) (x.cells) rfl (h.var n' 2 (by kernel_rfl)) (h.dep n' 0 8 (by kernel_rfl) rfl) (h.inv.1 no) (szSp _ _ _ _ _ _ _ _ _) rfl ((one9 _ _ _ _ _ _ _ _ _)) ?_
      intro w3 r3 o3
      exact hK undef w3 trivial (JB.store h.inv o3 r3 rfl)
    · exact .inl ⟨by kernel_rfl, fun L a1 w1 n' h => ⟨_, rfl, run_assign (.tmp 11) rfl (h.dep n' 3 11 (by kernel_rfl) rfl)⟩⟩
  case he =>
    intro V wz hV hJ
    have rz := hJ.2.1 rfl
    have bu := hJ.2.2
    have e1 : V 5 = .bool BB := hV 5 _ rfl
    clear hV hJ
    simp only [putOps, List.setIfInBounds_toArray, List.set_cons_succ, List.set_cons_zero, Nat.reduceAdd, Act.put]
    rw [e1]
    refine hK2 _ _ ?_
    go_wp2_with fail
    refine bodyPost_ret (v := .tuple #[x.val, .bool BB]) ?_ rfl ⟨rfl, B6.trans (bu.below p2 B6.size)⟩
    exact results_rt2 Tryd.results10 _ _ g2 26 _ _ _ rfl rz Tryd.underlying26 rfl (szSp _ _ _ _ _ _ _ _ _) rfl
set_option maxRecDepth 100000 in
set_option maxHeartbeats 2000000 in
theorem spec_get (w : World) : Calls Tryd.prog 27 #[encStr [71, 69, 84]] w fun e w' => e = .returned (Sp.val (rdS [71, 69, 84] 2 2)) ∧ Below w.heap.size w w' := by
  have H := fun w => reads_any w [71, 69, 84] 2 2
  go_enter Tryd.func27, Tryd.ntmps27
  go_wp2_with (first
    | ((with_reducible refine wl_alloc (o := ⟨some 2, _, _, _, _, _⟩) rfl 26 _ [.int .i64 0, .int .i64 0, .int .i64 0, encStr [], .int .i64 0, .int .i64 0, .bool false, .bool false, .bool false] rfl rfl rfl ?_); intro g2 w2 r2 p2 l2 b2))
  refine (H w2).mono ?_
  rintro e w3 ⟨rfl, b3⟩
  have r2 := r2.later b3
  clear H
  go_wp2_with (first
    | ((with_reducible refine wl_store_row rfl 26 (.tmp 2) (.tmp 60) g2 26 _ (Sp.cells (rdS [71, 69, 84] 2 2)) rfl rfl rfl r2 (szSp _ _ _ _ _ _ _ _ _) rfl (one9 _ _ _ _ _ _ _ _ _) ?_); intro w4 r4 o4))
  refine bodyPost_ret (v := Sp.val (rdS [71, 69, 84] 2 2)) ?_ rfl ⟨rfl, (b2.trans (b3.mono b2.size)).trans (o4.below p2)⟩
  exact results_cell_row Tryd.results27 _ _ g2 26 _ (0, 0) _ rfl r4 Tryd.underlying26 rfl (szSp _ _ _ _ _ _ _ _ _)
theorem int_007 : intL [48, 48, 55] = (0, false) := by
  have e : Lib.atoiAll [48, 48, 55] = .ok 7 := by decide
  unfold intL
  rw [e]
  have e2 : Lib.itoa 7 = [55] := by
    unfold Lib.itoa
    rw [if_neg (by decide)]
    exact decDigits_small (by decide)
  simp only
  rw [e2]
  rfl
theorem parts_ex : partsL [104, 91, 97, 45, 99, 93, 63, 42] = [⟨0, [104]⟩, ⟨0, [97, 45, 99]⟩, ⟨2, []⟩, ⟨3, []⟩] := by
  have e1 : cutPartL 104 [91, 97, 45, 99, 93, 63, 42] = (⟨0, [104]⟩, [91, 97, 45, 99, 93, 63, 42]) := by decide
  have e2 : cutPartL 91 [97, 45, 99, 93, 63, 42] = (⟨0, [97, 45, 99]⟩, [63, 42]) := by decide
  have e3 : cutPartL 63 [42] = (⟨2, []⟩, [42]) := by decide
  have e4 : cutPartL 42 [] = (⟨3, []⟩, []) := by decide
  rw [partsL_cons, e1]
  simp only
  rw [partsL_cons, e2]
  simp only
  rw [partsL_cons, e3]
  simp only
  rw [partsL_cons, e4]
  simp only
  rw [partsL]
theorem match_ex : lang (partsL [104, 91, 97, 45, 99, 93, 63, 42]) [104, 98, 120] = true := by
  rw [parts_ex]
  simp [lang, Pt.takes, tellsL]
set_option maxRecDepth 100000 in
set_option maxHeartbeats 1000000 in
theorem awake_any (w : World) (hT : TabV w) : Calls Tryd.prog 9 #[] w fun e w' => e = .returned (.bool true) ∧ Below w.heap.size w w' := by
  have H1 := int_any [48, 48, 55] (by decide) w hT
  rw [int_007] at H1
  have H2 := fun w => find_of w [103, 101, 116] (by decide) (rdS [71, 69, 84] 2 2) (fun w => spec_get w)
  have H3 := fun w => match_any w [104, 91, 97, 45, 99, 93, 63, 42] [104, 98, 120] (by decide) (by decide)
  rw [match_ex] at H3
  clear hT
  go_enter Tryd.func9, Tryd.ntmps9
  go_wp2_with fail
  refine H1.mono ?_
  rintro e w1 ⟨rfl, b1⟩
  clear H1
  go_wp2_with fail
  refine (H2 w1).mono ?_
  rintro e w2 ⟨rfl, b2⟩
  clear H2
  go_wp2_with (first
    | ((with_reducible refine wl_alloc (o := ⟨some 3, _, _, _, _, _⟩) rfl 26 _ [.int .i64 0, .int .i64 0, .int .i64 0, encStr [], .int .i64 0, .int .i64 0, .bool false, .bool false, .bool false] rfl rfl rfl ?_); intro g3 w3 r3 p3 l3 b3)
    | ((with_reducible refine wl_store_row rfl 26 (.tmp 3) (.tmp 11) g3 26 _ (Sp.cells (rdS [71, 69, 84] 2 2)) rfl rfl rfl r3 (szSp _ _ _ _ _ _ _ _ _) rfl (one9 _ _ _ _ _ _ _ _ _) ?_); intro w4 r4 o4))
  refine (H3 w4).mono ?_
  rintro e w5 ⟨rfl, b5⟩
  clear H3
  have r5 := r4.later b5
  have c3 := r5.cell (j := 3) rfl
  have c5 := r5.cell (j := 5) rfl
  have c6 := r5.cell (j := 6) rfl
  go_wp2_with fail
  go_ret
  exact ⟨rfl, b1.trans ((b2.trans ((b3.trans ((o4.below p3).trans (b5.mono (by have := b3.size; have := o4.size; omega)))).mono b2.size)).mono b1.size)⟩
end Go.Proofs.YtolmomnocfkhoaaDoor

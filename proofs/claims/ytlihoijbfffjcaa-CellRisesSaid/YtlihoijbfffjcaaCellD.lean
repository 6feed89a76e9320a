/-
  The cell: new, life, pin, birth: contracts. Own work.
-/
import Derived.Test.YtlihoijbfffjcaaCellC
import Derived.Test.YtlihoijbfffjcaaCmp
namespace Go.Proofs.Ytlihoijbfffjcaa
open Go.RowKit
set_option linter.unusedVariables false
set_option linter.unusedSimpArgs false
/-- A cell, as its block holds it; bounds. -/
abbrev cellL (made : Bool) (P : Option Addr) (m1 m2 life a b : Int) : List Value := [.bool made, .pointer P, .int .i64 m1, .int .i64 m2, .int .i64 life, .int .i64 a, .int .i64 b]
abbrev bdsL (n s p g l e c : Int) : List Value := [.int .i64 n, .int .i64 s, .int .i64 p, .int .i64 g, .int .i64 l, .int .i64 e, .int .i64 c]
abbrev Cel (w : World) (g : Nat) (made : Bool) (P : Option Addr) (m1 m2 life a b : Int) : Prop := Row w 100 g (cellL made P m1 m2 life a b)
theorem builtCell (P : Option Addr) (a b : Int) : Try.prog.built 100 [(0, .bool true), (1, .pointer P), (2, pin a b)] = some (cellL true P a b 0 0 0).toArray := by kernel_rfl
theorem new_any (P : Option Addr) (n s p g l e c : Int) (w : World) : Calls Try.prog 45 #[.pointer P, .agg (bdsL n s p g l e c).toArray] w fun en w' => ∃ gc, en = .returned (ptr gc) ∧ Cel w' gc true P (bnd l) (bnd p) 0 0 0 ∧ w.heap.size ≤ gc ∧ Below w.heap.size w w' := by
  have bp := builtPin
  have bc := builtCell
  go_enter Try.func45, Try.ntmps45
  go_wp2_with (first
    | (with_reducible refine wl_box rfl 77 (.tmp 1) _ (bdsL n s p g l e c) rfl rfl rfl ?_; intro g1 w1 r1 p1 l1 b1; have c0 := r1.cell (j := 4) (v := .int .i64 l) rfl; have c1 := r1.cell (j := 2) (v := .int .i64 p) rfl)
    | ((with_reducible refine wl_build rfl 83 _ rfl _ ?hv _ (bp l p) ?hk); case hv => rfl))
  refine (alz_any l p w1).mono ?_
  rintro en w2 ⟨rfl, b2⟩
  go_wp2_with fail
  refine (amn_any _ _ w2).mono ?_
  rintro en w3 ⟨rfl, b3⟩
  have B2 := b1.trans (b2.mono b1.size)
  have B3 := B2.trans (b3.mono B2.size)
  go_wp2_with (first
    | ((with_reducible refine wl_build rfl 100 _ rfl _ ?hv3 _ (bc P (min (max l 0) mostN) (min (max p 0) mostN)) ?hk3); case hv3 => rfl)
    | (with_reducible refine wl_box rfl 100 (.tmp 13) _ (cellL true P (min (max l 0) mostN) (min (max p 0) mostN) 0 0 0) rfl rfl rfl ?_; intro g4 w4 r4 p4 l4 b4))
  go_ret
  exact ⟨g4, rfl, r4, Nat.le_trans B3.size p4, B3.trans (b4.mono B3.size)⟩
theorem life_any (w : World) (g : Nat) (made : Bool) (P : Option Addr) (m1 m2 life a b : Int) (h : Cel w g made P m1 m2 life a b) : Calls Try.prog 50 #[ptr g] w fun e w' => e = .returned (.int .i64 life) ∧ w = w' := by
  have c0 := h.cell (j := 4) (v := .int .i64 life) rfl
  go_enter Try.func50, Try.ntmps50
  go_wp2
  go_ret
  exact ⟨rfl, rfl⟩
theorem life_nil (w : World) : Calls Try.prog 50 #[.pointer none] w fun e w' => e = .returned (.int .i64 0) ∧ w = w' := by
  go_enter Try.func50, Try.ntmps50
  go_wp2
  go_ret
  exact ⟨rfl, rfl⟩
theorem cut5 {w : World} {t g : Nat} {x0 x1 x2 x3 x4 x5 x6 : Value} (h : Row w t g [x0, x1, x2, x3, x4, x5, x6]) : Row w t g ([x0, x1, x2, x3, x4] ++ ([x5, x6] ++ [])) := h
theorem pin_any (w : World) (g : Nat) (made : Bool) (P : Option Addr) (m1 m2 life a b : Int) (h : Cel w g made P m1 m2 life a b) : Calls Try.prog 51 #[ptr g] w fun e w' => e = .returned (pin a b) ∧ Below w.heap.size w w' := by
  go_enter Try.func51, Try.ntmps51
  go_wp2_with (first
    | (with_reducible refine wl_alloc rfl 83 _ [.int .i64 0, .int .i64 0] rfl zeroPin rfl ?_; intro g2 w2 r2 p2 l2 b2; have h' := cut5 (Row.later h b2))
    | (with_reducible refine wl_load_part rfl 83 (.tmp 8) g 5 100 [.bool made, .pointer P, .int .i64 m1, .int .i64 m2, .int .i64 life] [.int .i64 a, .int .i64 b] [] _ rfl rfl h' rfl Try.underlying83 rfl (szPin _ _) ?_)
    | (with_reducible refine wl_store_row rfl 83 (.tmp 2) (.tmp 9) g2 83 _ [.int .i64 a, .int .i64 b] rfl rfl rfl r2 (szPin _ _) rfl (one_pin _ _) ?_; intro w3 r3 o3))
  try simp only [Act.put, List.setIfInBounds_toArray, List.set_cons_succ, List.set_cons_zero]
  refine bodyPost_ret (v := pin a b) ?_ rfl ⟨rfl, ?_⟩
  · exact results_cell_row Try.results51 _ _ g2 83 _ (0, 0) _ rfl r3 Try.underlying83 rfl (szPin _ _)
  · exact b2.trans (o3.below p2)
theorem pin_nil (w : World) : Calls Try.prog 51 #[.pointer none] w fun e w' => e = .returned (pin 0 0) ∧ Below w.heap.size w w' := by
  have bp := builtPin0
  go_enter Try.func51, Try.ntmps51
  go_wp2_with (first
    | (with_reducible refine wl_alloc rfl 83 _ [.int .i64 0, .int .i64 0] rfl zeroPin rfl ?_; intro g2 w2 r2 p2 l2 b2)
    | ((with_reducible refine wl_build rfl 83 _ rfl _ ?hv _ bp ?hk); case hv => rfl)
    | (with_reducible refine wl_store_row rfl 83 (.tmp 2) (.tmp 5) g2 83 _ [.int .i64 0, .int .i64 0] rfl rfl rfl r2 (szPin _ _) rfl (one_pin _ _) ?_; intro w3 r3 o3))
  simp only [Act.put, List.setIfInBounds_toArray, List.set_cons_succ, List.set_cons_zero]
  refine bodyPost_ret (v := pin 0 0) ?_ rfl ⟨rfl, ?_⟩
  · exact results_cell_row Try.results51 _ _ g2 83 _ (0, 0) _ rfl r3 Try.underlying83 rfl (szPin _ _)
  · exact b2.trans (o3.below p2)
def FNo (opn : Nat) (v : Value) (w : World) : Prop := True
theorem FNo_mono : ∀ j v w w', FNo j v w → Below w.heap.size w w' → FNo j v w' := fun _ _ _ _ _ _ => trivial
def SBt (g : Nat) (m1 life : Int) (opn : Nat) (v : Value) : Prop :=
  match opn with
  | 0 | 1 | 4 | 5 => v = ptr g
  | 2 => v = .pointer (some ⟨g, 4, none⟩)
  | 3 => v = .int .i64 life
  | 6 | 7 => v = .pointer (some ⟨g, 2, none⟩)
  | 8 => v = .int .i64 m1
  | 9 => v = .bool true
  | _ => True

def SBf (g : Nat) (m1 life : Int) (opn : Nat) (v : Value) : Prop :=
  match opn with
  | 0 | 1 | 4 | 5 => v = ptr g
  | 2 => v = .pointer (some ⟨g, 4, none⟩)
  | 3 => v = .int .i64 life
  | 6 | 7 => v = .pointer (some ⟨g, 2, none⟩)
  | 8 => v = .int .i64 m1
  | 9 => v = .bool false
  | _ => True

theorem birth_nil (w : World) : Calls Try.prog 46 #[.pointer none] w fun e w' => e = .returned (.tuple #[.int .i64 0, .int .i64 2]) ∧ w = w' := by
  go_enter Try.func46, Try.ntmps46
  go_wp2
  go_ret2
  exact ⟨rfl, rfl⟩
theorem birth_not (w : World) (g : Nat) (P : Option Addr) (m1 m2 life a b : Int) (hc : Cel w g false P m1 m2 life a b) : Calls Try.prog 46 #[ptr g] w fun e w' => e = .returned (.tuple #[.int .i64 0, .int .i64 2]) ∧ w = w' := by
  have c0 := hc.cell (j := 0) (v := .bool false) rfl
  go_enter Try.func46, Try.ntmps46
  go_wp2
  go_ret2
  exact ⟨rfl, rfl⟩
set_option maxRecDepth 100000 in
set_option maxHeartbeats 1000000 in
theorem birth_full (w : World) (g : Nat) (P : Option Addr) (m1 m2 life a b : Int) (hc : Cel w g true P m1 m2 life a b) (hr : decide (m1 ≤ life) = true) : Calls Try.prog 46 #[ptr g] w fun e w' => e = .returned (.tuple #[.int .i64 0, .int .i64 7]) ∧ Below w.heap.size w w' := by
  have c0 := hc.cell (j := 0) (v := .bool true) rfl
  go_enter Try.func46, Try.ntmps46
  go_wp2
  rename_i Q1 K1 hK1
  clear c0
  refine wp_region_valsS [] (SBt g m1 life) (JF w [] FNo) (by kernel_rfl) (by kernel_rfl) (by kernel_rfl) (by kernel_rfl) (JF.start _) ?obs ?he
  case obs =>
    refine ⟨?_, ?_, ?_, ?_, ?_, ?_, ?_, ?_, ?_, ?_, trivial⟩
    · refine .inl ⟨.inl rfl, ?_⟩
      exact .inl ⟨by kernel_rfl, fun L a1 w1 n h => ⟨_, rfl, run_move (.tmp 0) rfl (h.var n 0 (by kernel_rfl))⟩⟩
    · refine .inl ⟨.inl rfl, ?_⟩
      refine .inl ⟨by kernel_rfl, fun L a1 w1 n h => ⟨ptr g, rfl, ?_⟩⟩
      have e0 : a1.eval (.tmp 14) = _ := h.dep n 0 14 (by kernel_rfl) rfl
      unfold execOp
      simp only [e0]
      go_simp
    · refine .inl ⟨.inl rfl, ?_⟩
      refine .inl ⟨by kernel_rfl, fun L a1 w1 n h => ⟨.pointer (some ⟨g, 4, none⟩), rfl, ?_⟩⟩
      have e0 : a1.eval (.tmp 15) = _ := h.dep n 1 15 (by kernel_rfl) rfl
      unfold execOp
      simp only [e0]
      go_simp
    · refine .inl ⟨.inl rfl, ?_⟩
      exact .inl ⟨by kernel_rfl, fun L a1 w1 n h => ⟨_, rfl, run_loadA 3 (.tmp 16) ⟨g, 4, none⟩ rfl Try.isAgg3 (h.dep n 2 16 (by kernel_rfl) rfl) ((Row.later hc h.inv.1).cell (j := 4) (v := .int .i64 life) rfl)⟩⟩
    · refine .inl ⟨.inl rfl, ?_⟩
      exact .inl ⟨by kernel_rfl, fun L a1 w1 n h => ⟨_, rfl, run_move (.tmp 0) rfl (h.var n 0 (by kernel_rfl))⟩⟩
    · refine .inl ⟨.inl rfl, ?_⟩
      refine .inl ⟨by kernel_rfl, fun L a1 w1 n h => ⟨ptr g, rfl, ?_⟩⟩
      have e0 : a1.eval (.tmp 18) = _ := h.dep n 4 18 (by kernel_rfl) rfl
      unfold execOp
      simp only [e0]
      go_simp
    · refine .inl ⟨.inl rfl, ?_⟩
      refine .inl ⟨by kernel_rfl, fun L a1 w1 n h => ⟨.pointer (some ⟨g, 2, none⟩), rfl, ?_⟩⟩
      have e0 : a1.eval (.tmp 19) = _ := h.dep n 5 19 (by kernel_rfl) rfl
      unfold execOp
      simp only [e0]
      go_simp
    · refine .inl ⟨.inl rfl, ?_⟩
      refine .inl ⟨by kernel_rfl, fun L a1 w1 n h => ⟨.pointer (some ⟨g, 2, none⟩), rfl, ?_⟩⟩
      have e0 : a1.eval (.tmp 20) = _ := h.dep n 6 20 (by kernel_rfl) rfl
      unfold execOp
      simp only [e0]
      go_simp
    · refine .inl ⟨.inl rfl, ?_⟩
      exact .inl ⟨by kernel_rfl, fun L a1 w1 n h => ⟨_, rfl, run_loadA 3 (.tmp 21) ⟨g, 2, none⟩ rfl Try.isAgg3 (h.dep n 7 21 (by kernel_rfl) rfl) ((Row.later hc h.inv.1).cell (j := 2) (v := .int .i64 m1) rfl)⟩⟩
    · refine .inl ⟨.inl rfl, ?_⟩
      exact .inl ⟨by kernel_rfl, fun L a1 w1 n h => ⟨_, rfl, run_geqI (.tmp 17) (.tmp 22) rfl (h.dep n 3 17 (by kernel_rfl) rfl) (h.dep n 8 22 (by kernel_rfl) rfl) hr⟩⟩
  case he =>
    intro V w5 hV2 hJ
    have h9 : V 9 = .bool true := hV2 9 23 rfl
    have hB : Below w.heap.size w w5 := hJ.1
    clear hV2 hJ
    simp only [putOps, List.setIfInBounds_toArray, List.set_cons_succ, List.set_cons_zero, Nat.reduceAdd]
    rw [h9]
    refine hK1 _ _ ?_
    go_wp2
    go_ret2
    exact ⟨rfl, hB⟩
set_option maxRecDepth 100000 in
set_option maxHeartbeats 1000000 in
/-- The power of a cell without one is off. -/
theorem birth_off (w : World) (g : Nat) (m1 m2 life a b : Int) (hc : Cel w g true none m1 m2 life a b) (hr : decide (m1 ≤ life) = false) : Calls Try.prog 46 #[ptr g] w fun e w' => e = .returned (.tuple #[.int .i64 0, .int .i64 8]) ∧ Below w.heap.size w w' := by
  have c0 := hc.cell (j := 0) (v := .bool true) rfl
  go_enter Try.func46, Try.ntmps46
  go_wp2
  rename_i Q1 K1 hK1
  clear c0
  refine wp_region_valsS [] (SBf g m1 life) (JF w [] FNo) (by kernel_rfl) (by kernel_rfl) (by kernel_rfl) (by kernel_rfl) (JF.start _) ?obs ?he
  case obs =>
    refine ⟨?_, ?_, ?_, ?_, ?_, ?_, ?_, ?_, ?_, ?_, trivial⟩
    · refine .inl ⟨.inl rfl, ?_⟩
      exact .inl ⟨by kernel_rfl, fun L a1 w1 n h => ⟨_, rfl, run_move (.tmp 0) rfl (h.var n 0 (by kernel_rfl))⟩⟩
    · refine .inl ⟨.inl rfl, ?_⟩
      refine .inl ⟨by kernel_rfl, fun L a1 w1 n h => ⟨ptr g, rfl, ?_⟩⟩
      have e0 : a1.eval (.tmp 14) = _ := h.dep n 0 14 (by kernel_rfl) rfl
      unfold execOp
      simp only [e0]
      go_simp
    · refine .inl ⟨.inl rfl, ?_⟩
      refine .inl ⟨by kernel_rfl, fun L a1 w1 n h => ⟨.pointer (some ⟨g, 4, none⟩), rfl, ?_⟩⟩
      have e0 : a1.eval (.tmp 15) = _ := h.dep n 1 15 (by kernel_rfl) rfl
      unfold execOp
      simp only [e0]
      go_simp
    · refine .inl ⟨.inl rfl, ?_⟩
      exact .inl ⟨by kernel_rfl, fun L a1 w1 n h => ⟨_, rfl, run_loadA 3 (.tmp 16) ⟨g, 4, none⟩ rfl Try.isAgg3 (h.dep n 2 16 (by kernel_rfl) rfl) ((Row.later hc h.inv.1).cell (j := 4) (v := .int .i64 life) rfl)⟩⟩
    · refine .inl ⟨.inl rfl, ?_⟩
      exact .inl ⟨by kernel_rfl, fun L a1 w1 n h => ⟨_, rfl, run_move (.tmp 0) rfl (h.var n 0 (by kernel_rfl))⟩⟩
    · refine .inl ⟨.inl rfl, ?_⟩
      refine .inl ⟨by kernel_rfl, fun L a1 w1 n h => ⟨ptr g, rfl, ?_⟩⟩
      have e0 : a1.eval (.tmp 18) = _ := h.dep n 4 18 (by kernel_rfl) rfl
      unfold execOp
      simp only [e0]
      go_simp
    · refine .inl ⟨.inl rfl, ?_⟩
      refine .inl ⟨by kernel_rfl, fun L a1 w1 n h => ⟨.pointer (some ⟨g, 2, none⟩), rfl, ?_⟩⟩
      have e0 : a1.eval (.tmp 19) = _ := h.dep n 5 19 (by kernel_rfl) rfl
      unfold execOp
      simp only [e0]
      go_simp
    · refine .inl ⟨.inl rfl, ?_⟩
      refine .inl ⟨by kernel_rfl, fun L a1 w1 n h => ⟨.pointer (some ⟨g, 2, none⟩), rfl, ?_⟩⟩
      have e0 : a1.eval (.tmp 20) = _ := h.dep n 6 20 (by kernel_rfl) rfl
      unfold execOp
      simp only [e0]
      go_simp
    · refine .inl ⟨.inl rfl, ?_⟩
      exact .inl ⟨by kernel_rfl, fun L a1 w1 n h => ⟨_, rfl, run_loadA 3 (.tmp 21) ⟨g, 2, none⟩ rfl Try.isAgg3 (h.dep n 7 21 (by kernel_rfl) rfl) ((Row.later hc h.inv.1).cell (j := 2) (v := .int .i64 m1) rfl)⟩⟩
    · refine .inl ⟨.inl rfl, ?_⟩
      exact .inl ⟨by kernel_rfl, fun L a1 w1 n h => ⟨_, rfl, run_geqI (.tmp 17) (.tmp 22) rfl (h.dep n 3 17 (by kernel_rfl) rfl) (h.dep n 8 22 (by kernel_rfl) rfl) hr⟩⟩
  case he =>
    intro V w5 hV2 hJ
    have h9 : V 9 = .bool false := hV2 9 23 rfl
    have hB : Below w.heap.size w w5 := hJ.1
    have hc5 := Row.later hc hB
    have c1 := hc5.cell (j := 1) (v := .pointer none) rfl
    clear hV2 hJ
    simp only [putOps, List.setIfInBounds_toArray, List.set_cons_succ, List.set_cons_zero, Nat.reduceAdd]
    rw [h9]
    refine hK1 _ _ ?_
    go_wp2_with fail
    refine (pAct_nil w5).mono ?_
    rintro en w6 ⟨rfl, rfl⟩
    go_wp2_with fail
    go_ret2
    exact ⟨rfl, hB⟩
/-- What birth tells and leaves. -/
def birV (e life : Int) : Int × Int := if e = 0 then (life + 1, 0) else (0, e)
def birL (e life : Int) : Int := if e = 0 then life + 1 else life
theorem lt7 (x0 x1 x2 x3 x4 x5 x6 : Value) {j : Nat} (h : j < 7) : j < [x0, x1, x2, x3, x4, x5, x6].length := h
set_option maxRecDepth 100000 in
set_option maxHeartbeats 1000000 in
theorem birth_some (w : World) (g gP gp : Nat) (m1 m2 life a b : Int) (on : Bool) (fuse : Int) (hc : Cel w g true (some ⟨gP, 0, none⟩) m1 m2 life a b) (hr : decide (m1 ≤ life) = false) (hp : Pwr w gP gp) (hg : Plg w gp on fuse) (hf : isI fuse) (hl : isI life) (hm : isI m1) (h1 : g ≠ gp) :
    Calls Try.prog 46 #[ptr g] w fun e w' => e = .returned (.tuple #[.int .i64 (birV (actE on fuse) life).1, .int .i64 (birV (actE on fuse) life).2]) ∧ Cel w' g true (some ⟨gP, 0, none⟩) m1 m2 (birL (actE on fuse) life) a b ∧ Plg w' gp (on && actOn on fuse) (actF on fuse) ∧ Buts [g, gp] w w' := by
  have c0 := hc.cell (j := 0) (v := .bool true) rfl
  have hA := fun w hp h => pAct_any w gP gp on fuse hp h hf
  have hE : actE on fuse = 0 ∨ actE on fuse = 8 := by
    unfold actE; split
    · exact .inr rfl
    · split
      · exact .inr rfl
      · exact .inl rfl
  generalize actE on fuse = E at *
  generalize hx : (on && actOn on fuse) = on2 at *
  generalize hy : actF on fuse = f2 at *
  have hlt : life < m1 := by simpa using hr
  obtain ⟨l0, l1⟩ := hl
  obtain ⟨m0, m1'⟩ := hm
  clear hx hy
  go_enter Try.func46, Try.ntmps46
  go_wp2
  rename_i Q1 K1 hK1
  clear c0
  refine wp_region_valsS [] (SBf g m1 life) (JF w [] FNo) (by kernel_rfl) (by kernel_rfl) (by kernel_rfl) (by kernel_rfl) (JF.start _) ?obs ?he
  case obs =>
    refine ⟨?_, ?_, ?_, ?_, ?_, ?_, ?_, ?_, ?_, ?_, trivial⟩
    · refine .inl ⟨.inl rfl, ?_⟩
      exact .inl ⟨by kernel_rfl, fun L a1 w1 n h => ⟨_, rfl, run_move (.tmp 0) rfl (h.var n 0 (by kernel_rfl))⟩⟩
    · refine .inl ⟨.inl rfl, ?_⟩
      refine .inl ⟨by kernel_rfl, fun L a1 w1 n h => ⟨ptr g, rfl, ?_⟩⟩
      have e0 : a1.eval (.tmp 14) = _ := h.dep n 0 14 (by kernel_rfl) rfl
      unfold execOp
      simp only [e0]
      go_simp
    · refine .inl ⟨.inl rfl, ?_⟩
      refine .inl ⟨by kernel_rfl, fun L a1 w1 n h => ⟨.pointer (some ⟨g, 4, none⟩), rfl, ?_⟩⟩
      have e0 : a1.eval (.tmp 15) = _ := h.dep n 1 15 (by kernel_rfl) rfl
      unfold execOp
      simp only [e0]
      go_simp
    · refine .inl ⟨.inl rfl, ?_⟩
      exact .inl ⟨by kernel_rfl, fun L a1 w1 n h => ⟨_, rfl, run_loadA 3 (.tmp 16) ⟨g, 4, none⟩ rfl Try.isAgg3 (h.dep n 2 16 (by kernel_rfl) rfl) ((Row.later hc h.inv.1).cell (j := 4) (v := .int .i64 life) rfl)⟩⟩
    · refine .inl ⟨.inl rfl, ?_⟩
      exact .inl ⟨by kernel_rfl, fun L a1 w1 n h => ⟨_, rfl, run_move (.tmp 0) rfl (h.var n 0 (by kernel_rfl))⟩⟩
    · refine .inl ⟨.inl rfl, ?_⟩
      refine .inl ⟨by kernel_rfl, fun L a1 w1 n h => ⟨ptr g, rfl, ?_⟩⟩
      have e0 : a1.eval (.tmp 18) = _ := h.dep n 4 18 (by kernel_rfl) rfl
      unfold execOp
      simp only [e0]
      go_simp
    · refine .inl ⟨.inl rfl, ?_⟩
      refine .inl ⟨by kernel_rfl, fun L a1 w1 n h => ⟨.pointer (some ⟨g, 2, none⟩), rfl, ?_⟩⟩
      have e0 : a1.eval (.tmp 19) = _ := h.dep n 5 19 (by kernel_rfl) rfl
      unfold execOp
      simp only [e0]
      go_simp
    · refine .inl ⟨.inl rfl, ?_⟩
      refine .inl ⟨by kernel_rfl, fun L a1 w1 n h => ⟨.pointer (some ⟨g, 2, none⟩), rfl, ?_⟩⟩
      have e0 : a1.eval (.tmp 20) = _ := h.dep n 6 20 (by kernel_rfl) rfl
      unfold execOp
      simp only [e0]
      go_simp
    · refine .inl ⟨.inl rfl, ?_⟩
      exact .inl ⟨by kernel_rfl, fun L a1 w1 n h => ⟨_, rfl, run_loadA 3 (.tmp 21) ⟨g, 2, none⟩ rfl Try.isAgg3 (h.dep n 7 21 (by kernel_rfl) rfl) ((Row.later hc h.inv.1).cell (j := 2) (v := .int .i64 m1) rfl)⟩⟩
    · refine .inl ⟨.inl rfl, ?_⟩
      exact .inl ⟨by kernel_rfl, fun L a1 w1 n h => ⟨_, rfl, run_geqI (.tmp 17) (.tmp 22) rfl (h.dep n 3 17 (by kernel_rfl) rfl) (h.dep n 8 22 (by kernel_rfl) rfl) hr⟩⟩
  case he =>
    intro V w5 hV2 hJ
    have h9 : V 9 = .bool false := hV2 9 23 rfl
    have hB : Below w.heap.size w w5 := hJ.1
    have hc5 := Row.later hc hB
    have hp5 := Row.later hp hB
    have hg5 := Row.later hg hB
    have c1 := hc5.cell (j := 1) (v := ptr gP) rfl
    clear hV2 hJ
    simp only [putOps, List.setIfInBounds_toArray, List.set_cons_succ, List.set_cons_zero, Nat.reduceAdd]
    rw [h9]
    refine hK1 _ _ ?_
    go_wp2_with fail
    refine (hA w5 hp5 hg5).mono ?_
    rintro en w6 ⟨rfl, r6, o6⟩
    have hc6 := hc5.only o6 h1
    clear c1
    rcases hE with rfl | rfl
    · have c4 := hc6.cell (j := 4) (v := .int .i64 life) rfl
      go_wp2_with (first
        | (with_reducible refine wl_store rfl 3 (.tmp 38) (.tmp 36) g 4 100 (cellL true (some ⟨gP, 0, none⟩) m1 m2 life a b) (.int .i64 (life + 1)) rfl szInt rfl rfl hc6 (lt7 _ _ _ _ _ _ _ (by decide)) rfl ?_; intro w7 r7 o7; clear c4; have c4 := r7.cell (j := 4) (v := .int .i64 (life + 1)) rfl))
      go_ret2
      exact ⟨rfl, r7, r6.only o7 (Ne.symm h1), ((Buts.of hB _).trans (Buts.only o6 (by simp))).trans (Buts.only o7 (by simp))⟩
    · go_wp2_with fail
      go_ret2
      exact ⟨rfl, hc6, r6, (Buts.of hB _).trans (Buts.only o6 (by simp))⟩
end Go.Proofs.Ytlihoijbfffjcaa

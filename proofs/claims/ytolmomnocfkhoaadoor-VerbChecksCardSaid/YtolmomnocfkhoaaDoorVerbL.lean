/-
  What is known of commands: how a spec is made. Contracts. Own work.
-/
import Derived.Test.YtolmomnocfkhoaaDoorVerbK
import Derived.Test.YtolmomnocfkhoaaDoorBuildA
namespace Go.Proofs.YtolmomnocfkhoaaDoor
open Go.RowKit
set_option linter.unusedVariables false
set_option linter.unusedSimpArgs false
/-- A spec. -/
structure Sp where
  f : Int
  l : Int
  s : Int
  nm : List UInt8
  mn : Int
  mx : Int
  wr : Bool
  od : Bool
  ev : Bool
deriving DecidableEq
abbrev Sp.cells (x : Sp) : List Value := [.int .i64 x.f, .int .i64 x.l, .int .i64 x.s, encStr x.nm, .int .i64 x.mn, .int .i64 x.mx, .bool x.wr, .bool x.od, .bool x.ev]
abbrev Sp.val (x : Sp) : Value := .agg x.cells.toArray
def sp0 : Sp := ⟨0, 0, 0, [], 0, 0, false, false, false⟩
def rdS (nm : List UInt8) (a b : Int) : Sp := ⟨1, 1, 1, nm, a, b, false, false, false⟩
def wrS (nm : List UInt8) (a b : Int) : Sp := ⟨1, 1, 1, nm, a, b, true, false, false⟩
theorem szSp (a b c d e f g h i : Value) : (Tryd.prog.info? 26).map (·.size) = some [a, b, c, d, e, f, g, h, i].length := by kernel_rfl
theorem szPl (a b c : Value) : (Tryd.prog.info? 24).map (·.size) = some [a, b, c].length := by kernel_rfl
abbrev c9 (f l s : Int) (nm : List UInt8) (mn mx : Int) (wr od ev : Bool) : List Value := [.int .i64 f, .int .i64 l, .int .i64 s, encStr nm, .int .i64 mn, .int .i64 mx, .bool wr, .bool od, .bool ev]
theorem builtSp (nm : List UInt8) (a b : Int) : Tryd.prog.built 26 [(0, .agg #[.int .i64 1, .int .i64 1, .int .i64 1]), (1, encStr nm), (2, .int .i64 a), (3, .int .i64 b)] = some [Value.int .i64 1, .int .i64 1, .int .i64 1, encStr nm, .int .i64 a, .int .i64 b, .bool false, .bool false, .bool false].toArray := by kernel_rfl
theorem one9 (f l s : Int) (nm : List UInt8) (mn mx : Int) (wr od ev : Bool) : ∀ u ∈ c9 f l s nm mn mx wr od ev, u.oneCell' = true := by simp [Value.oneCell']
set_option maxRecDepth 100000 in
theorem reads_any (w : World) (nm : List UInt8) (a b : Int) : Calls Tryd.prog 39 #[encStr nm, .int .i64 a, .int .i64 b] w fun e w' => e = .returned (rdS nm a b).val ∧ Below w.heap.size w w' := by
  go_enter Tryd.func39, Tryd.ntmps39
  go_wp2_with (first
    | (with_reducible refine wl_alloc (o := ⟨some 6, _, _, _, _, _⟩) rfl 26 _ [.int .i64 0, .int .i64 0, .int .i64 0, encStr [], .int .i64 0, .int .i64 0, .bool false, .bool false, .bool false] rfl rfl rfl ?_; intro g2 w2 r2 p2 l2 b2)
    | (with_reducible refine wl_build (o := ⟨some 7, _, _, _, _, _⟩) rfl 24 [(0, .const (.int .i64 1)), (1, .const (.int .i64 1)), (2, .const (.int .i64 1))] rfl [(0, .int .i64 1), (1, .int .i64 1), (2, .int .i64 1)] rfl [.int .i64 1, .int .i64 1, .int .i64 1] (by kernel_rfl) ?_)
    | (with_reducible refine wl_build (o := ⟨some 11, _, _, _, _, _⟩) rfl 26 [(0, .tmp 7), (1, .tmp 8), (2, .tmp 9), (3, .tmp 10)] rfl [(0, .agg #[.int .i64 1, .int .i64 1, .int .i64 1]), (1, encStr nm), (2, .int .i64 a), (3, .int .i64 b)] rfl [.int .i64 1, .int .i64 1, .int .i64 1, encStr nm, .int .i64 a, .int .i64 b, .bool false, .bool false, .bool false] (builtSp nm a b) ?_)
    | (with_reducible refine wl_store_row rfl 26 (.tmp 6) (.tmp 11) g2 26 _ [.int .i64 1, .int .i64 1, .int .i64 1, encStr nm, .int .i64 a, .int .i64 b, .bool false, .bool false, .bool false] rfl rfl rfl r2 (szSp _ _ _ _ _ _ _ _ _) rfl (one9 _ _ _ _ _ _ _ _ _) ?_; intro w3 r3 o3))
  refine bodyPost_ret (v := (rdS nm a b).val) ?_ rfl ⟨rfl, b2.trans (o3.below p2)⟩
  exact results_cell_row Tryd.results39 _ _ g2 26 _ (0, 0) _ rfl r3 Tryd.underlying26 rfl (szSp _ _ _ _ _ _ _ _ _)
set_option maxRecDepth 100000 in
theorem writes_any (w : World) (nm : List UInt8) (a b : Int) : Calls Tryd.prog 41 #[encStr nm, .int .i64 a, .int .i64 b] w fun e w' => e = .returned (wrS nm a b).val ∧ Below w.heap.size w w' := by
  have H := fun w => reads_any w nm a b
  go_enter Tryd.func41, Tryd.ntmps41
  go_wp2_with (first
    | (with_reducible refine wl_alloc (o := ⟨some 6, _, _, _, _, _⟩) rfl 26 _ [.int .i64 0, .int .i64 0, .int .i64 0, encStr [], .int .i64 0, .int .i64 0, .bool false, .bool false, .bool false] rfl rfl rfl ?_; intro g2 w2 r2 p2 l2 b2))
  refine (H w2).mono ?_
  rintro e w3 ⟨rfl, b3⟩
  clear H
  have r2 := r2.later b3
  have lt2 := r2.lt
  replace r2 := hide r2
  go_wp2_with (first
    | ((with_reducible refine wl_alloc (o := ⟨some 7, _, _, _, _, _⟩) rfl 26 _ [.int .i64 0, .int .i64 0, .int .i64 0, encStr [], .int .i64 0, .int .i64 0, .bool false, .bool false, .bool false] rfl rfl rfl ?_); intro g7 w7 r7 p7 l7 b7)
    | ((with_reducible refine wl_store_row rfl 26 (.tmp 7) (.tmp 11) g7 26 _ [.int .i64 1, .int .i64 1, .int .i64 1, encStr nm, .int .i64 a, .int .i64 b, .bool false, .bool false, .bool false] rfl rfl rfl r7 (szSp _ _ _ _ _ _ _ _ _) rfl (one9 _ _ _ _ _ _ _ _ _) ?_); intro w8 r8 o8)
    | ((with_reducible refine wl_store rfl 4 (.tmp 12) (.const (.bool true)) g7 6 26 [.int .i64 1, .int .i64 1, .int .i64 1, encStr nm, .int .i64 a, .int .i64 b, .bool false, .bool false, .bool false] (.bool true) rfl (by kernel_rfl) rfl rfl r8 (by simp) rfl ?_); intro w9 r90 o9; have r9 : Row w9 26 g7 [.int .i64 1, .int .i64 1, .int .i64 1, encStr nm, .int .i64 a, .int .i64 b, .bool true, .bool false, .bool false] := r90; have r29 := ((r2.out.later b7).only o8 (Nat.ne_of_lt (Nat.lt_of_lt_of_le lt2 p7))).only o9 (Nat.ne_of_lt (Nat.lt_of_lt_of_le lt2 p7)))
    | ((with_reducible refine wl_load_row (o := ⟨some 13, _, _, _, _, _⟩) rfl 26 (.tmp 7) g7 26 [.int .i64 1, .int .i64 1, .int .i64 1, encStr nm, .int .i64 a, .int .i64 b, .bool true, .bool false, .bool false] _ rfl rfl r9 Tryd.underlying26 rfl (szSp _ _ _ _ _ _ _ _ _) ?_))
    | ((with_reducible refine wl_store_row rfl 26 (.tmp 6) (.tmp 13) g2 26 _ [.int .i64 1, .int .i64 1, .int .i64 1, encStr nm, .int .i64 a, .int .i64 b, .bool true, .bool false, .bool false] rfl rfl rfl r29 (szSp _ _ _ _ _ _ _ _ _) rfl (one9 _ _ _ _ _ _ _ _ _) ?_); intro w10 r10 o10))
  have B9 := b2.trans ((b3.trans ((b7.trans ((o8.trans o9).below p7)).mono b3.size)).mono b2.size)
  refine bodyPost_ret (v := (wrS nm a b).val) ?_ rfl ⟨rfl, B9.trans (o10.below p2)⟩
  exact results_cell_row Tryd.results41 _ _ g2 26 _ (0, 0) _ rfl r10 Tryd.underlying26 rfl (szSp _ _ _ _ _ _ _ _ _)
set_option maxRecDepth 100000 in
theorem odd_any (w : World) (x : Sp) : Calls Tryd.prog 43 #[x.val] w fun e w' => e = .returned (Sp.val { x with od := true }) ∧ Below w.heap.size w w' := by
  obtain ⟨f, l, s, nm, mn, mx, wr, od, ev⟩ := x
  go_enter Tryd.func43, Tryd.ntmps43
  go_wp2_with (first
    | ((with_reducible refine wl_box (o := ⟨some 1, _, _, _, _, _⟩) rfl 26 (.tmp 0) _ [.int .i64 f, .int .i64 l, .int .i64 s, encStr nm, .int .i64 mn, .int .i64 mx, .bool wr, .bool od, .bool ev] rfl rfl rfl ?_); intro g1 w1 r1 p1 l1 b1)
    | ((with_reducible refine wl_alloc (o := ⟨some 2, _, _, _, _, _⟩) rfl 26 _ [.int .i64 0, .int .i64 0, .int .i64 0, encStr [], .int .i64 0, .int .i64 0, .bool false, .bool false, .bool false] rfl rfl rfl ?_); intro g2 w2 r2 p2 l2 b2; have ra := r1.later b2; have n12 := Nat.ne_of_lt (Nat.lt_of_lt_of_le r1.lt p2))
    | ((with_reducible refine wl_store rfl 4 (.tmp 3) (.const (.bool true)) g1 7 26 [.int .i64 f, .int .i64 l, .int .i64 s, encStr nm, .int .i64 mn, .int .i64 mx, .bool wr, .bool od, .bool ev] (.bool true) rfl (by kernel_rfl) rfl rfl ra (by simp) rfl ?_); intro wz rz0 oz; have rz : Row wz 26 g1 [.int .i64 f, .int .i64 l, .int .i64 s, encStr nm, .int .i64 mn, .int .i64 mx, .bool wr, .bool true, .bool ev] := rz0; have r2z := r2.only oz (Ne.symm n12))
    | ((with_reducible refine wl_load_row (o := ⟨some 4, _, _, _, _, _⟩) rfl 26 (.tmp 1) g1 26 [.int .i64 f, .int .i64 l, .int .i64 s, encStr nm, .int .i64 mn, .int .i64 mx, .bool wr, .bool true, .bool ev] _ rfl rfl rz Tryd.underlying26 rfl (szSp _ _ _ _ _ _ _ _ _) ?_))
    | ((with_reducible refine wl_store_row rfl 26 (.tmp 2) (.tmp 4) g2 26 _ [.int .i64 f, .int .i64 l, .int .i64 s, encStr nm, .int .i64 mn, .int .i64 mx, .bool wr, .bool true, .bool ev] rfl rfl rfl r2z (szSp _ _ _ _ _ _ _ _ _) rfl (one9 _ _ _ _ _ _ _ _ _) ?_); intro w10 r10 o10))
  have B9 := b1.trans (b2.mono b1.size)
  refine bodyPost_ret (v := .agg #[.int .i64 f, .int .i64 l, .int .i64 s, encStr nm, .int .i64 mn, .int .i64 mx, .bool wr, .bool true, .bool ev]) ?_ rfl ⟨rfl, (B9.trans (oz.below p1)).trans (o10.below (Nat.le_trans b1.size p2))⟩
  exact results_cell_row Tryd.results43 _ _ g2 26 _ (0, 0) _ rfl r10 Tryd.underlying26 rfl (szSp _ _ _ _ _ _ _ _ _)
set_option maxRecDepth 100000 in
theorem even_any (w : World) (x : Sp) : Calls Tryd.prog 44 #[x.val] w fun e w' => e = .returned (Sp.val { x with ev := true }) ∧ Below w.heap.size w w' := by
  obtain ⟨f, l, s, nm, mn, mx, wr, od, ev⟩ := x
  go_enter Tryd.func44, Tryd.ntmps44
  go_wp2_with (first
    | ((with_reducible refine wl_box (o := ⟨some 1, _, _, _, _, _⟩) rfl 26 (.tmp 0) _ [.int .i64 f, .int .i64 l, .int .i64 s, encStr nm, .int .i64 mn, .int .i64 mx, .bool wr, .bool od, .bool ev] rfl rfl rfl ?_); intro g1 w1 r1 p1 l1 b1)
    | ((with_reducible refine wl_alloc (o := ⟨some 2, _, _, _, _, _⟩) rfl 26 _ [.int .i64 0, .int .i64 0, .int .i64 0, encStr [], .int .i64 0, .int .i64 0, .bool false, .bool false, .bool false] rfl rfl rfl ?_); intro g2 w2 r2 p2 l2 b2; have ra := r1.later b2; have n12 := Nat.ne_of_lt (Nat.lt_of_lt_of_le r1.lt p2))
    | ((with_reducible refine wl_store rfl 4 (.tmp 3) (.const (.bool true)) g1 8 26 [.int .i64 f, .int .i64 l, .int .i64 s, encStr nm, .int .i64 mn, .int .i64 mx, .bool wr, .bool od, .bool ev] (.bool true) rfl (by kernel_rfl) rfl rfl ra (by simp) rfl ?_); intro wz rz0 oz; have rz : Row wz 26 g1 [.int .i64 f, .int .i64 l, .int .i64 s, encStr nm, .int .i64 mn, .int .i64 mx, .bool wr, .bool od, .bool true] := rz0; have r2z := r2.only oz (Ne.symm n12))
    | ((with_reducible refine wl_load_row (o := ⟨some 4, _, _, _, _, _⟩) rfl 26 (.tmp 1) g1 26 [.int .i64 f, .int .i64 l, .int .i64 s, encStr nm, .int .i64 mn, .int .i64 mx, .bool wr, .bool od, .bool true] _ rfl rfl rz Tryd.underlying26 rfl (szSp _ _ _ _ _ _ _ _ _) ?_))
    | ((with_reducible refine wl_store_row rfl 26 (.tmp 2) (.tmp 4) g2 26 _ [.int .i64 f, .int .i64 l, .int .i64 s, encStr nm, .int .i64 mn, .int .i64 mx, .bool wr, .bool od, .bool true] rfl rfl rfl r2z (szSp _ _ _ _ _ _ _ _ _) rfl (one9 _ _ _ _ _ _ _ _ _) ?_); intro w10 r10 o10))
  have B9 := b1.trans (b2.mono b1.size)
  refine bodyPost_ret (v := .agg #[.int .i64 f, .int .i64 l, .int .i64 s, encStr nm, .int .i64 mn, .int .i64 mx, .bool wr, .bool od, .bool true]) ?_ rfl ⟨rfl, (B9.trans (oz.below p1)).trans (o10.below (Nat.le_trans b1.size p2))⟩
  exact results_cell_row Tryd.results44 _ _ g2 26 _ (0, 0) _ rfl r10 Tryd.underlying26 rfl (szSp _ _ _ _ _ _ _ _ _)
set_option maxRecDepth 100000 in
theorem keyless_any (w : World) (x : Sp) : Calls Tryd.prog 40 #[x.val] w fun e w' => e = .returned (Sp.val { x with f := 0, l := 0, s := 0 }) ∧ Below w.heap.size w w' := by
  obtain ⟨f, l, s, nm, mn, mx, wr, od, ev⟩ := x
  go_enter Tryd.func40, Tryd.ntmps40
  go_wp2_with (first
    | ((with_reducible refine wl_box (o := ⟨some 1, _, _, _, _, _⟩) rfl 26 (.tmp 0) _ [.int .i64 f, .int .i64 l, .int .i64 s, encStr nm, .int .i64 mn, .int .i64 mx, .bool wr, .bool od, .bool ev] rfl rfl rfl ?_); intro g1 w1 r1 p1 l1 b1)
    | ((with_reducible refine wl_alloc (o := ⟨some 2, _, _, _, _, _⟩) rfl 26 _ [.int .i64 0, .int .i64 0, .int .i64 0, encStr [], .int .i64 0, .int .i64 0, .bool false, .bool false, .bool false] rfl rfl rfl ?_); intro g2 w2 r2 p2 l2 b2; have ra := r1.later b2; have n12 := Nat.ne_of_lt (Nat.lt_of_lt_of_le r1.lt p2))
    | ((with_reducible refine wl_build (o := ⟨some 3, _, _, _, _, _⟩) rfl 24 [] rfl [] rfl [.int .i64 0, .int .i64 0, .int .i64 0] (by kernel_rfl) ?_); have ra2 : Row w2 26 g1 ([] ++ ([.int .i64 f, .int .i64 l, .int .i64 s] ++ [encStr nm, .int .i64 mn, .int .i64 mx, .bool wr, .bool od, .bool ev])) := ra)
    | ((with_reducible refine wl_store_part rfl 24 (.tmp 4) (.tmp 3) g1 0 26 [] [.int .i64 f, .int .i64 l, .int .i64 s] [encStr nm, .int .i64 mn, .int .i64 mx, .bool wr, .bool od, .bool ev] [.int .i64 0, .int .i64 0, .int .i64 0] rfl rfl rfl ra2 rfl rfl (szPl _ _ _) (by simp [Value.oneCell']) ?_); intro wz rz0 oz; have rz : Row wz 26 g1 [.int .i64 0, .int .i64 0, .int .i64 0, encStr nm, .int .i64 mn, .int .i64 mx, .bool wr, .bool od, .bool ev] := rz0; have r2z := r2.only oz (Ne.symm n12))
    | ((with_reducible refine wl_load_row (o := ⟨some 5, _, _, _, _, _⟩) rfl 26 (.tmp 1) g1 26 [.int .i64 0, .int .i64 0, .int .i64 0, encStr nm, .int .i64 mn, .int .i64 mx, .bool wr, .bool od, .bool ev] _ rfl rfl rz Tryd.underlying26 rfl (szSp _ _ _ _ _ _ _ _ _) ?_))
    | ((with_reducible refine wl_store_row rfl 26 (.tmp 2) (.tmp 5) g2 26 _ [.int .i64 0, .int .i64 0, .int .i64 0, encStr nm, .int .i64 mn, .int .i64 mx, .bool wr, .bool od, .bool ev] rfl rfl rfl r2z (szSp _ _ _ _ _ _ _ _ _) rfl (one9 _ _ _ _ _ _ _ _ _) ?_); intro w10 r10 o10))
  have B9 := b1.trans (b2.mono b1.size)
  refine bodyPost_ret (v := .agg #[.int .i64 0, .int .i64 0, .int .i64 0, encStr nm, .int .i64 mn, .int .i64 mx, .bool wr, .bool od, .bool ev]) ?_ rfl ⟨rfl, (B9.trans (oz.below p1)).trans (o10.below (Nat.le_trans b1.size p2))⟩
  exact results_cell_row Tryd.results40 _ _ g2 26 _ (0, 0) _ rfl r10 Tryd.underlying26 rfl (szSp _ _ _ _ _ _ _ _ _)
set_option maxRecDepth 100000 in
theorem keys_any (w : World) (x : Sp) (la st : Int) : Calls Tryd.prog 42 #[x.val, .int .i64 la, .int .i64 st] w fun e w' => e = .returned (Sp.val { x with l := la, s := st }) ∧ Below w.heap.size w w' := by
  obtain ⟨f, l, s, nm, mn, mx, wr, od, ev⟩ := x
  go_enter Tryd.func42, Tryd.ntmps42
  go_wp2_with (first
    | ((with_reducible refine wl_box (o := ⟨some 3, _, _, _, _, _⟩) rfl 26 (.tmp 0) _ [.int .i64 f, .int .i64 l, .int .i64 s, encStr nm, .int .i64 mn, .int .i64 mx, .bool wr, .bool od, .bool ev] rfl rfl rfl ?_); intro g1 w1 r1 p1 l1 b1)
    | ((with_reducible refine wl_alloc (o := ⟨some 6, _, _, _, _, _⟩) rfl 26 _ [.int .i64 0, .int .i64 0, .int .i64 0, encStr [], .int .i64 0, .int .i64 0, .bool false, .bool false, .bool false] rfl rfl rfl ?_); intro g2 w2 r2 p2 l2 b2; have ra := r1.later b2; have n12 := Nat.ne_of_lt (Nat.lt_of_lt_of_le r1.lt p2))
    | ((with_reducible refine wl_store rfl 3 (.tmp 10) (.tmp 7) g1 1 26 [.int .i64 f, .int .i64 l, .int .i64 s, encStr nm, .int .i64 mn, .int .i64 mx, .bool wr, .bool od, .bool ev] (.int .i64 la) rfl (by kernel_rfl) rfl rfl ra (by simp) rfl ?_); intro wy ry0 oy; have ry : Row wy 26 g1 [.int .i64 f, .int .i64 la, .int .i64 s, encStr nm, .int .i64 mn, .int .i64 mx, .bool wr, .bool od, .bool ev] := ry0; have r2y := r2.only oy (Ne.symm n12))
    | ((with_reducible refine wl_store rfl 3 (.tmp 12) (.tmp 8) g1 2 26 [.int .i64 f, .int .i64 la, .int .i64 s, encStr nm, .int .i64 mn, .int .i64 mx, .bool wr, .bool od, .bool ev] (.int .i64 st) rfl (by kernel_rfl) rfl rfl ry (by simp) rfl ?_); intro wz rz0 oz0; have rz : Row wz 26 g1 [.int .i64 f, .int .i64 la, .int .i64 st, encStr nm, .int .i64 mn, .int .i64 mx, .bool wr, .bool od, .bool ev] := rz0; have r2z := r2y.only oz0 (Ne.symm n12); have oz := oy.trans oz0)
    | ((with_reducible refine wl_load_row (o := ⟨some 13, _, _, _, _, _⟩) rfl 26 (.tmp 3) g1 26 [.int .i64 f, .int .i64 la, .int .i64 st, encStr nm, .int .i64 mn, .int .i64 mx, .bool wr, .bool od, .bool ev] _ rfl rfl rz Tryd.underlying26 rfl (szSp _ _ _ _ _ _ _ _ _) ?_))
    | ((with_reducible refine wl_store_row rfl 26 (.tmp 6) (.tmp 13) g2 26 _ [.int .i64 f, .int .i64 la, .int .i64 st, encStr nm, .int .i64 mn, .int .i64 mx, .bool wr, .bool od, .bool ev] rfl rfl rfl r2z (szSp _ _ _ _ _ _ _ _ _) rfl (one9 _ _ _ _ _ _ _ _ _) ?_); intro w10 r10 o10))
  have B9 := b1.trans (b2.mono b1.size)
  refine bodyPost_ret (v := .agg #[.int .i64 f, .int .i64 la, .int .i64 st, encStr nm, .int .i64 mn, .int .i64 mx, .bool wr, .bool od, .bool ev]) ?_ rfl ⟨rfl, (B9.trans (oz.below p1)).trans (o10.below (Nat.le_trans b1.size p2))⟩
  exact results_cell_row Tryd.results42 _ _ g2 26 _ (0, 0) _ rfl r10 Tryd.underlying26 rfl (szSp _ _ _ _ _ _ _ _ _)
end Go.Proofs.YtolmomnocfkhoaaDoor

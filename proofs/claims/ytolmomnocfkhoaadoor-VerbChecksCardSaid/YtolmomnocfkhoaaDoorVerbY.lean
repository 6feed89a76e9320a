/-
  Commands: the spec of any name. Contract. Own work.
-/
import Derived.Test.YtolmomnocfkhoaaDoorVerbXa
import Derived.Test.YtolmomnocfkhoaaDoorVerbXb
import Derived.Test.YtolmomnocfkhoaaDoorVerbXc
import Derived.Test.YtolmomnocfkhoaaDoorVerbXd
namespace Go.Proofs.YtolmomnocfkhoaaDoor
open Go.RowKit
set_option linter.unusedVariables false
set_option linter.unusedSimpArgs false
def spT : List (List UInt8 × Sp) := [
  ([80, 73, 78, 71], ({ (rdS [80, 73, 78, 71] 1 2) with f := 0, l := 0, s := 0 } : Sp)),
  ([69, 67, 72, 79], ({ (rdS [69, 67, 72, 79] 2 2) with f := 0, l := 0, s := 0 } : Sp)),
  ([75, 69, 89, 83], ({ (rdS [75, 69, 89, 83] 2 2) with f := 0, l := 0, s := 0 } : Sp)),
  ([68, 66, 83, 73, 90, 69], ({ (rdS [68, 66, 83, 73, 90, 69] 1 1) with f := 0, l := 0, s := 0 } : Sp)),
  ([77, 85, 76, 84, 73], ({ (rdS [77, 85, 76, 84, 73] 1 1) with f := 0, l := 0, s := 0 } : Sp)),
  ([69, 88, 69, 67], ({ (rdS [69, 88, 69, 67] 1 1) with f := 0, l := 0, s := 0 } : Sp)),
  ([68, 73, 83, 67, 65, 82, 68], ({ (rdS [68, 73, 83, 67, 65, 82, 68] 1 1) with f := 0, l := 0, s := 0 } : Sp)),
  ([85, 78, 87, 65, 84, 67, 72], ({ (rdS [85, 78, 87, 65, 84, 67, 72] 1 1) with f := 0, l := 0, s := 0 } : Sp)),
  ([70, 76, 85, 83, 72, 65, 76, 76], ({ (wrS [70, 76, 85, 83, 72, 65, 76, 76] 1 1) with f := 0, l := 0, s := 0 } : Sp)),
  ([87, 65, 84, 67, 72], ({ (rdS [87, 65, 84, 67, 72] 2 40) with l := -1, s := 1 } : Sp)),
  ([69, 88, 73, 83, 84, 83], ({ (rdS [69, 88, 73, 83, 84, 83] 2 40) with l := -1, s := 1 } : Sp)),
  ([77, 71, 69, 84], ({ (rdS [77, 71, 69, 84] 2 40) with l := -1, s := 1 } : Sp)),
  ([83, 73, 78, 84, 69, 82], ({ (rdS [83, 73, 78, 84, 69, 82] 2 40) with l := -1, s := 1 } : Sp)),
  ([83, 85, 78, 73, 79, 78], ({ (rdS [83, 85, 78, 73, 79, 78] 2 40) with l := -1, s := 1 } : Sp)),
  ([83, 68, 73, 70, 70], ({ (rdS [83, 68, 73, 70, 70] 2 40) with l := -1, s := 1 } : Sp)),
  ([68, 69, 76], ({ (wrS [68, 69, 76] 2 40) with l := -1, s := 1 } : Sp)),
  ([71, 69, 84], (rdS [71, 69, 84] 2 2)),
  ([83, 84, 82, 76, 69, 78], (rdS [83, 84, 82, 76, 69, 78] 2 2)),
  ([84, 89, 80, 69], (rdS [84, 89, 80, 69] 2 2)),
  ([84, 84, 76], (rdS [84, 84, 76] 2 2)),
  ([80, 84, 84, 76], (rdS [80, 84, 84, 76] 2 2)),
  ([72, 76, 69, 78], (rdS [72, 76, 69, 78] 2 2)),
  ([72, 71, 69, 84, 65, 76, 76], (rdS [72, 71, 69, 84, 65, 76, 76] 2 2)),
  ([72, 75, 69, 89, 83], (rdS [72, 75, 69, 89, 83] 2 2)),
  ([72, 86, 65, 76, 83], (rdS [72, 86, 65, 76, 83] 2 2)),
  ([76, 76, 69, 78], (rdS [76, 76, 69, 78] 2 2)),
  ([83, 67, 65, 82, 68], (rdS [83, 67, 65, 82, 68] 2 2)),
  ([83, 77, 69, 77, 66, 69, 82, 83], (rdS [83, 77, 69, 77, 66, 69, 82, 83] 2 2)),
  ([83, 82, 65, 78, 68, 77, 69, 77, 66, 69, 82], (rdS [83, 82, 65, 78, 68, 77, 69, 77, 66, 69, 82] 2 2)),
  ([90, 67, 65, 82, 68], (rdS [90, 67, 65, 82, 68] 2 2)),
  ([73, 78, 67, 82], (wrS [73, 78, 67, 82] 2 2)),
  ([68, 69, 67, 82], (wrS [68, 69, 67, 82] 2 2)),
  ([80, 69, 82, 83, 73, 83, 84], (wrS [80, 69, 82, 83, 73, 83, 84] 2 2)),
  ([76, 80, 79, 80], (wrS [76, 80, 79, 80] 2 2)),
  ([82, 80, 79, 80], (wrS [82, 80, 79, 80] 2 2)),
  ([83, 80, 79, 80], (wrS [83, 80, 79, 80] 2 2)),
  ([83, 69, 84], (wrS [83, 69, 84] 3 7)),
  ([71, 69, 84, 83, 69, 84], (wrS [71, 69, 84, 83, 69, 84] 3 3)),
  ([83, 69, 84, 78, 88], (wrS [83, 69, 84, 78, 88] 3 3)),
  ([65, 80, 80, 69, 78, 68], (wrS [65, 80, 80, 69, 78, 68] 3 3)),
  ([73, 78, 67, 82, 66, 89], (wrS [73, 78, 67, 82, 66, 89] 3 3)),
  ([68, 69, 67, 82, 66, 89], (wrS [68, 69, 67, 82, 66, 89] 3 3)),
  ([69, 88, 80, 73, 82, 69], (wrS [69, 88, 80, 73, 82, 69] 3 3)),
  ([80, 69, 88, 80, 73, 82, 69], (wrS [80, 69, 88, 80, 73, 82, 69] 3 3)),
  ([80, 69, 88, 80, 73, 82, 69, 65, 84], (wrS [80, 69, 88, 80, 73, 82, 69, 65, 84] 3 3)),
  ([82, 69, 78, 65, 77, 69], ({ (wrS [82, 69, 78, 65, 77, 69] 3 3) with l := 2, s := 1 } : Sp)),
  ([82, 80, 79, 80, 76, 80, 85, 83, 72], ({ (wrS [82, 80, 79, 80, 76, 80, 85, 83, 72] 3 3) with l := 2, s := 1 } : Sp)),
  ([77, 83, 69, 84], ({ ({ (wrS [77, 83, 69, 84] 3 40) with l := -1, s := 2 } : Sp) with od := true } : Sp)),
  ([72, 71, 69, 84], (rdS [72, 71, 69, 84] 3 3)),
  ([72, 69, 88, 73, 83, 84, 83], (rdS [72, 69, 88, 73, 83, 84, 83] 3 3)),
  ([76, 73, 78, 68, 69, 88], (rdS [76, 73, 78, 68, 69, 88] 3 3)),
  ([83, 73, 83, 77, 69, 77, 66, 69, 82], (rdS [83, 73, 83, 77, 69, 77, 66, 69, 82] 3 3)),
  ([90, 83, 67, 79, 82, 69], (rdS [90, 83, 67, 79, 82, 69] 3 3)),
  ([90, 82, 65, 78, 75], (rdS [90, 82, 65, 78, 75] 3 3)),
  ([90, 82, 69, 86, 82, 65, 78, 75], (rdS [90, 82, 69, 86, 82, 65, 78, 75] 3 3)),
  ([72, 77, 71, 69, 84], (rdS [72, 77, 71, 69, 84] 3 40)),
  ([72, 68, 69, 76], (wrS [72, 68, 69, 76] 3 40)),
  ([76, 80, 85, 83, 72], (wrS [76, 80, 85, 83, 72] 3 40)),
  ([82, 80, 85, 83, 72], (wrS [82, 80, 85, 83, 72] 3 40)),
  ([83, 65, 68, 68], (wrS [83, 65, 68, 68] 3 40)),
  ([83, 82, 69, 77], (wrS [83, 82, 69, 77] 3 40)),
  ([90, 82, 69, 77], (wrS [90, 82, 69, 77] 3 40)),
  ([71, 69, 84, 82, 65, 78, 71, 69], (rdS [71, 69, 84, 82, 65, 78, 71, 69] 4 4)),
  ([76, 82, 65, 78, 71, 69], (rdS [76, 82, 65, 78, 71, 69] 4 4)),
  ([90, 82, 69, 86, 82, 65, 78, 71, 69], (rdS [90, 82, 69, 86, 82, 65, 78, 71, 69] 4 4)),
  ([90, 82, 65, 78, 71, 69, 66, 89, 83, 67, 79, 82, 69], (rdS [90, 82, 65, 78, 71, 69, 66, 89, 83, 67, 79, 82, 69] 4 4)),
  ([90, 67, 79, 85, 78, 84], (rdS [90, 67, 79, 85, 78, 84] 4 4)),
  ([83, 69, 84, 82, 65, 78, 71, 69], (wrS [83, 69, 84, 82, 65, 78, 71, 69] 4 4)),
  ([72, 83, 69, 84, 78, 88], (wrS [72, 83, 69, 84, 78, 88] 4 4)),
  ([72, 73, 78, 67, 82, 66, 89], (wrS [72, 73, 78, 67, 82, 66, 89] 4 4)),
  ([76, 83, 69, 84], (wrS [76, 83, 69, 84] 4 4)),
  ([76, 84, 82, 73, 77], (wrS [76, 84, 82, 73, 77] 4 4)),
  ([76, 82, 69, 77], (wrS [76, 82, 69, 77] 4 4)),
  ([90, 73, 78, 67, 82, 66, 89], (wrS [90, 73, 78, 67, 82, 66, 89] 4 4)),
  ([90, 82, 69, 77, 82, 65, 78, 71, 69, 66, 89, 83, 67, 79, 82, 69], (wrS [90, 82, 69, 77, 82, 65, 78, 71, 69, 66, 89, 83, 67, 79, 82, 69] 4 4)),
  ([83, 77, 79, 86, 69], ({ (wrS [83, 77, 79, 86, 69] 4 4) with l := 2, s := 1 } : Sp)),
  ([90, 82, 65, 78, 71, 69], (rdS [90, 82, 65, 78, 71, 69] 4 5)),
  ([72, 83, 69, 84], ({ (wrS [72, 83, 69, 84] 4 40) with ev := true } : Sp)),
  ([90, 65, 68, 68], ({ (wrS [90, 65, 68, 68] 4 40) with ev := true } : Sp))]
def specL (nm : List UInt8) : Sp := match spT.find? (fun x => decide (x.1 = nm)) with
  | some x => x.2
  | none => sp0
def isName (nm : List UInt8) : Bool := spT.any fun x => decide (x.1 = nm)
theorem run_eqNo {P : Program} {w : World} {a : Act} {o : Oper} {t s : Nat} {l : List UInt8} (arr : Array UInt8) (hno : isName l = false) (x : Operand) (ho : o.op = .binOp .eql t x (.const (.string ⟨arr⟩)) s) (hx : a.eval x = encStr l) (hm : isName arr.toList = true) :
    (execOp a.eval o).run P w = .ok (.value (.bool false)) w :=
  run_eqStr x (.const (.string ⟨arr⟩)) ho hx (m := arr.toList) (by simp [Act.eval, encStr]) (decide_eq_false fun e => by rw [e, hm] at hno; cases hno)
theorem specL_no {nm : List UInt8} (h : isName nm = false) : specL nm = sp0 := by
  unfold specL
  have : spT.find? (fun x => decide (x.1 = nm)) = none := by
    rw [List.find?_eq_none]
    intro x hx e
    have h2 : isName nm = true := List.any_eq_true.2 ⟨x, hx, e⟩
    rw [h] at h2; cases h2
  rw [this]
set_option maxRecDepth 100000 in
set_option maxHeartbeats 4000000 in
theorem sp_none (w : World) (nm : List UInt8) (hno : isName nm = false) : Calls Tryd.prog 27 #[encStr nm] w fun e w' => e = .returned (Sp.val sp0) ∧ Below w.heap.size w w' := by
  replace hno := hide hno
  go_enter Tryd.func27, Tryd.ntmps27
  go_wp2_with (first
    | ((with_reducible refine wl_alloc (o := ⟨some 2, _, _, _, _, _⟩) rfl 26 _ [.int .i64 0, .int .i64 0, .int .i64 0, encStr [], .int .i64 0, .int .i64 0, .bool false, .bool false, .bool false] rfl rfl rfl ?_); intro g2 w2 r2 p2 l2 b2)
    | (refine wl_run rfl (.bool false) (run_eqNo _ hno.out (.tmp 3) rfl rfl (by decide)) ?_)
    | ((with_reducible refine wl_build (o := ⟨some 154, _, _, _, _, _⟩) rfl 26 [] rfl [] rfl [.int .i64 0, .int .i64 0, .int .i64 0, encStr [], .int .i64 0, .int .i64 0, .bool false, .bool false, .bool false] (by kernel_rfl) ?_))
    | ((with_reducible refine wl_store_row rfl 26 (.tmp 2) (.tmp 154) g2 26 _ (Sp.cells sp0) rfl rfl rfl r2 (szSp _ _ _ _ _ _ _ _ _) rfl (one9 _ _ _ _ _ _ _ _ _) ?_); intro w4 r4 o4))
  refine bodyPost_ret (v := Sp.val sp0) ?_ rfl ⟨rfl, b2.trans (o4.below p2)⟩
  exact results_cell_row Tryd.results27 _ _ g2 26 _ (0, 0) _ rfl r4 Tryd.underlying26 rfl (szSp _ _ _ _ _ _ _ _ _)
end Go.Proofs.YtolmomnocfkhoaaDoor

/-
  Commands: the specs of names, part 1. Contracts. Own work.
-/
import Derived.Test.YtolmomnocfkhoaaDoorVerbL
namespace Go.Proofs.YtolmomnocfkhoaaDoor
open Go.RowKit
set_option linter.unusedVariables false
set_option linter.unusedSimpArgs false
set_option maxRecDepth 100000 in
set_option maxHeartbeats 2000000 in
theorem sp_PING (w : World) : Calls Tryd.prog 27 #[encStr [80, 73, 78, 71]] w fun e w' => e = .returned (Sp.val ({ (rdS [80, 73, 78, 71] 1 2) with f := 0, l := 0, s := 0 } : Sp)) ∧ Below w.heap.size w w' := by
  go_enter Tryd.func27, Tryd.ntmps27
  go_wp2_with (first
    | ((with_reducible refine wl_alloc (o := ⟨some 2, _, _, _, _, _⟩) rfl 26 _ [.int .i64 0, .int .i64 0, .int .i64 0, encStr [], .int .i64 0, .int .i64 0, .bool false, .bool false, .bool false] rfl rfl rfl ?_); intro g2 w2 r2 p2 l2 b2))
  refine (reads_any w2 [80, 73, 78, 71] 1 2).mono ?_
  rintro e v0 ⟨rfl, c0⟩
  have r2 := r2.later c0
  go_wp2_with fail
  refine (keyless_any v0 (rdS [80, 73, 78, 71] 1 2)).mono ?_
  rintro e v1 ⟨rfl, c1⟩
  have r2 := r2.later c1
  have BB := ((b2).trans (c0.mono (b2).size)).trans (c1.mono ((b2).trans (c0.mono (b2).size)).size)
  go_wp2_with (first
    | ((with_reducible refine wl_store_row rfl 26 (.tmp 2) (.tmp 8) g2 26 _ (Sp.cells ({ (rdS [80, 73, 78, 71] 1 2) with f := 0, l := 0, s := 0 } : Sp)) rfl rfl rfl r2 (szSp _ _ _ _ _ _ _ _ _) rfl (one9 _ _ _ _ _ _ _ _ _) ?_); intro w4 r4 o4))
  refine bodyPost_ret (v := Sp.val ({ (rdS [80, 73, 78, 71] 1 2) with f := 0, l := 0, s := 0 } : Sp)) ?_ rfl ⟨rfl, BB.trans (o4.below p2)⟩
  exact results_cell_row Tryd.results27 _ _ g2 26 _ (0, 0) _ rfl r4 Tryd.underlying26 rfl (szSp _ _ _ _ _ _ _ _ _)
set_option maxRecDepth 100000 in
set_option maxHeartbeats 2000000 in
theorem sp_ECHO (w : World) : Calls Tryd.prog 27 #[encStr [69, 67, 72, 79]] w fun e w' => e = .returned (Sp.val ({ (rdS [69, 67, 72, 79] 2 2) with f := 0, l := 0, s := 0 } : Sp)) ∧ Below w.heap.size w w' := by
  go_enter Tryd.func27, Tryd.ntmps27
  go_wp2_with (first
    | ((with_reducible refine wl_alloc (o := ⟨some 2, _, _, _, _, _⟩) rfl 26 _ [.int .i64 0, .int .i64 0, .int .i64 0, encStr [], .int .i64 0, .int .i64 0, .bool false, .bool false, .bool false] rfl rfl rfl ?_); intro g2 w2 r2 p2 l2 b2))
  refine (reads_any w2 [69, 67, 72, 79] 2 2).mono ?_
  rintro e v0 ⟨rfl, c0⟩
  have r2 := r2.later c0
  go_wp2_with fail
  refine (keyless_any v0 (rdS [69, 67, 72, 79] 2 2)).mono ?_
  rintro e v1 ⟨rfl, c1⟩
  have r2 := r2.later c1
  have BB := ((b2).trans (c0.mono (b2).size)).trans (c1.mono ((b2).trans (c0.mono (b2).size)).size)
  go_wp2_with (first
    | ((with_reducible refine wl_store_row rfl 26 (.tmp 2) (.tmp 14) g2 26 _ (Sp.cells ({ (rdS [69, 67, 72, 79] 2 2) with f := 0, l := 0, s := 0 } : Sp)) rfl rfl rfl r2 (szSp _ _ _ _ _ _ _ _ _) rfl (one9 _ _ _ _ _ _ _ _ _) ?_); intro w4 r4 o4))
  refine bodyPost_ret (v := Sp.val ({ (rdS [69, 67, 72, 79] 2 2) with f := 0, l := 0, s := 0 } : Sp)) ?_ rfl ⟨rfl, BB.trans (o4.below p2)⟩
  exact results_cell_row Tryd.results27 _ _ g2 26 _ (0, 0) _ rfl r4 Tryd.underlying26 rfl (szSp _ _ _ _ _ _ _ _ _)
set_option maxRecDepth 100000 in
set_option maxHeartbeats 2000000 in
theorem sp_KEYS (w : World) : Calls Tryd.prog 27 #[encStr [75, 69, 89, 83]] w fun e w' => e = .returned (Sp.val ({ (rdS [75, 69, 89, 83] 2 2) with f := 0, l := 0, s := 0 } : Sp)) ∧ Below w.heap.size w w' := by
  go_enter Tryd.func27, Tryd.ntmps27
  go_wp2_with (first
    | ((with_reducible refine wl_alloc (o := ⟨some 2, _, _, _, _, _⟩) rfl 26 _ [.int .i64 0, .int .i64 0, .int .i64 0, encStr [], .int .i64 0, .int .i64 0, .bool false, .bool false, .bool false] rfl rfl rfl ?_); intro g2 w2 r2 p2 l2 b2))
  refine (reads_any w2 [75, 69, 89, 83] 2 2).mono ?_
  rintro e v0 ⟨rfl, c0⟩
  have r2 := r2.later c0
  go_wp2_with fail
  refine (keyless_any v0 (rdS [75, 69, 89, 83] 2 2)).mono ?_
  rintro e v1 ⟨rfl, c1⟩
  have r2 := r2.later c1
  have BB := ((b2).trans (c0.mono (b2).size)).trans (c1.mono ((b2).trans (c0.mono (b2).size)).size)
  go_wp2_with (first
    | ((with_reducible refine wl_store_row rfl 26 (.tmp 2) (.tmp 14) g2 26 _ (Sp.cells ({ (rdS [75, 69, 89, 83] 2 2) with f := 0, l := 0, s := 0 } : Sp)) rfl rfl rfl r2 (szSp _ _ _ _ _ _ _ _ _) rfl (one9 _ _ _ _ _ _ _ _ _) ?_); intro w4 r4 o4))
  refine bodyPost_ret (v := Sp.val ({ (rdS [75, 69, 89, 83] 2 2) with f := 0, l := 0, s := 0 } : Sp)) ?_ rfl ⟨rfl, BB.trans (o4.below p2)⟩
  exact results_cell_row Tryd.results27 _ _ g2 26 _ (0, 0) _ rfl r4 Tryd.underlying26 rfl (szSp _ _ _ _ _ _ _ _ _)
set_option maxRecDepth 100000 in
set_option maxHeartbeats 2000000 in
theorem sp_DBSIZE (w : World) : Calls Tryd.prog 27 #[encStr [68, 66, 83, 73, 90, 69]] w fun e w' => e = .returned (Sp.val ({ (rdS [68, 66, 83, 73, 90, 69] 1 1) with f := 0, l := 0, s := 0 } : Sp)) ∧ Below w.heap.size w w' := by
  go_enter Tryd.func27, Tryd.ntmps27
  go_wp2_with (first
    | ((with_reducible refine wl_alloc (o := ⟨some 2, _, _, _, _, _⟩) rfl 26 _ [.int .i64 0, .int .i64 0, .int .i64 0, encStr [], .int .i64 0, .int .i64 0, .bool false, .bool false, .bool false] rfl rfl rfl ?_); intro g2 w2 r2 p2 l2 b2))
  refine (reads_any w2 [68, 66, 83, 73, 90, 69] 1 1).mono ?_
  rintro e v0 ⟨rfl, c0⟩
  have r2 := r2.later c0
  go_wp2_with fail
  refine (keyless_any v0 (rdS [68, 66, 83, 73, 90, 69] 1 1)).mono ?_
  rintro e v1 ⟨rfl, c1⟩
  have r2 := r2.later c1
  have BB := ((b2).trans (c0.mono (b2).size)).trans (c1.mono ((b2).trans (c0.mono (b2).size)).size)
  go_wp2_with (first
    | ((with_reducible refine wl_store_row rfl 26 (.tmp 2) (.tmp 23) g2 26 _ (Sp.cells ({ (rdS [68, 66, 83, 73, 90, 69] 1 1) with f := 0, l := 0, s := 0 } : Sp)) rfl rfl rfl r2 (szSp _ _ _ _ _ _ _ _ _) rfl (one9 _ _ _ _ _ _ _ _ _) ?_); intro w4 r4 o4))
  refine bodyPost_ret (v := Sp.val ({ (rdS [68, 66, 83, 73, 90, 69] 1 1) with f := 0, l := 0, s := 0 } : Sp)) ?_ rfl ⟨rfl, BB.trans (o4.below p2)⟩
  exact results_cell_row Tryd.results27 _ _ g2 26 _ (0, 0) _ rfl r4 Tryd.underlying26 rfl (szSp _ _ _ _ _ _ _ _ _)
set_option maxRecDepth 100000 in
set_option maxHeartbeats 2000000 in
theorem sp_MULTI (w : World) : Calls Tryd.prog 27 #[encStr [77, 85, 76, 84, 73]] w fun e w' => e = .returned (Sp.val ({ (rdS [77, 85, 76, 84, 73] 1 1) with f := 0, l := 0, s := 0 } : Sp)) ∧ Below w.heap.size w w' := by
  go_enter Tryd.func27, Tryd.ntmps27
  go_wp2_with (first
    | ((with_reducible refine wl_alloc (o := ⟨some 2, _, _, _, _, _⟩) rfl 26 _ [.int .i64 0, .int .i64 0, .int .i64 0, encStr [], .int .i64 0, .int .i64 0, .bool false, .bool false, .bool false] rfl rfl rfl ?_); intro g2 w2 r2 p2 l2 b2))
  refine (reads_any w2 [77, 85, 76, 84, 73] 1 1).mono ?_
  rintro e v0 ⟨rfl, c0⟩
  have r2 := r2.later c0
  go_wp2_with fail
  refine (keyless_any v0 (rdS [77, 85, 76, 84, 73] 1 1)).mono ?_
  rintro e v1 ⟨rfl, c1⟩
  have r2 := r2.later c1
  have BB := ((b2).trans (c0.mono (b2).size)).trans (c1.mono ((b2).trans (c0.mono (b2).size)).size)
  go_wp2_with (first
    | ((with_reducible refine wl_store_row rfl 26 (.tmp 2) (.tmp 23) g2 26 _ (Sp.cells ({ (rdS [77, 85, 76, 84, 73] 1 1) with f := 0, l := 0, s := 0 } : Sp)) rfl rfl rfl r2 (szSp _ _ _ _ _ _ _ _ _) rfl (one9 _ _ _ _ _ _ _ _ _) ?_); intro w4 r4 o4))
  refine bodyPost_ret (v := Sp.val ({ (rdS [77, 85, 76, 84, 73] 1 1) with f := 0, l := 0, s := 0 } : Sp)) ?_ rfl ⟨rfl, BB.trans (o4.below p2)⟩
  exact results_cell_row Tryd.results27 _ _ g2 26 _ (0, 0) _ rfl r4 Tryd.underlying26 rfl (szSp _ _ _ _ _ _ _ _ _)
set_option maxRecDepth 100000 in
set_option maxHeartbeats 2000000 in
theorem sp_EXEC (w : World) : Calls Tryd.prog 27 #[encStr [69, 88, 69, 67]] w fun e w' => e = .returned (Sp.val ({ (rdS [69, 88, 69, 67] 1 1) with f := 0, l := 0, s := 0 } : Sp)) ∧ Below w.heap.size w w' := by
  go_enter Tryd.func27, Tryd.ntmps27
  go_wp2_with (first
    | ((with_reducible refine wl_alloc (o := ⟨some 2, _, _, _, _, _⟩) rfl 26 _ [.int .i64 0, .int .i64 0, .int .i64 0, encStr [], .int .i64 0, .int .i64 0, .bool false, .bool false, .bool false] rfl rfl rfl ?_); intro g2 w2 r2 p2 l2 b2))
  refine (reads_any w2 [69, 88, 69, 67] 1 1).mono ?_
  rintro e v0 ⟨rfl, c0⟩
  have r2 := r2.later c0
  go_wp2_with fail
  refine (keyless_any v0 (rdS [69, 88, 69, 67] 1 1)).mono ?_
  rintro e v1 ⟨rfl, c1⟩
  have r2 := r2.later c1
  have BB := ((b2).trans (c0.mono (b2).size)).trans (c1.mono ((b2).trans (c0.mono (b2).size)).size)
  go_wp2_with (first
    | ((with_reducible refine wl_store_row rfl 26 (.tmp 2) (.tmp 23) g2 26 _ (Sp.cells ({ (rdS [69, 88, 69, 67] 1 1) with f := 0, l := 0, s := 0 } : Sp)) rfl rfl rfl r2 (szSp _ _ _ _ _ _ _ _ _) rfl (one9 _ _ _ _ _ _ _ _ _) ?_); intro w4 r4 o4))
  refine bodyPost_ret (v := Sp.val ({ (rdS [69, 88, 69, 67] 1 1) with f := 0, l := 0, s := 0 } : Sp)) ?_ rfl ⟨rfl, BB.trans (o4.below p2)⟩
  exact results_cell_row Tryd.results27 _ _ g2 26 _ (0, 0) _ rfl r4 Tryd.underlying26 rfl (szSp _ _ _ _ _ _ _ _ _)
set_option maxRecDepth 100000 in
set_option maxHeartbeats 2000000 in
theorem sp_DISCARD (w : World) : Calls Tryd.prog 27 #[encStr [68, 73, 83, 67, 65, 82, 68]] w fun e w' => e = .returned (Sp.val ({ (rdS [68, 73, 83, 67, 65, 82, 68] 1 1) with f := 0, l := 0, s := 0 } : Sp)) ∧ Below w.heap.size w w' := by
  go_enter Tryd.func27, Tryd.ntmps27
  go_wp2_with (first
    | ((with_reducible refine wl_alloc (o := ⟨some 2, _, _, _, _, _⟩) rfl 26 _ [.int .i64 0, .int .i64 0, .int .i64 0, encStr [], .int .i64 0, .int .i64 0, .bool false, .bool false, .bool false] rfl rfl rfl ?_); intro g2 w2 r2 p2 l2 b2))
  refine (reads_any w2 [68, 73, 83, 67, 65, 82, 68] 1 1).mono ?_
  rintro e v0 ⟨rfl, c0⟩
  have r2 := r2.later c0
  go_wp2_with fail
  refine (keyless_any v0 (rdS [68, 73, 83, 67, 65, 82, 68] 1 1)).mono ?_
  rintro e v1 ⟨rfl, c1⟩
  have r2 := r2.later c1
  have BB := ((b2).trans (c0.mono (b2).size)).trans (c1.mono ((b2).trans (c0.mono (b2).size)).size)
  go_wp2_with (first
    | ((with_reducible refine wl_store_row rfl 26 (.tmp 2) (.tmp 23) g2 26 _ (Sp.cells ({ (rdS [68, 73, 83, 67, 65, 82, 68] 1 1) with f := 0, l := 0, s := 0 } : Sp)) rfl rfl rfl r2 (szSp _ _ _ _ _ _ _ _ _) rfl (one9 _ _ _ _ _ _ _ _ _) ?_); intro w4 r4 o4))
  refine bodyPost_ret (v := Sp.val ({ (rdS [68, 73, 83, 67, 65, 82, 68] 1 1) with f := 0, l := 0, s := 0 } : Sp)) ?_ rfl ⟨rfl, BB.trans (o4.below p2)⟩
  exact results_cell_row Tryd.results27 _ _ g2 26 _ (0, 0) _ rfl r4 Tryd.underlying26 rfl (szSp _ _ _ _ _ _ _ _ _)
set_option maxRecDepth 100000 in
set_option maxHeartbeats 2000000 in
theorem sp_UNWATCH (w : World) : Calls Tryd.prog 27 #[encStr [85, 78, 87, 65, 84, 67, 72]] w fun e w' => e = .returned (Sp.val ({ (rdS [85, 78, 87, 65, 84, 67, 72] 1 1) with f := 0, l := 0, s := 0 } : Sp)) ∧ Below w.heap.size w w' := by
  go_enter Tryd.func27, Tryd.ntmps27
  go_wp2_with (first
    | ((with_reducible refine wl_alloc (o := ⟨some 2, _, _, _, _, _⟩) rfl 26 _ [.int .i64 0, .int .i64 0, .int .i64 0, encStr [], .int .i64 0, .int .i64 0, .bool false, .bool false, .bool false] rfl rfl rfl ?_); intro g2 w2 r2 p2 l2 b2))
  refine (reads_any w2 [85, 78, 87, 65, 84, 67, 72] 1 1).mono ?_
  rintro e v0 ⟨rfl, c0⟩
  have r2 := r2.later c0
  go_wp2_with fail
  refine (keyless_any v0 (rdS [85, 78, 87, 65, 84, 67, 72] 1 1)).mono ?_
  rintro e v1 ⟨rfl, c1⟩
  have r2 := r2.later c1
  have BB := ((b2).trans (c0.mono (b2).size)).trans (c1.mono ((b2).trans (c0.mono (b2).size)).size)
  go_wp2_with (first
    | ((with_reducible refine wl_store_row rfl 26 (.tmp 2) (.tmp 23) g2 26 _ (Sp.cells ({ (rdS [85, 78, 87, 65, 84, 67, 72] 1 1) with f := 0, l := 0, s := 0 } : Sp)) rfl rfl rfl r2 (szSp _ _ _ _ _ _ _ _ _) rfl (one9 _ _ _ _ _ _ _ _ _) ?_); intro w4 r4 o4))
  refine bodyPost_ret (v := Sp.val ({ (rdS [85, 78, 87, 65, 84, 67, 72] 1 1) with f := 0, l := 0, s := 0 } : Sp)) ?_ rfl ⟨rfl, BB.trans (o4.below p2)⟩
  exact results_cell_row Tryd.results27 _ _ g2 26 _ (0, 0) _ rfl r4 Tryd.underlying26 rfl (szSp _ _ _ _ _ _ _ _ _)
set_option maxRecDepth 100000 in
set_option maxHeartbeats 2000000 in
theorem sp_FLUSHALL (w : World) : Calls Tryd.prog 27 #[encStr [70, 76, 85, 83, 72, 65, 76, 76]] w fun e w' => e = .returned (Sp.val ({ (wrS [70, 76, 85, 83, 72, 65, 76, 76] 1 1) with f := 0, l := 0, s := 0 } : Sp)) ∧ Below w.heap.size w w' := by
  go_enter Tryd.func27, Tryd.ntmps27
  go_wp2_with (first
    | ((with_reducible refine wl_alloc (o := ⟨some 2, _, _, _, _, _⟩) rfl 26 _ [.int .i64 0, .int .i64 0, .int .i64 0, encStr [], .int .i64 0, .int .i64 0, .bool false, .bool false, .bool false] rfl rfl rfl ?_); intro g2 w2 r2 p2 l2 b2))
  refine (writes_any w2 [70, 76, 85, 83, 72, 65, 76, 76] 1 1).mono ?_
  rintro e v0 ⟨rfl, c0⟩
  have r2 := r2.later c0
  go_wp2_with fail
  refine (keyless_any v0 (wrS [70, 76, 85, 83, 72, 65, 76, 76] 1 1)).mono ?_
  rintro e v1 ⟨rfl, c1⟩
  have r2 := r2.later c1
  have BB := ((b2).trans (c0.mono (b2).size)).trans (c1.mono ((b2).trans (c0.mono (b2).size)).size)
  go_wp2_with (first
    | ((with_reducible refine wl_store_row rfl 26 (.tmp 2) (.tmp 28) g2 26 _ (Sp.cells ({ (wrS [70, 76, 85, 83, 72, 65, 76, 76] 1 1) with f := 0, l := 0, s := 0 } : Sp)) rfl rfl rfl r2 (szSp _ _ _ _ _ _ _ _ _) rfl (one9 _ _ _ _ _ _ _ _ _) ?_); intro w4 r4 o4))
  refine bodyPost_ret (v := Sp.val ({ (wrS [70, 76, 85, 83, 72, 65, 76, 76] 1 1) with f := 0, l := 0, s := 0 } : Sp)) ?_ rfl ⟨rfl, BB.trans (o4.below p2)⟩
  exact results_cell_row Tryd.results27 _ _ g2 26 _ (0, 0) _ rfl r4 Tryd.underlying26 rfl (szSp _ _ _ _ _ _ _ _ _)
set_option maxRecDepth 100000 in
set_option maxHeartbeats 2000000 in
theorem sp_WATCH (w : World) : Calls Tryd.prog 27 #[encStr [87, 65, 84, 67, 72]] w fun e w' => e = .returned (Sp.val ({ (rdS [87, 65, 84, 67, 72] 2 40) with l := -1, s := 1 } : Sp)) ∧ Below w.heap.size w w' := by
  go_enter Tryd.func27, Tryd.ntmps27
  go_wp2_with (first
    | ((with_reducible refine wl_alloc (o := ⟨some 2, _, _, _, _, _⟩) rfl 26 _ [.int .i64 0, .int .i64 0, .int .i64 0, encStr [], .int .i64 0, .int .i64 0, .bool false, .bool false, .bool false] rfl rfl rfl ?_); intro g2 w2 r2 p2 l2 b2))
  refine (reads_any w2 [87, 65, 84, 67, 72] 2 40).mono ?_
  rintro e v0 ⟨rfl, c0⟩
  have r2 := r2.later c0
  go_wp2_with fail
  refine (keys_any v0 (rdS [87, 65, 84, 67, 72] 2 40) (-1) 1).mono ?_
  rintro e v1 ⟨rfl, c1⟩
  have r2 := r2.later c1
  have BB := ((b2).trans (c0.mono (b2).size)).trans (c1.mono ((b2).trans (c0.mono (b2).size)).size)
  go_wp2_with (first
    | ((with_reducible refine wl_store_row rfl 26 (.tmp 2) (.tmp 38) g2 26 _ (Sp.cells ({ (rdS [87, 65, 84, 67, 72] 2 40) with l := -1, s := 1 } : Sp)) rfl rfl rfl r2 (szSp _ _ _ _ _ _ _ _ _) rfl (one9 _ _ _ _ _ _ _ _ _) ?_); intro w4 r4 o4))
  refine bodyPost_ret (v := Sp.val ({ (rdS [87, 65, 84, 67, 72] 2 40) with l := -1, s := 1 } : Sp)) ?_ rfl ⟨rfl, BB.trans (o4.below p2)⟩
  exact results_cell_row Tryd.results27 _ _ g2 26 _ (0, 0) _ rfl r4 Tryd.underlying26 rfl (szSp _ _ _ _ _ _ _ _ _)
set_option maxRecDepth 100000 in
set_option maxHeartbeats 2000000 in
theorem sp_EXISTS (w : World) : Calls Tryd.prog 27 #[encStr [69, 88, 73, 83, 84, 83]] w fun e w' => e = .returned (Sp.val ({ (rdS [69, 88, 73, 83, 84, 83] 2 40) with l := -1, s := 1 } : Sp)) ∧ Below w.heap.size w w' := by
  go_enter Tryd.func27, Tryd.ntmps27
  go_wp2_with (first
    | ((with_reducible refine wl_alloc (o := ⟨some 2, _, _, _, _, _⟩) rfl 26 _ [.int .i64 0, .int .i64 0, .int .i64 0, encStr [], .int .i64 0, .int .i64 0, .bool false, .bool false, .bool false] rfl rfl rfl ?_); intro g2 w2 r2 p2 l2 b2))
  refine (reads_any w2 [69, 88, 73, 83, 84, 83] 2 40).mono ?_
  rintro e v0 ⟨rfl, c0⟩
  have r2 := r2.later c0
  go_wp2_with fail
  refine (keys_any v0 (rdS [69, 88, 73, 83, 84, 83] 2 40) (-1) 1).mono ?_
  rintro e v1 ⟨rfl, c1⟩
  have r2 := r2.later c1
  have BB := ((b2).trans (c0.mono (b2).size)).trans (c1.mono ((b2).trans (c0.mono (b2).size)).size)
  go_wp2_with (first
    | ((with_reducible refine wl_store_row rfl 26 (.tmp 2) (.tmp 38) g2 26 _ (Sp.cells ({ (rdS [69, 88, 73, 83, 84, 83] 2 40) with l := -1, s := 1 } : Sp)) rfl rfl rfl r2 (szSp _ _ _ _ _ _ _ _ _) rfl (one9 _ _ _ _ _ _ _ _ _) ?_); intro w4 r4 o4))
  refine bodyPost_ret (v := Sp.val ({ (rdS [69, 88, 73, 83, 84, 83] 2 40) with l := -1, s := 1 } : Sp)) ?_ rfl ⟨rfl, BB.trans (o4.below p2)⟩
  exact results_cell_row Tryd.results27 _ _ g2 26 _ (0, 0) _ rfl r4 Tryd.underlying26 rfl (szSp _ _ _ _ _ _ _ _ _)
set_option maxRecDepth 100000 in
set_option maxHeartbeats 2000000 in
theorem sp_MGET (w : World) : Calls Tryd.prog 27 #[encStr [77, 71, 69, 84]] w fun e w' => e = .returned (Sp.val ({ (rdS [77, 71, 69, 84] 2 40) with l := -1, s := 1 } : Sp)) ∧ Below w.heap.size w w' := by
  go_enter Tryd.func27, Tryd.ntmps27
  go_wp2_with (first
    | ((with_reducible refine wl_alloc (o := ⟨some 2, _, _, _, _, _⟩) rfl 26 _ [.int .i64 0, .int .i64 0, .int .i64 0, encStr [], .int .i64 0, .int .i64 0, .bool false, .bool false, .bool false] rfl rfl rfl ?_); intro g2 w2 r2 p2 l2 b2))
  refine (reads_any w2 [77, 71, 69, 84] 2 40).mono ?_
  rintro e v0 ⟨rfl, c0⟩
  have r2 := r2.later c0
  go_wp2_with fail
  refine (keys_any v0 (rdS [77, 71, 69, 84] 2 40) (-1) 1).mono ?_
  rintro e v1 ⟨rfl, c1⟩
  have r2 := r2.later c1
  have BB := ((b2).trans (c0.mono (b2).size)).trans (c1.mono ((b2).trans (c0.mono (b2).size)).size)
  go_wp2_with (first
    | ((with_reducible refine wl_store_row rfl 26 (.tmp 2) (.tmp 38) g2 26 _ (Sp.cells ({ (rdS [77, 71, 69, 84] 2 40) with l := -1, s := 1 } : Sp)) rfl rfl rfl r2 (szSp _ _ _ _ _ _ _ _ _) rfl (one9 _ _ _ _ _ _ _ _ _) ?_); intro w4 r4 o4))
  refine bodyPost_ret (v := Sp.val ({ (rdS [77, 71, 69, 84] 2 40) with l := -1, s := 1 } : Sp)) ?_ rfl ⟨rfl, BB.trans (o4.below p2)⟩
  exact results_cell_row Tryd.results27 _ _ g2 26 _ (0, 0) _ rfl r4 Tryd.underlying26 rfl (szSp _ _ _ _ _ _ _ _ _)
set_option maxRecDepth 100000 in
set_option maxHeartbeats 2000000 in
theorem sp_SINTER (w : World) : Calls Tryd.prog 27 #[encStr [83, 73, 78, 84, 69, 82]] w fun e w' => e = .returned (Sp.val ({ (rdS [83, 73, 78, 84, 69, 82] 2 40) with l := -1, s := 1 } : Sp)) ∧ Below w.heap.size w w' := by
  go_enter Tryd.func27, Tryd.ntmps27
  go_wp2_with (first
    | ((with_reducible refine wl_alloc (o := ⟨some 2, _, _, _, _, _⟩) rfl 26 _ [.int .i64 0, .int .i64 0, .int .i64 0, encStr [], .int .i64 0, .int .i64 0, .bool false, .bool false, .bool false] rfl rfl rfl ?_); intro g2 w2 r2 p2 l2 b2))
  refine (reads_any w2 [83, 73, 78, 84, 69, 82] 2 40).mono ?_
  rintro e v0 ⟨rfl, c0⟩
  have r2 := r2.later c0
  go_wp2_with fail
  refine (keys_any v0 (rdS [83, 73, 78, 84, 69, 82] 2 40) (-1) 1).mono ?_
  rintro e v1 ⟨rfl, c1⟩
  have r2 := r2.later c1
  have BB := ((b2).trans (c0.mono (b2).size)).trans (c1.mono ((b2).trans (c0.mono (b2).size)).size)
  go_wp2_with (first
    | ((with_reducible refine wl_store_row rfl 26 (.tmp 2) (.tmp 38) g2 26 _ (Sp.cells ({ (rdS [83, 73, 78, 84, 69, 82] 2 40) with l := -1, s := 1 } : Sp)) rfl rfl rfl r2 (szSp _ _ _ _ _ _ _ _ _) rfl (one9 _ _ _ _ _ _ _ _ _) ?_); intro w4 r4 o4))
  refine bodyPost_ret (v := Sp.val ({ (rdS [83, 73, 78, 84, 69, 82] 2 40) with l := -1, s := 1 } : Sp)) ?_ rfl ⟨rfl, BB.trans (o4.below p2)⟩
  exact results_cell_row Tryd.results27 _ _ g2 26 _ (0, 0) _ rfl r4 Tryd.underlying26 rfl (szSp _ _ _ _ _ _ _ _ _)
set_option maxRecDepth 100000 in
set_option maxHeartbeats 2000000 in
theorem sp_SUNION (w : World) : Calls Tryd.prog 27 #[encStr [83, 85, 78, 73, 79, 78]] w fun e w' => e = .returned (Sp.val ({ (rdS [83, 85, 78, 73, 79, 78] 2 40) with l := -1, s := 1 } : Sp)) ∧ Below w.heap.size w w' := by
  go_enter Tryd.func27, Tryd.ntmps27
  go_wp2_with (first
    | ((with_reducible refine wl_alloc (o := ⟨some 2, _, _, _, _, _⟩) rfl 26 _ [.int .i64 0, .int .i64 0, .int .i64 0, encStr [], .int .i64 0, .int .i64 0, .bool false, .bool false, .bool false] rfl rfl rfl ?_); intro g2 w2 r2 p2 l2 b2))
  refine (reads_any w2 [83, 85, 78, 73, 79, 78] 2 40).mono ?_
  rintro e v0 ⟨rfl, c0⟩
  have r2 := r2.later c0
  go_wp2_with fail
  refine (keys_any v0 (rdS [83, 85, 78, 73, 79, 78] 2 40) (-1) 1).mono ?_
  rintro e v1 ⟨rfl, c1⟩
  have r2 := r2.later c1
  have BB := ((b2).trans (c0.mono (b2).size)).trans (c1.mono ((b2).trans (c0.mono (b2).size)).size)
  go_wp2_with (first
    | ((with_reducible refine wl_store_row rfl 26 (.tmp 2) (.tmp 38) g2 26 _ (Sp.cells ({ (rdS [83, 85, 78, 73, 79, 78] 2 40) with l := -1, s := 1 } : Sp)) rfl rfl rfl r2 (szSp _ _ _ _ _ _ _ _ _) rfl (one9 _ _ _ _ _ _ _ _ _) ?_); intro w4 r4 o4))
  refine bodyPost_ret (v := Sp.val ({ (rdS [83, 85, 78, 73, 79, 78] 2 40) with l := -1, s := 1 } : Sp)) ?_ rfl ⟨rfl, BB.trans (o4.below p2)⟩
  exact results_cell_row Tryd.results27 _ _ g2 26 _ (0, 0) _ rfl r4 Tryd.underlying26 rfl (szSp _ _ _ _ _ _ _ _ _)
set_option maxRecDepth 100000 in
set_option maxHeartbeats 2000000 in
theorem sp_SDIFF (w : World) : Calls Tryd.prog 27 #[encStr [83, 68, 73, 70, 70]] w fun e w' => e = .returned (Sp.val ({ (rdS [83, 68, 73, 70, 70] 2 40) with l := -1, s := 1 } : Sp)) ∧ Below w.heap.size w w' := by
  go_enter Tryd.func27, Tryd.ntmps27
  go_wp2_with (first
    | ((with_reducible refine wl_alloc (o := ⟨some 2, _, _, _, _, _⟩) rfl 26 _ [.int .i64 0, .int .i64 0, .int .i64 0, encStr [], .int .i64 0, .int .i64 0, .bool false, .bool false, .bool false] rfl rfl rfl ?_); intro g2 w2 r2 p2 l2 b2))
  refine (reads_any w2 [83, 68, 73, 70, 70] 2 40).mono ?_
  rintro e v0 ⟨rfl, c0⟩
  have r2 := r2.later c0
  go_wp2_with fail
  refine (keys_any v0 (rdS [83, 68, 73, 70, 70] 2 40) (-1) 1).mono ?_
  rintro e v1 ⟨rfl, c1⟩
  have r2 := r2.later c1
  have BB := ((b2).trans (c0.mono (b2).size)).trans (c1.mono ((b2).trans (c0.mono (b2).size)).size)
  go_wp2_with (first
    | ((with_reducible refine wl_store_row rfl 26 (.tmp 2) (.tmp 38) g2 26 _ (Sp.cells ({ (rdS [83, 68, 73, 70, 70] 2 40) with l := -1, s := 1 } : Sp)) rfl rfl rfl r2 (szSp _ _ _ _ _ _ _ _ _) rfl (one9 _ _ _ _ _ _ _ _ _) ?_); intro w4 r4 o4))
  refine bodyPost_ret (v := Sp.val ({ (rdS [83, 68, 73, 70, 70] 2 40) with l := -1, s := 1 } : Sp)) ?_ rfl ⟨rfl, BB.trans (o4.below p2)⟩
  exact results_cell_row Tryd.results27 _ _ g2 26 _ (0, 0) _ rfl r4 Tryd.underlying26 rfl (szSp _ _ _ _ _ _ _ _ _)
set_option maxRecDepth 100000 in
set_option maxHeartbeats 2000000 in
theorem sp_DEL (w : World) : Calls Tryd.prog 27 #[encStr [68, 69, 76]] w fun e w' => e = .returned (Sp.val ({ (wrS [68, 69, 76] 2 40) with l := -1, s := 1 } : Sp)) ∧ Below w.heap.size w w' := by
  go_enter Tryd.func27, Tryd.ntmps27
  go_wp2_with (first
    | ((with_reducible refine wl_alloc (o := ⟨some 2, _, _, _, _, _⟩) rfl 26 _ [.int .i64 0, .int .i64 0, .int .i64 0, encStr [], .int .i64 0, .int .i64 0, .bool false, .bool false, .bool false] rfl rfl rfl ?_); intro g2 w2 r2 p2 l2 b2))
  refine (writes_any w2 [68, 69, 76] 2 40).mono ?_
  rintro e v0 ⟨rfl, c0⟩
  have r2 := r2.later c0
  go_wp2_with fail
  refine (keys_any v0 (wrS [68, 69, 76] 2 40) (-1) 1).mono ?_
  rintro e v1 ⟨rfl, c1⟩
  have r2 := r2.later c1
  have BB := ((b2).trans (c0.mono (b2).size)).trans (c1.mono ((b2).trans (c0.mono (b2).size)).size)
  go_wp2_with (first
    | ((with_reducible refine wl_store_row rfl 26 (.tmp 2) (.tmp 43) g2 26 _ (Sp.cells ({ (wrS [68, 69, 76] 2 40) with l := -1, s := 1 } : Sp)) rfl rfl rfl r2 (szSp _ _ _ _ _ _ _ _ _) rfl (one9 _ _ _ _ _ _ _ _ _) ?_); intro w4 r4 o4))
  refine bodyPost_ret (v := Sp.val ({ (wrS [68, 69, 76] 2 40) with l := -1, s := 1 } : Sp)) ?_ rfl ⟨rfl, BB.trans (o4.below p2)⟩
  exact results_cell_row Tryd.results27 _ _ g2 26 _ (0, 0) _ rfl r4 Tryd.underlying26 rfl (szSp _ _ _ _ _ _ _ _ _)
set_option maxRecDepth 100000 in
set_option maxHeartbeats 2000000 in
theorem sp_GET (w : World) : Calls Tryd.prog 27 #[encStr [71, 69, 84]] w fun e w' => e = .returned (Sp.val (rdS [71, 69, 84] 2 2)) ∧ Below w.heap.size w w' := by
  go_enter Tryd.func27, Tryd.ntmps27
  go_wp2_with (first
    | ((with_reducible refine wl_alloc (o := ⟨some 2, _, _, _, _, _⟩) rfl 26 _ [.int .i64 0, .int .i64 0, .int .i64 0, encStr [], .int .i64 0, .int .i64 0, .bool false, .bool false, .bool false] rfl rfl rfl ?_); intro g2 w2 r2 p2 l2 b2))
  refine (reads_any w2 [71, 69, 84] 2 2).mono ?_
  rintro e v0 ⟨rfl, c0⟩
  have r2 := r2.later c0
  have BB := (b2).trans (c0.mono (b2).size)
  go_wp2_with (first
    | ((with_reducible refine wl_store_row rfl 26 (.tmp 2) (.tmp 60) g2 26 _ (Sp.cells (rdS [71, 69, 84] 2 2)) rfl rfl rfl r2 (szSp _ _ _ _ _ _ _ _ _) rfl (one9 _ _ _ _ _ _ _ _ _) ?_); intro w4 r4 o4))
  refine bodyPost_ret (v := Sp.val (rdS [71, 69, 84] 2 2)) ?_ rfl ⟨rfl, BB.trans (o4.below p2)⟩
  exact results_cell_row Tryd.results27 _ _ g2 26 _ (0, 0) _ rfl r4 Tryd.underlying26 rfl (szSp _ _ _ _ _ _ _ _ _)
set_option maxRecDepth 100000 in
set_option maxHeartbeats 2000000 in
theorem sp_STRLEN (w : World) : Calls Tryd.prog 27 #[encStr [83, 84, 82, 76, 69, 78]] w fun e w' => e = .returned (Sp.val (rdS [83, 84, 82, 76, 69, 78] 2 2)) ∧ Below w.heap.size w w' := by
  go_enter Tryd.func27, Tryd.ntmps27
  go_wp2_with (first
    | ((with_reducible refine wl_alloc (o := ⟨some 2, _, _, _, _, _⟩) rfl 26 _ [.int .i64 0, .int .i64 0, .int .i64 0, encStr [], .int .i64 0, .int .i64 0, .bool false, .bool false, .bool false] rfl rfl rfl ?_); intro g2 w2 r2 p2 l2 b2))
  refine (reads_any w2 [83, 84, 82, 76, 69, 78] 2 2).mono ?_
  rintro e v0 ⟨rfl, c0⟩
  have r2 := r2.later c0
  have BB := (b2).trans (c0.mono (b2).size)
  go_wp2_with (first
    | ((with_reducible refine wl_store_row rfl 26 (.tmp 2) (.tmp 60) g2 26 _ (Sp.cells (rdS [83, 84, 82, 76, 69, 78] 2 2)) rfl rfl rfl r2 (szSp _ _ _ _ _ _ _ _ _) rfl (one9 _ _ _ _ _ _ _ _ _) ?_); intro w4 r4 o4))
  refine bodyPost_ret (v := Sp.val (rdS [83, 84, 82, 76, 69, 78] 2 2)) ?_ rfl ⟨rfl, BB.trans (o4.below p2)⟩
  exact results_cell_row Tryd.results27 _ _ g2 26 _ (0, 0) _ rfl r4 Tryd.underlying26 rfl (szSp _ _ _ _ _ _ _ _ _)
set_option maxRecDepth 100000 in
set_option maxHeartbeats 2000000 in
theorem sp_TYPE (w : World) : Calls Tryd.prog 27 #[encStr [84, 89, 80, 69]] w fun e w' => e = .returned (Sp.val (rdS [84, 89, 80, 69] 2 2)) ∧ Below w.heap.size w w' := by
  go_enter Tryd.func27, Tryd.ntmps27
  go_wp2_with (first
    | ((with_reducible refine wl_alloc (o := ⟨some 2, _, _, _, _, _⟩) rfl 26 _ [.int .i64 0, .int .i64 0, .int .i64 0, encStr [], .int .i64 0, .int .i64 0, .bool false, .bool false, .bool false] rfl rfl rfl ?_); intro g2 w2 r2 p2 l2 b2))
  refine (reads_any w2 [84, 89, 80, 69] 2 2).mono ?_
  rintro e v0 ⟨rfl, c0⟩
  have r2 := r2.later c0
  have BB := (b2).trans (c0.mono (b2).size)
  go_wp2_with (first
    | ((with_reducible refine wl_store_row rfl 26 (.tmp 2) (.tmp 60) g2 26 _ (Sp.cells (rdS [84, 89, 80, 69] 2 2)) rfl rfl rfl r2 (szSp _ _ _ _ _ _ _ _ _) rfl (one9 _ _ _ _ _ _ _ _ _) ?_); intro w4 r4 o4))
  refine bodyPost_ret (v := Sp.val (rdS [84, 89, 80, 69] 2 2)) ?_ rfl ⟨rfl, BB.trans (o4.below p2)⟩
  exact results_cell_row Tryd.results27 _ _ g2 26 _ (0, 0) _ rfl r4 Tryd.underlying26 rfl (szSp _ _ _ _ _ _ _ _ _)
set_option maxRecDepth 100000 in
set_option maxHeartbeats 2000000 in
theorem sp_TTL (w : World) : Calls Tryd.prog 27 #[encStr [84, 84, 76]] w fun e w' => e = .returned (Sp.val (rdS [84, 84, 76] 2 2)) ∧ Below w.heap.size w w' := by
  go_enter Tryd.func27, Tryd.ntmps27
  go_wp2_with (first
    | ((with_reducible refine wl_alloc (o := ⟨some 2, _, _, _, _, _⟩) rfl 26 _ [.int .i64 0, .int .i64 0, .int .i64 0, encStr [], .int .i64 0, .int .i64 0, .bool false, .bool false, .bool false] rfl rfl rfl ?_); intro g2 w2 r2 p2 l2 b2))
  refine (reads_any w2 [84, 84, 76] 2 2).mono ?_
  rintro e v0 ⟨rfl, c0⟩
  have r2 := r2.later c0
  have BB := (b2).trans (c0.mono (b2).size)
  go_wp2_with (first
    | ((with_reducible refine wl_store_row rfl 26 (.tmp 2) (.tmp 60) g2 26 _ (Sp.cells (rdS [84, 84, 76] 2 2)) rfl rfl rfl r2 (szSp _ _ _ _ _ _ _ _ _) rfl (one9 _ _ _ _ _ _ _ _ _) ?_); intro w4 r4 o4))
  refine bodyPost_ret (v := Sp.val (rdS [84, 84, 76] 2 2)) ?_ rfl ⟨rfl, BB.trans (o4.below p2)⟩
  exact results_cell_row Tryd.results27 _ _ g2 26 _ (0, 0) _ rfl r4 Tryd.underlying26 rfl (szSp _ _ _ _ _ _ _ _ _)
end Go.Proofs.YtolmomnocfkhoaaDoor

/-
  Commands: the specs of names, part 3. Contracts. Own work.
-/
import Derived.Test.YtolmomnocfkhoaaDoorVerbL
namespace Go.Proofs.YtolmomnocfkhoaaDoor
open Go.RowKit
set_option linter.unusedVariables false
set_option linter.unusedSimpArgs false
set_option maxRecDepth 100000 in
set_option maxHeartbeats 2000000 in
theorem sp_INCRBY (w : World) : Calls Tryd.prog 27 #[encStr [73, 78, 67, 82, 66, 89]] w fun e w' => e = .returned (Sp.val (wrS [73, 78, 67, 82, 66, 89] 3 3)) ∧ Below w.heap.size w w' := by
  go_enter Tryd.func27, Tryd.ntmps27
  go_wp2_with (first
    | ((with_reducible refine wl_alloc (o := ⟨some 2, _, _, _, _, _⟩) rfl 26 _ [.int .i64 0, .int .i64 0, .int .i64 0, encStr [], .int .i64 0, .int .i64 0, .bool false, .bool false, .bool false] rfl rfl rfl ?_); intro g2 w2 r2 p2 l2 b2))
  refine (writes_any w2 [73, 78, 67, 82, 66, 89] 3 3).mono ?_
  rintro e v0 ⟨rfl, c0⟩
  have r2 := r2.later c0
  have BB := (b2).trans (c0.mono (b2).size)
  go_wp2_with (first
    | ((with_reducible refine wl_store_row rfl 26 (.tmp 2) (.tmp 84) g2 26 _ (Sp.cells (wrS [73, 78, 67, 82, 66, 89] 3 3)) rfl rfl rfl r2 (szSp _ _ _ _ _ _ _ _ _) rfl (one9 _ _ _ _ _ _ _ _ _) ?_); intro w4 r4 o4))
  refine bodyPost_ret (v := Sp.val (wrS [73, 78, 67, 82, 66, 89] 3 3)) ?_ rfl ⟨rfl, BB.trans (o4.below p2)⟩
  exact results_cell_row Tryd.results27 _ _ g2 26 _ (0, 0) _ rfl r4 Tryd.underlying26 rfl (szSp _ _ _ _ _ _ _ _ _)
set_option maxRecDepth 100000 in
set_option maxHeartbeats 2000000 in
theorem sp_DECRBY (w : World) : Calls Tryd.prog 27 #[encStr [68, 69, 67, 82, 66, 89]] w fun e w' => e = .returned (Sp.val (wrS [68, 69, 67, 82, 66, 89] 3 3)) ∧ Below w.heap.size w w' := by
  go_enter Tryd.func27, Tryd.ntmps27
  go_wp2_with (first
    | ((with_reducible refine wl_alloc (o := ⟨some 2, _, _, _, _, _⟩) rfl 26 _ [.int .i64 0, .int .i64 0, .int .i64 0, encStr [], .int .i64 0, .int .i64 0, .bool false, .bool false, .bool false] rfl rfl rfl ?_); intro g2 w2 r2 p2 l2 b2))
  refine (writes_any w2 [68, 69, 67, 82, 66, 89] 3 3).mono ?_
  rintro e v0 ⟨rfl, c0⟩
  have r2 := r2.later c0
  have BB := (b2).trans (c0.mono (b2).size)
  go_wp2_with (first
    | ((with_reducible refine wl_store_row rfl 26 (.tmp 2) (.tmp 84) g2 26 _ (Sp.cells (wrS [68, 69, 67, 82, 66, 89] 3 3)) rfl rfl rfl r2 (szSp _ _ _ _ _ _ _ _ _) rfl (one9 _ _ _ _ _ _ _ _ _) ?_); intro w4 r4 o4))
  refine bodyPost_ret (v := Sp.val (wrS [68, 69, 67, 82, 66, 89] 3 3)) ?_ rfl ⟨rfl, BB.trans (o4.below p2)⟩
  exact results_cell_row Tryd.results27 _ _ g2 26 _ (0, 0) _ rfl r4 Tryd.underlying26 rfl (szSp _ _ _ _ _ _ _ _ _)
set_option maxRecDepth 100000 in
set_option maxHeartbeats 2000000 in
theorem sp_EXPIRE (w : World) : Calls Tryd.prog 27 #[encStr [69, 88, 80, 73, 82, 69]] w fun e w' => e = .returned (Sp.val (wrS [69, 88, 80, 73, 82, 69] 3 3)) ∧ Below w.heap.size w w' := by
  go_enter Tryd.func27, Tryd.ntmps27
  go_wp2_with (first
    | ((with_reducible refine wl_alloc (o := ⟨some 2, _, _, _, _, _⟩) rfl 26 _ [.int .i64 0, .int .i64 0, .int .i64 0, encStr [], .int .i64 0, .int .i64 0, .bool false, .bool false, .bool false] rfl rfl rfl ?_); intro g2 w2 r2 p2 l2 b2))
  refine (writes_any w2 [69, 88, 80, 73, 82, 69] 3 3).mono ?_
  rintro e v0 ⟨rfl, c0⟩
  have r2 := r2.later c0
  have BB := (b2).trans (c0.mono (b2).size)
  go_wp2_with (first
    | ((with_reducible refine wl_store_row rfl 26 (.tmp 2) (.tmp 84) g2 26 _ (Sp.cells (wrS [69, 88, 80, 73, 82, 69] 3 3)) rfl rfl rfl r2 (szSp _ _ _ _ _ _ _ _ _) rfl (one9 _ _ _ _ _ _ _ _ _) ?_); intro w4 r4 o4))
  refine bodyPost_ret (v := Sp.val (wrS [69, 88, 80, 73, 82, 69] 3 3)) ?_ rfl ⟨rfl, BB.trans (o4.below p2)⟩
  exact results_cell_row Tryd.results27 _ _ g2 26 _ (0, 0) _ rfl r4 Tryd.underlying26 rfl (szSp _ _ _ _ _ _ _ _ _)
set_option maxRecDepth 100000 in
set_option maxHeartbeats 2000000 in
theorem sp_PEXPIRE (w : World) : Calls Tryd.prog 27 #[encStr [80, 69, 88, 80, 73, 82, 69]] w fun e w' => e = .returned (Sp.val (wrS [80, 69, 88, 80, 73, 82, 69] 3 3)) ∧ Below w.heap.size w w' := by
  go_enter Tryd.func27, Tryd.ntmps27
  go_wp2_with (first
    | ((with_reducible refine wl_alloc (o := ⟨some 2, _, _, _, _, _⟩) rfl 26 _ [.int .i64 0, .int .i64 0, .int .i64 0, encStr [], .int .i64 0, .int .i64 0, .bool false, .bool false, .bool false] rfl rfl rfl ?_); intro g2 w2 r2 p2 l2 b2))
  refine (writes_any w2 [80, 69, 88, 80, 73, 82, 69] 3 3).mono ?_
  rintro e v0 ⟨rfl, c0⟩
  have r2 := r2.later c0
  have BB := (b2).trans (c0.mono (b2).size)
  go_wp2_with (first
    | ((with_reducible refine wl_store_row rfl 26 (.tmp 2) (.tmp 84) g2 26 _ (Sp.cells (wrS [80, 69, 88, 80, 73, 82, 69] 3 3)) rfl rfl rfl r2 (szSp _ _ _ _ _ _ _ _ _) rfl (one9 _ _ _ _ _ _ _ _ _) ?_); intro w4 r4 o4))
  refine bodyPost_ret (v := Sp.val (wrS [80, 69, 88, 80, 73, 82, 69] 3 3)) ?_ rfl ⟨rfl, BB.trans (o4.below p2)⟩
  exact results_cell_row Tryd.results27 _ _ g2 26 _ (0, 0) _ rfl r4 Tryd.underlying26 rfl (szSp _ _ _ _ _ _ _ _ _)
set_option maxRecDepth 100000 in
set_option maxHeartbeats 2000000 in
theorem sp_PEXPIREAT (w : World) : Calls Tryd.prog 27 #[encStr [80, 69, 88, 80, 73, 82, 69, 65, 84]] w fun e w' => e = .returned (Sp.val (wrS [80, 69, 88, 80, 73, 82, 69, 65, 84] 3 3)) ∧ Below w.heap.size w w' := by
  go_enter Tryd.func27, Tryd.ntmps27
  go_wp2_with (first
    | ((with_reducible refine wl_alloc (o := ⟨some 2, _, _, _, _, _⟩) rfl 26 _ [.int .i64 0, .int .i64 0, .int .i64 0, encStr [], .int .i64 0, .int .i64 0, .bool false, .bool false, .bool false] rfl rfl rfl ?_); intro g2 w2 r2 p2 l2 b2))
  refine (writes_any w2 [80, 69, 88, 80, 73, 82, 69, 65, 84] 3 3).mono ?_
  rintro e v0 ⟨rfl, c0⟩
  have r2 := r2.later c0
  have BB := (b2).trans (c0.mono (b2).size)
  go_wp2_with (first
    | ((with_reducible refine wl_store_row rfl 26 (.tmp 2) (.tmp 84) g2 26 _ (Sp.cells (wrS [80, 69, 88, 80, 73, 82, 69, 65, 84] 3 3)) rfl rfl rfl r2 (szSp _ _ _ _ _ _ _ _ _) rfl (one9 _ _ _ _ _ _ _ _ _) ?_); intro w4 r4 o4))
  refine bodyPost_ret (v := Sp.val (wrS [80, 69, 88, 80, 73, 82, 69, 65, 84] 3 3)) ?_ rfl ⟨rfl, BB.trans (o4.below p2)⟩
  exact results_cell_row Tryd.results27 _ _ g2 26 _ (0, 0) _ rfl r4 Tryd.underlying26 rfl (szSp _ _ _ _ _ _ _ _ _)
set_option maxRecDepth 100000 in
set_option maxHeartbeats 2000000 in
theorem sp_RENAME (w : World) : Calls Tryd.prog 27 #[encStr [82, 69, 78, 65, 77, 69]] w fun e w' => e = .returned (Sp.val ({ (wrS [82, 69, 78, 65, 77, 69] 3 3) with l := 2, s := 1 } : Sp)) ∧ Below w.heap.size w w' := by
  go_enter Tryd.func27, Tryd.ntmps27
  go_wp2_with (first
    | ((with_reducible refine wl_alloc (o := ⟨some 2, _, _, _, _, _⟩) rfl 26 _ [.int .i64 0, .int .i64 0, .int .i64 0, encStr [], .int .i64 0, .int .i64 0, .bool false, .bool false, .bool false] rfl rfl rfl ?_); intro g2 w2 r2 p2 l2 b2))
  refine (writes_any w2 [82, 69, 78, 65, 77, 69] 3 3).mono ?_
  rintro e v0 ⟨rfl, c0⟩
  have r2 := r2.later c0
  go_wp2_with fail
  refine (keys_any v0 (wrS [82, 69, 78, 65, 77, 69] 3 3) (2) 1).mono ?_
  rintro e v1 ⟨rfl, c1⟩
  have r2 := r2.later c1
  have BB := ((b2).trans (c0.mono (b2).size)).trans (c1.mono ((b2).trans (c0.mono (b2).size)).size)
  go_wp2_with (first
    | ((with_reducible refine wl_store_row rfl 26 (.tmp 2) (.tmp 90) g2 26 _ (Sp.cells ({ (wrS [82, 69, 78, 65, 77, 69] 3 3) with l := 2, s := 1 } : Sp)) rfl rfl rfl r2 (szSp _ _ _ _ _ _ _ _ _) rfl (one9 _ _ _ _ _ _ _ _ _) ?_); intro w4 r4 o4))
  refine bodyPost_ret (v := Sp.val ({ (wrS [82, 69, 78, 65, 77, 69] 3 3) with l := 2, s := 1 } : Sp)) ?_ rfl ⟨rfl, BB.trans (o4.below p2)⟩
  exact results_cell_row Tryd.results27 _ _ g2 26 _ (0, 0) _ rfl r4 Tryd.underlying26 rfl (szSp _ _ _ _ _ _ _ _ _)
set_option maxRecDepth 100000 in
set_option maxHeartbeats 2000000 in
theorem sp_RPOPLPUSH (w : World) : Calls Tryd.prog 27 #[encStr [82, 80, 79, 80, 76, 80, 85, 83, 72]] w fun e w' => e = .returned (Sp.val ({ (wrS [82, 80, 79, 80, 76, 80, 85, 83, 72] 3 3) with l := 2, s := 1 } : Sp)) ∧ Below w.heap.size w w' := by
  go_enter Tryd.func27, Tryd.ntmps27
  go_wp2_with (first
    | ((with_reducible refine wl_alloc (o := ⟨some 2, _, _, _, _, _⟩) rfl 26 _ [.int .i64 0, .int .i64 0, .int .i64 0, encStr [], .int .i64 0, .int .i64 0, .bool false, .bool false, .bool false] rfl rfl rfl ?_); intro g2 w2 r2 p2 l2 b2))
  refine (writes_any w2 [82, 80, 79, 80, 76, 80, 85, 83, 72] 3 3).mono ?_
  rintro e v0 ⟨rfl, c0⟩
  have r2 := r2.later c0
  go_wp2_with fail
  refine (keys_any v0 (wrS [82, 80, 79, 80, 76, 80, 85, 83, 72] 3 3) (2) 1).mono ?_
  rintro e v1 ⟨rfl, c1⟩
  have r2 := r2.later c1
  have BB := ((b2).trans (c0.mono (b2).size)).trans (c1.mono ((b2).trans (c0.mono (b2).size)).size)
  go_wp2_with (first
    | ((with_reducible refine wl_store_row rfl 26 (.tmp 2) (.tmp 90) g2 26 _ (Sp.cells ({ (wrS [82, 80, 79, 80, 76, 80, 85, 83, 72] 3 3) with l := 2, s := 1 } : Sp)) rfl rfl rfl r2 (szSp _ _ _ _ _ _ _ _ _) rfl (one9 _ _ _ _ _ _ _ _ _) ?_); intro w4 r4 o4))
  refine bodyPost_ret (v := Sp.val ({ (wrS [82, 80, 79, 80, 76, 80, 85, 83, 72] 3 3) with l := 2, s := 1 } : Sp)) ?_ rfl ⟨rfl, BB.trans (o4.below p2)⟩
  exact results_cell_row Tryd.results27 _ _ g2 26 _ (0, 0) _ rfl r4 Tryd.underlying26 rfl (szSp _ _ _ _ _ _ _ _ _)
set_option maxRecDepth 100000 in
set_option maxHeartbeats 2000000 in
theorem sp_MSET (w : World) : Calls Tryd.prog 27 #[encStr [77, 83, 69, 84]] w fun e w' => e = .returned (Sp.val ({ ({ (wrS [77, 83, 69, 84] 3 40) with l := -1, s := 2 } : Sp) with od := true } : Sp)) ∧ Below w.heap.size w w' := by
  go_enter Tryd.func27, Tryd.ntmps27
  go_wp2_with (first
    | ((with_reducible refine wl_alloc (o := ⟨some 2, _, _, _, _, _⟩) rfl 26 _ [.int .i64 0, .int .i64 0, .int .i64 0, encStr [], .int .i64 0, .int .i64 0, .bool false, .bool false, .bool false] rfl rfl rfl ?_); intro g2 w2 r2 p2 l2 b2))
  refine (writes_any w2 [77, 83, 69, 84] 3 40).mono ?_
  rintro e v0 ⟨rfl, c0⟩
  have r2 := r2.later c0
  go_wp2_with fail
  refine (keys_any v0 (wrS [77, 83, 69, 84] 3 40) (-1) 2).mono ?_
  rintro e v1 ⟨rfl, c1⟩
  have r2 := r2.later c1
  go_wp2_with fail
  refine (odd_any v1 ({ (wrS [77, 83, 69, 84] 3 40) with l := -1, s := 2 } : Sp)).mono ?_
  rintro e v2 ⟨rfl, c2⟩
  have r2 := r2.later c2
  have BB := (((b2).trans (c0.mono (b2).size)).trans (c1.mono ((b2).trans (c0.mono (b2).size)).size)).trans (c2.mono (((b2).trans (c0.mono (b2).size)).trans (c1.mono ((b2).trans (c0.mono (b2).size)).size)).size)
  go_wp2_with (first
    | ((with_reducible refine wl_store_row rfl 26 (.tmp 2) (.tmp 96) g2 26 _ (Sp.cells ({ ({ (wrS [77, 83, 69, 84] 3 40) with l := -1, s := 2 } : Sp) with od := true } : Sp)) rfl rfl rfl r2 (szSp _ _ _ _ _ _ _ _ _) rfl (one9 _ _ _ _ _ _ _ _ _) ?_); intro w4 r4 o4))
  refine bodyPost_ret (v := Sp.val ({ ({ (wrS [77, 83, 69, 84] 3 40) with l := -1, s := 2 } : Sp) with od := true } : Sp)) ?_ rfl ⟨rfl, BB.trans (o4.below p2)⟩
  exact results_cell_row Tryd.results27 _ _ g2 26 _ (0, 0) _ rfl r4 Tryd.underlying26 rfl (szSp _ _ _ _ _ _ _ _ _)
set_option maxRecDepth 100000 in
set_option maxHeartbeats 2000000 in
theorem sp_HGET (w : World) : Calls Tryd.prog 27 #[encStr [72, 71, 69, 84]] w fun e w' => e = .returned (Sp.val (rdS [72, 71, 69, 84] 3 3)) ∧ Below w.heap.size w w' := by
  go_enter Tryd.func27, Tryd.ntmps27
  go_wp2_with (first
    | ((with_reducible refine wl_alloc (o := ⟨some 2, _, _, _, _, _⟩) rfl 26 _ [.int .i64 0, .int .i64 0, .int .i64 0, encStr [], .int .i64 0, .int .i64 0, .bool false, .bool false, .bool false] rfl rfl rfl ?_); intro g2 w2 r2 p2 l2 b2))
  refine (reads_any w2 [72, 71, 69, 84] 3 3).mono ?_
  rintro e v0 ⟨rfl, c0⟩
  have r2 := r2.later c0
  have BB := (b2).trans (c0.mono (b2).size)
  go_wp2_with (first
    | ((with_reducible refine wl_store_row rfl 26 (.tmp 2) (.tmp 106) g2 26 _ (Sp.cells (rdS [72, 71, 69, 84] 3 3)) rfl rfl rfl r2 (szSp _ _ _ _ _ _ _ _ _) rfl (one9 _ _ _ _ _ _ _ _ _) ?_); intro w4 r4 o4))
  refine bodyPost_ret (v := Sp.val (rdS [72, 71, 69, 84] 3 3)) ?_ rfl ⟨rfl, BB.trans (o4.below p2)⟩
  exact results_cell_row Tryd.results27 _ _ g2 26 _ (0, 0) _ rfl r4 Tryd.underlying26 rfl (szSp _ _ _ _ _ _ _ _ _)
set_option maxRecDepth 100000 in
set_option maxHeartbeats 2000000 in
theorem sp_HEXISTS (w : World) : Calls Tryd.prog 27 #[encStr [72, 69, 88, 73, 83, 84, 83]] w fun e w' => e = .returned (Sp.val (rdS [72, 69, 88, 73, 83, 84, 83] 3 3)) ∧ Below w.heap.size w w' := by
  go_enter Tryd.func27, Tryd.ntmps27
  go_wp2_with (first
    | ((with_reducible refine wl_alloc (o := ⟨some 2, _, _, _, _, _⟩) rfl 26 _ [.int .i64 0, .int .i64 0, .int .i64 0, encStr [], .int .i64 0, .int .i64 0, .bool false, .bool false, .bool false] rfl rfl rfl ?_); intro g2 w2 r2 p2 l2 b2))
  refine (reads_any w2 [72, 69, 88, 73, 83, 84, 83] 3 3).mono ?_
  rintro e v0 ⟨rfl, c0⟩
  have r2 := r2.later c0
  have BB := (b2).trans (c0.mono (b2).size)
  go_wp2_with (first
    | ((with_reducible refine wl_store_row rfl 26 (.tmp 2) (.tmp 106) g2 26 _ (Sp.cells (rdS [72, 69, 88, 73, 83, 84, 83] 3 3)) rfl rfl rfl r2 (szSp _ _ _ _ _ _ _ _ _) rfl (one9 _ _ _ _ _ _ _ _ _) ?_); intro w4 r4 o4))
  refine bodyPost_ret (v := Sp.val (rdS [72, 69, 88, 73, 83, 84, 83] 3 3)) ?_ rfl ⟨rfl, BB.trans (o4.below p2)⟩
  exact results_cell_row Tryd.results27 _ _ g2 26 _ (0, 0) _ rfl r4 Tryd.underlying26 rfl (szSp _ _ _ _ _ _ _ _ _)
set_option maxRecDepth 100000 in
set_option maxHeartbeats 2000000 in
theorem sp_LINDEX (w : World) : Calls Tryd.prog 27 #[encStr [76, 73, 78, 68, 69, 88]] w fun e w' => e = .returned (Sp.val (rdS [76, 73, 78, 68, 69, 88] 3 3)) ∧ Below w.heap.size w w' := by
  go_enter Tryd.func27, Tryd.ntmps27
  go_wp2_with (first
    | ((with_reducible refine wl_alloc (o := ⟨some 2, _, _, _, _, _⟩) rfl 26 _ [.int .i64 0, .int .i64 0, .int .i64 0, encStr [], .int .i64 0, .int .i64 0, .bool false, .bool false, .bool false] rfl rfl rfl ?_); intro g2 w2 r2 p2 l2 b2))
  refine (reads_any w2 [76, 73, 78, 68, 69, 88] 3 3).mono ?_
  rintro e v0 ⟨rfl, c0⟩
  have r2 := r2.later c0
  have BB := (b2).trans (c0.mono (b2).size)
  go_wp2_with (first
    | ((with_reducible refine wl_store_row rfl 26 (.tmp 2) (.tmp 106) g2 26 _ (Sp.cells (rdS [76, 73, 78, 68, 69, 88] 3 3)) rfl rfl rfl r2 (szSp _ _ _ _ _ _ _ _ _) rfl (one9 _ _ _ _ _ _ _ _ _) ?_); intro w4 r4 o4))
  refine bodyPost_ret (v := Sp.val (rdS [76, 73, 78, 68, 69, 88] 3 3)) ?_ rfl ⟨rfl, BB.trans (o4.below p2)⟩
  exact results_cell_row Tryd.results27 _ _ g2 26 _ (0, 0) _ rfl r4 Tryd.underlying26 rfl (szSp _ _ _ _ _ _ _ _ _)
set_option maxRecDepth 100000 in
set_option maxHeartbeats 2000000 in
theorem sp_SISMEMBER (w : World) : Calls Tryd.prog 27 #[encStr [83, 73, 83, 77, 69, 77, 66, 69, 82]] w fun e w' => e = .returned (Sp.val (rdS [83, 73, 83, 77, 69, 77, 66, 69, 82] 3 3)) ∧ Below w.heap.size w w' := by
  go_enter Tryd.func27, Tryd.ntmps27
  go_wp2_with (first
    | ((with_reducible refine wl_alloc (o := ⟨some 2, _, _, _, _, _⟩) rfl 26 _ [.int .i64 0, .int .i64 0, .int .i64 0, encStr [], .int .i64 0, .int .i64 0, .bool false, .bool false, .bool false] rfl rfl rfl ?_); intro g2 w2 r2 p2 l2 b2))
  refine (reads_any w2 [83, 73, 83, 77, 69, 77, 66, 69, 82] 3 3).mono ?_
  rintro e v0 ⟨rfl, c0⟩
  have r2 := r2.later c0
  have BB := (b2).trans (c0.mono (b2).size)
  go_wp2_with (first
    | ((with_reducible refine wl_store_row rfl 26 (.tmp 2) (.tmp 106) g2 26 _ (Sp.cells (rdS [83, 73, 83, 77, 69, 77, 66, 69, 82] 3 3)) rfl rfl rfl r2 (szSp _ _ _ _ _ _ _ _ _) rfl (one9 _ _ _ _ _ _ _ _ _) ?_); intro w4 r4 o4))
  refine bodyPost_ret (v := Sp.val (rdS [83, 73, 83, 77, 69, 77, 66, 69, 82] 3 3)) ?_ rfl ⟨rfl, BB.trans (o4.below p2)⟩
  exact results_cell_row Tryd.results27 _ _ g2 26 _ (0, 0) _ rfl r4 Tryd.underlying26 rfl (szSp _ _ _ _ _ _ _ _ _)
set_option maxRecDepth 100000 in
set_option maxHeartbeats 2000000 in
theorem sp_ZSCORE (w : World) : Calls Tryd.prog 27 #[encStr [90, 83, 67, 79, 82, 69]] w fun e w' => e = .returned (Sp.val (rdS [90, 83, 67, 79, 82, 69] 3 3)) ∧ Below w.heap.size w w' := by
  go_enter Tryd.func27, Tryd.ntmps27
  go_wp2_with (first
    | ((with_reducible refine wl_alloc (o := ⟨some 2, _, _, _, _, _⟩) rfl 26 _ [.int .i64 0, .int .i64 0, .int .i64 0, encStr [], .int .i64 0, .int .i64 0, .bool false, .bool false, .bool false] rfl rfl rfl ?_); intro g2 w2 r2 p2 l2 b2))
  refine (reads_any w2 [90, 83, 67, 79, 82, 69] 3 3).mono ?_
  rintro e v0 ⟨rfl, c0⟩
  have r2 := r2.later c0
  have BB := (b2).trans (c0.mono (b2).size)
  go_wp2_with (first
    | ((with_reducible refine wl_store_row rfl 26 (.tmp 2) (.tmp 106) g2 26 _ (Sp.cells (rdS [90, 83, 67, 79, 82, 69] 3 3)) rfl rfl rfl r2 (szSp _ _ _ _ _ _ _ _ _) rfl (one9 _ _ _ _ _ _ _ _ _) ?_); intro w4 r4 o4))
  refine bodyPost_ret (v := Sp.val (rdS [90, 83, 67, 79, 82, 69] 3 3)) ?_ rfl ⟨rfl, BB.trans (o4.below p2)⟩
  exact results_cell_row Tryd.results27 _ _ g2 26 _ (0, 0) _ rfl r4 Tryd.underlying26 rfl (szSp _ _ _ _ _ _ _ _ _)
set_option maxRecDepth 100000 in
set_option maxHeartbeats 2000000 in
theorem sp_ZRANK (w : World) : Calls Tryd.prog 27 #[encStr [90, 82, 65, 78, 75]] w fun e w' => e = .returned (Sp.val (rdS [90, 82, 65, 78, 75] 3 3)) ∧ Below w.heap.size w w' := by
  go_enter Tryd.func27, Tryd.ntmps27
  go_wp2_with (first
    | ((with_reducible refine wl_alloc (o := ⟨some 2, _, _, _, _, _⟩) rfl 26 _ [.int .i64 0, .int .i64 0, .int .i64 0, encStr [], .int .i64 0, .int .i64 0, .bool false, .bool false, .bool false] rfl rfl rfl ?_); intro g2 w2 r2 p2 l2 b2))
  refine (reads_any w2 [90, 82, 65, 78, 75] 3 3).mono ?_
  rintro e v0 ⟨rfl, c0⟩
  have r2 := r2.later c0
  have BB := (b2).trans (c0.mono (b2).size)
  go_wp2_with (first
    | ((with_reducible refine wl_store_row rfl 26 (.tmp 2) (.tmp 106) g2 26 _ (Sp.cells (rdS [90, 82, 65, 78, 75] 3 3)) rfl rfl rfl r2 (szSp _ _ _ _ _ _ _ _ _) rfl (one9 _ _ _ _ _ _ _ _ _) ?_); intro w4 r4 o4))
  refine bodyPost_ret (v := Sp.val (rdS [90, 82, 65, 78, 75] 3 3)) ?_ rfl ⟨rfl, BB.trans (o4.below p2)⟩
  exact results_cell_row Tryd.results27 _ _ g2 26 _ (0, 0) _ rfl r4 Tryd.underlying26 rfl (szSp _ _ _ _ _ _ _ _ _)
set_option maxRecDepth 100000 in
set_option maxHeartbeats 2000000 in
theorem sp_ZREVRANK (w : World) : Calls Tryd.prog 27 #[encStr [90, 82, 69, 86, 82, 65, 78, 75]] w fun e w' => e = .returned (Sp.val (rdS [90, 82, 69, 86, 82, 65, 78, 75] 3 3)) ∧ Below w.heap.size w w' := by
  go_enter Tryd.func27, Tryd.ntmps27
  go_wp2_with (first
    | ((with_reducible refine wl_alloc (o := ⟨some 2, _, _, _, _, _⟩) rfl 26 _ [.int .i64 0, .int .i64 0, .int .i64 0, encStr [], .int .i64 0, .int .i64 0, .bool false, .bool false, .bool false] rfl rfl rfl ?_); intro g2 w2 r2 p2 l2 b2))
  refine (reads_any w2 [90, 82, 69, 86, 82, 65, 78, 75] 3 3).mono ?_
  rintro e v0 ⟨rfl, c0⟩
  have r2 := r2.later c0
  have BB := (b2).trans (c0.mono (b2).size)
  go_wp2_with (first
    | ((with_reducible refine wl_store_row rfl 26 (.tmp 2) (.tmp 106) g2 26 _ (Sp.cells (rdS [90, 82, 69, 86, 82, 65, 78, 75] 3 3)) rfl rfl rfl r2 (szSp _ _ _ _ _ _ _ _ _) rfl (one9 _ _ _ _ _ _ _ _ _) ?_); intro w4 r4 o4))
  refine bodyPost_ret (v := Sp.val (rdS [90, 82, 69, 86, 82, 65, 78, 75] 3 3)) ?_ rfl ⟨rfl, BB.trans (o4.below p2)⟩
  exact results_cell_row Tryd.results27 _ _ g2 26 _ (0, 0) _ rfl r4 Tryd.underlying26 rfl (szSp _ _ _ _ _ _ _ _ _)
set_option maxRecDepth 100000 in
set_option maxHeartbeats 2000000 in
theorem sp_HMGET (w : World) : Calls Tryd.prog 27 #[encStr [72, 77, 71, 69, 84]] w fun e w' => e = .returned (Sp.val (rdS [72, 77, 71, 69, 84] 3 40)) ∧ Below w.heap.size w w' := by
  go_enter Tryd.func27, Tryd.ntmps27
  go_wp2_with (first
    | ((with_reducible refine wl_alloc (o := ⟨some 2, _, _, _, _, _⟩) rfl 26 _ [.int .i64 0, .int .i64 0, .int .i64 0, encStr [], .int .i64 0, .int .i64 0, .bool false, .bool false, .bool false] rfl rfl rfl ?_); intro g2 w2 r2 p2 l2 b2))
  refine (reads_any w2 [72, 77, 71, 69, 84] 3 40).mono ?_
  rintro e v0 ⟨rfl, c0⟩
  have r2 := r2.later c0
  have BB := (b2).trans (c0.mono (b2).size)
  go_wp2_with (first
    | ((with_reducible refine wl_store_row rfl 26 (.tmp 2) (.tmp 110) g2 26 _ (Sp.cells (rdS [72, 77, 71, 69, 84] 3 40)) rfl rfl rfl r2 (szSp _ _ _ _ _ _ _ _ _) rfl (one9 _ _ _ _ _ _ _ _ _) ?_); intro w4 r4 o4))
  refine bodyPost_ret (v := Sp.val (rdS [72, 77, 71, 69, 84] 3 40)) ?_ rfl ⟨rfl, BB.trans (o4.below p2)⟩
  exact results_cell_row Tryd.results27 _ _ g2 26 _ (0, 0) _ rfl r4 Tryd.underlying26 rfl (szSp _ _ _ _ _ _ _ _ _)
set_option maxRecDepth 100000 in
set_option maxHeartbeats 2000000 in
theorem sp_HDEL (w : World) : Calls Tryd.prog 27 #[encStr [72, 68, 69, 76]] w fun e w' => e = .returned (Sp.val (wrS [72, 68, 69, 76] 3 40)) ∧ Below w.heap.size w w' := by
  go_enter Tryd.func27, Tryd.ntmps27
  go_wp2_with (first
    | ((with_reducible refine wl_alloc (o := ⟨some 2, _, _, _, _, _⟩) rfl 26 _ [.int .i64 0, .int .i64 0, .int .i64 0, encStr [], .int .i64 0, .int .i64 0, .bool false, .bool false, .bool false] rfl rfl rfl ?_); intro g2 w2 r2 p2 l2 b2))
  refine (writes_any w2 [72, 68, 69, 76] 3 40).mono ?_
  rintro e v0 ⟨rfl, c0⟩
  have r2 := r2.later c0
  have BB := (b2).trans (c0.mono (b2).size)
  go_wp2_with (first
    | ((with_reducible refine wl_store_row rfl 26 (.tmp 2) (.tmp 119) g2 26 _ (Sp.cells (wrS [72, 68, 69, 76] 3 40)) rfl rfl rfl r2 (szSp _ _ _ _ _ _ _ _ _) rfl (one9 _ _ _ _ _ _ _ _ _) ?_); intro w4 r4 o4))
  refine bodyPost_ret (v := Sp.val (wrS [72, 68, 69, 76] 3 40)) ?_ rfl ⟨rfl, BB.trans (o4.below p2)⟩
  exact results_cell_row Tryd.results27 _ _ g2 26 _ (0, 0) _ rfl r4 Tryd.underlying26 rfl (szSp _ _ _ _ _ _ _ _ _)
set_option maxRecDepth 100000 in
set_option maxHeartbeats 2000000 in
theorem sp_LPUSH (w : World) : Calls Tryd.prog 27 #[encStr [76, 80, 85, 83, 72]] w fun e w' => e = .returned (Sp.val (wrS [76, 80, 85, 83, 72] 3 40)) ∧ Below w.heap.size w w' := by
  go_enter Tryd.func27, Tryd.ntmps27
  go_wp2_with (first
    | ((with_reducible refine wl_alloc (o := ⟨some 2, _, _, _, _, _⟩) rfl 26 _ [.int .i64 0, .int .i64 0, .int .i64 0, encStr [], .int .i64 0, .int .i64 0, .bool false, .bool false, .bool false] rfl rfl rfl ?_); intro g2 w2 r2 p2 l2 b2))
  refine (writes_any w2 [76, 80, 85, 83, 72] 3 40).mono ?_
  rintro e v0 ⟨rfl, c0⟩
  have r2 := r2.later c0
  have BB := (b2).trans (c0.mono (b2).size)
  go_wp2_with (first
    | ((with_reducible refine wl_store_row rfl 26 (.tmp 2) (.tmp 119) g2 26 _ (Sp.cells (wrS [76, 80, 85, 83, 72] 3 40)) rfl rfl rfl r2 (szSp _ _ _ _ _ _ _ _ _) rfl (one9 _ _ _ _ _ _ _ _ _) ?_); intro w4 r4 o4))
  refine bodyPost_ret (v := Sp.val (wrS [76, 80, 85, 83, 72] 3 40)) ?_ rfl ⟨rfl, BB.trans (o4.below p2)⟩
  exact results_cell_row Tryd.results27 _ _ g2 26 _ (0, 0) _ rfl r4 Tryd.underlying26 rfl (szSp _ _ _ _ _ _ _ _ _)
set_option maxRecDepth 100000 in
set_option maxHeartbeats 2000000 in
theorem sp_RPUSH (w : World) : Calls Tryd.prog 27 #[encStr [82, 80, 85, 83, 72]] w fun e w' => e = .returned (Sp.val (wrS [82, 80, 85, 83, 72] 3 40)) ∧ Below w.heap.size w w' := by
  go_enter Tryd.func27, Tryd.ntmps27
  go_wp2_with (first
    | ((with_reducible refine wl_alloc (o := ⟨some 2, _, _, _, _, _⟩) rfl 26 _ [.int .i64 0, .int .i64 0, .int .i64 0, encStr [], .int .i64 0, .int .i64 0, .bool false, .bool false, .bool false] rfl rfl rfl ?_); intro g2 w2 r2 p2 l2 b2))
  refine (writes_any w2 [82, 80, 85, 83, 72] 3 40).mono ?_
  rintro e v0 ⟨rfl, c0⟩
  have r2 := r2.later c0
  have BB := (b2).trans (c0.mono (b2).size)
  go_wp2_with (first
    | ((with_reducible refine wl_store_row rfl 26 (.tmp 2) (.tmp 119) g2 26 _ (Sp.cells (wrS [82, 80, 85, 83, 72] 3 40)) rfl rfl rfl r2 (szSp _ _ _ _ _ _ _ _ _) rfl (one9 _ _ _ _ _ _ _ _ _) ?_); intro w4 r4 o4))
  refine bodyPost_ret (v := Sp.val (wrS [82, 80, 85, 83, 72] 3 40)) ?_ rfl ⟨rfl, BB.trans (o4.below p2)⟩
  exact results_cell_row Tryd.results27 _ _ g2 26 _ (0, 0) _ rfl r4 Tryd.underlying26 rfl (szSp _ _ _ _ _ _ _ _ _)
set_option maxRecDepth 100000 in
set_option maxHeartbeats 2000000 in
theorem sp_SADD (w : World) : Calls Tryd.prog 27 #[encStr [83, 65, 68, 68]] w fun e w' => e = .returned (Sp.val (wrS [83, 65, 68, 68] 3 40)) ∧ Below w.heap.size w w' := by
  go_enter Tryd.func27, Tryd.ntmps27
  go_wp2_with (first
    | ((with_reducible refine wl_alloc (o := ⟨some 2, _, _, _, _, _⟩) rfl 26 _ [.int .i64 0, .int .i64 0, .int .i64 0, encStr [], .int .i64 0, .int .i64 0, .bool false, .bool false, .bool false] rfl rfl rfl ?_); intro g2 w2 r2 p2 l2 b2))
  refine (writes_any w2 [83, 65, 68, 68] 3 40).mono ?_
  rintro e v0 ⟨rfl, c0⟩
  have r2 := r2.later c0
  have BB := (b2).trans (c0.mono (b2).size)
  go_wp2_with (first
    | ((with_reducible refine wl_store_row rfl 26 (.tmp 2) (.tmp 119) g2 26 _ (Sp.cells (wrS [83, 65, 68, 68] 3 40)) rfl rfl rfl r2 (szSp _ _ _ _ _ _ _ _ _) rfl (one9 _ _ _ _ _ _ _ _ _) ?_); intro w4 r4 o4))
  refine bodyPost_ret (v := Sp.val (wrS [83, 65, 68, 68] 3 40)) ?_ rfl ⟨rfl, BB.trans (o4.below p2)⟩
  exact results_cell_row Tryd.results27 _ _ g2 26 _ (0, 0) _ rfl r4 Tryd.underlying26 rfl (szSp _ _ _ _ _ _ _ _ _)
end Go.Proofs.YtolmomnocfkhoaaDoor

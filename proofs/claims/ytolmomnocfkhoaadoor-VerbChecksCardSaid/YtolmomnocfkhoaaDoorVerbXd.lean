/-
  Commands: the specs of names, part 4. Contracts. Own work.
-/
import Derived.Test.YtolmomnocfkhoaaDoorVerbL
namespace Go.Proofs.YtolmomnocfkhoaaDoor
open Go.RowKit
set_option linter.unusedVariables false
set_option linter.unusedSimpArgs false
set_option maxRecDepth 100000 in
set_option maxHeartbeats 2000000 in
theorem sp_SREM (w : World) : Calls Tryd.prog 27 #[encStr [83, 82, 69, 77]] w fun e w' => e = .returned (Sp.val (wrS [83, 82, 69, 77] 3 40)) ∧ Below w.heap.size w w' := by
  go_enter Tryd.func27, Tryd.ntmps27
  go_wp2_with (first
    | ((with_reducible refine wl_alloc (o := ⟨some 2, _, _, _, _, _⟩) rfl 26 _ [.int .i64 0, .int .i64 0, .int .i64 0, encStr [], .int .i64 0, .int .i64 0, .bool false, .bool false, .bool false] rfl rfl rfl ?_); intro g2 w2 r2 p2 l2 b2))
  refine (writes_any w2 [83, 82, 69, 77] 3 40).mono ?_
  rintro e v0 ⟨rfl, c0⟩
  have r2 := r2.later c0
  have BB := (b2).trans (c0.mono (b2).size)
  go_wp2_with (first
    | ((with_reducible refine wl_store_row rfl 26 (.tmp 2) (.tmp 119) g2 26 _ (Sp.cells (wrS [83, 82, 69, 77] 3 40)) rfl rfl rfl r2 (szSp _ _ _ _ _ _ _ _ _) rfl (one9 _ _ _ _ _ _ _ _ _) ?_); intro w4 r4 o4))
  refine bodyPost_ret (v := Sp.val (wrS [83, 82, 69, 77] 3 40)) ?_ rfl ⟨rfl, BB.trans (o4.below p2)⟩
  exact results_cell_row Tryd.results27 _ _ g2 26 _ (0, 0) _ rfl r4 Tryd.underlying26 rfl (szSp _ _ _ _ _ _ _ _ _)
set_option maxRecDepth 100000 in
set_option maxHeartbeats 2000000 in
theorem sp_ZREM (w : World) : Calls Tryd.prog 27 #[encStr [90, 82, 69, 77]] w fun e w' => e = .returned (Sp.val (wrS [90, 82, 69, 77] 3 40)) ∧ Below w.heap.size w w' := by
  go_enter Tryd.func27, Tryd.ntmps27
  go_wp2_with (first
    | ((with_reducible refine wl_alloc (o := ⟨some 2, _, _, _, _, _⟩) rfl 26 _ [.int .i64 0, .int .i64 0, .int .i64 0, encStr [], .int .i64 0, .int .i64 0, .bool false, .bool false, .bool false] rfl rfl rfl ?_); intro g2 w2 r2 p2 l2 b2))
  refine (writes_any w2 [90, 82, 69, 77] 3 40).mono ?_
  rintro e v0 ⟨rfl, c0⟩
  have r2 := r2.later c0
  have BB := (b2).trans (c0.mono (b2).size)
  go_wp2_with (first
    | ((with_reducible refine wl_store_row rfl 26 (.tmp 2) (.tmp 119) g2 26 _ (Sp.cells (wrS [90, 82, 69, 77] 3 40)) rfl rfl rfl r2 (szSp _ _ _ _ _ _ _ _ _) rfl (one9 _ _ _ _ _ _ _ _ _) ?_); intro w4 r4 o4))
  refine bodyPost_ret (v := Sp.val (wrS [90, 82, 69, 77] 3 40)) ?_ rfl ⟨rfl, BB.trans (o4.below p2)⟩
  exact results_cell_row Tryd.results27 _ _ g2 26 _ (0, 0) _ rfl r4 Tryd.underlying26 rfl (szSp _ _ _ _ _ _ _ _ _)
set_option maxRecDepth 100000 in
set_option maxHeartbeats 2000000 in
theorem sp_GETRANGE (w : World) : Calls Tryd.prog 27 #[encStr [71, 69, 84, 82, 65, 78, 71, 69]] w fun e w' => e = .returned (Sp.val (rdS [71, 69, 84, 82, 65, 78, 71, 69] 4 4)) ∧ Below w.heap.size w w' := by
  go_enter Tryd.func27, Tryd.ntmps27
  go_wp2_with (first
    | ((with_reducible refine wl_alloc (o := ⟨some 2, _, _, _, _, _⟩) rfl 26 _ [.int .i64 0, .int .i64 0, .int .i64 0, encStr [], .int .i64 0, .int .i64 0, .bool false, .bool false, .bool false] rfl rfl rfl ?_); intro g2 w2 r2 p2 l2 b2))
  refine (reads_any w2 [71, 69, 84, 82, 65, 78, 71, 69] 4 4).mono ?_
  rintro e v0 ⟨rfl, c0⟩
  have r2 := r2.later c0
  have BB := (b2).trans (c0.mono (b2).size)
  go_wp2_with (first
    | ((with_reducible refine wl_store_row rfl 26 (.tmp 2) (.tmp 127) g2 26 _ (Sp.cells (rdS [71, 69, 84, 82, 65, 78, 71, 69] 4 4)) rfl rfl rfl r2 (szSp _ _ _ _ _ _ _ _ _) rfl (one9 _ _ _ _ _ _ _ _ _) ?_); intro w4 r4 o4))
  refine bodyPost_ret (v := Sp.val (rdS [71, 69, 84, 82, 65, 78, 71, 69] 4 4)) ?_ rfl ⟨rfl, BB.trans (o4.below p2)⟩
  exact results_cell_row Tryd.results27 _ _ g2 26 _ (0, 0) _ rfl r4 Tryd.underlying26 rfl (szSp _ _ _ _ _ _ _ _ _)
set_option maxRecDepth 100000 in
set_option maxHeartbeats 2000000 in
theorem sp_LRANGE (w : World) : Calls Tryd.prog 27 #[encStr [76, 82, 65, 78, 71, 69]] w fun e w' => e = .returned (Sp.val (rdS [76, 82, 65, 78, 71, 69] 4 4)) ∧ Below w.heap.size w w' := by
  go_enter Tryd.func27, Tryd.ntmps27
  go_wp2_with (first
    | ((with_reducible refine wl_alloc (o := ⟨some 2, _, _, _, _, _⟩) rfl 26 _ [.int .i64 0, .int .i64 0, .int .i64 0, encStr [], .int .i64 0, .int .i64 0, .bool false, .bool false, .bool false] rfl rfl rfl ?_); intro g2 w2 r2 p2 l2 b2))
  refine (reads_any w2 [76, 82, 65, 78, 71, 69] 4 4).mono ?_
  rintro e v0 ⟨rfl, c0⟩
  have r2 := r2.later c0
  have BB := (b2).trans (c0.mono (b2).size)
  go_wp2_with (first
    | ((with_reducible refine wl_store_row rfl 26 (.tmp 2) (.tmp 127) g2 26 _ (Sp.cells (rdS [76, 82, 65, 78, 71, 69] 4 4)) rfl rfl rfl r2 (szSp _ _ _ _ _ _ _ _ _) rfl (one9 _ _ _ _ _ _ _ _ _) ?_); intro w4 r4 o4))
  refine bodyPost_ret (v := Sp.val (rdS [76, 82, 65, 78, 71, 69] 4 4)) ?_ rfl ⟨rfl, BB.trans (o4.below p2)⟩
  exact results_cell_row Tryd.results27 _ _ g2 26 _ (0, 0) _ rfl r4 Tryd.underlying26 rfl (szSp _ _ _ _ _ _ _ _ _)
set_option maxRecDepth 100000 in
set_option maxHeartbeats 2000000 in
theorem sp_ZREVRANGE (w : World) : Calls Tryd.prog 27 #[encStr [90, 82, 69, 86, 82, 65, 78, 71, 69]] w fun e w' => e = .returned (Sp.val (rdS [90, 82, 69, 86, 82, 65, 78, 71, 69] 4 4)) ∧ Below w.heap.size w w' := by
  go_enter Tryd.func27, Tryd.ntmps27
  go_wp2_with (first
    | ((with_reducible refine wl_alloc (o := ⟨some 2, _, _, _, _, _⟩) rfl 26 _ [.int .i64 0, .int .i64 0, .int .i64 0, encStr [], .int .i64 0, .int .i64 0, .bool false, .bool false, .bool false] rfl rfl rfl ?_); intro g2 w2 r2 p2 l2 b2))
  refine (reads_any w2 [90, 82, 69, 86, 82, 65, 78, 71, 69] 4 4).mono ?_
  rintro e v0 ⟨rfl, c0⟩
  have r2 := r2.later c0
  have BB := (b2).trans (c0.mono (b2).size)
  go_wp2_with (first
    | ((with_reducible refine wl_store_row rfl 26 (.tmp 2) (.tmp 127) g2 26 _ (Sp.cells (rdS [90, 82, 69, 86, 82, 65, 78, 71, 69] 4 4)) rfl rfl rfl r2 (szSp _ _ _ _ _ _ _ _ _) rfl (one9 _ _ _ _ _ _ _ _ _) ?_); intro w4 r4 o4))
  refine bodyPost_ret (v := Sp.val (rdS [90, 82, 69, 86, 82, 65, 78, 71, 69] 4 4)) ?_ rfl ⟨rfl, BB.trans (o4.below p2)⟩
  exact results_cell_row Tryd.results27 _ _ g2 26 _ (0, 0) _ rfl r4 Tryd.underlying26 rfl (szSp _ _ _ _ _ _ _ _ _)
set_option maxRecDepth 100000 in
set_option maxHeartbeats 2000000 in
theorem sp_ZRANGEBYSCORE (w : World) : Calls Tryd.prog 27 #[encStr [90, 82, 65, 78, 71, 69, 66, 89, 83, 67, 79, 82, 69]] w fun e w' => e = .returned (Sp.val (rdS [90, 82, 65, 78, 71, 69, 66, 89, 83, 67, 79, 82, 69] 4 4)) ∧ Below w.heap.size w w' := by
  go_enter Tryd.func27, Tryd.ntmps27
  go_wp2_with (first
    | ((with_reducible refine wl_alloc (o := ⟨some 2, _, _, _, _, _⟩) rfl 26 _ [.int .i64 0, .int .i64 0, .int .i64 0, encStr [], .int .i64 0, .int .i64 0, .bool false, .bool false, .bool false] rfl rfl rfl ?_); intro g2 w2 r2 p2 l2 b2))
  refine (reads_any w2 [90, 82, 65, 78, 71, 69, 66, 89, 83, 67, 79, 82, 69] 4 4).mono ?_
  rintro e v0 ⟨rfl, c0⟩
  have r2 := r2.later c0
  have BB := (b2).trans (c0.mono (b2).size)
  go_wp2_with (first
    | ((with_reducible refine wl_store_row rfl 26 (.tmp 2) (.tmp 127) g2 26 _ (Sp.cells (rdS [90, 82, 65, 78, 71, 69, 66, 89, 83, 67, 79, 82, 69] 4 4)) rfl rfl rfl r2 (szSp _ _ _ _ _ _ _ _ _) rfl (one9 _ _ _ _ _ _ _ _ _) ?_); intro w4 r4 o4))
  refine bodyPost_ret (v := Sp.val (rdS [90, 82, 65, 78, 71, 69, 66, 89, 83, 67, 79, 82, 69] 4 4)) ?_ rfl ⟨rfl, BB.trans (o4.below p2)⟩
  exact results_cell_row Tryd.results27 _ _ g2 26 _ (0, 0) _ rfl r4 Tryd.underlying26 rfl (szSp _ _ _ _ _ _ _ _ _)
set_option maxRecDepth 100000 in
set_option maxHeartbeats 2000000 in
theorem sp_ZCOUNT (w : World) : Calls Tryd.prog 27 #[encStr [90, 67, 79, 85, 78, 84]] w fun e w' => e = .returned (Sp.val (rdS [90, 67, 79, 85, 78, 84] 4 4)) ∧ Below w.heap.size w w' := by
  go_enter Tryd.func27, Tryd.ntmps27
  go_wp2_with (first
    | ((with_reducible refine wl_alloc (o := ⟨some 2, _, _, _, _, _⟩) rfl 26 _ [.int .i64 0, .int .i64 0, .int .i64 0, encStr [], .int .i64 0, .int .i64 0, .bool false, .bool false, .bool false] rfl rfl rfl ?_); intro g2 w2 r2 p2 l2 b2))
  refine (reads_any w2 [90, 67, 79, 85, 78, 84] 4 4).mono ?_
  rintro e v0 ⟨rfl, c0⟩
  have r2 := r2.later c0
  have BB := (b2).trans (c0.mono (b2).size)
  go_wp2_with (first
    | ((with_reducible refine wl_store_row rfl 26 (.tmp 2) (.tmp 127) g2 26 _ (Sp.cells (rdS [90, 67, 79, 85, 78, 84] 4 4)) rfl rfl rfl r2 (szSp _ _ _ _ _ _ _ _ _) rfl (one9 _ _ _ _ _ _ _ _ _) ?_); intro w4 r4 o4))
  refine bodyPost_ret (v := Sp.val (rdS [90, 67, 79, 85, 78, 84] 4 4)) ?_ rfl ⟨rfl, BB.trans (o4.below p2)⟩
  exact results_cell_row Tryd.results27 _ _ g2 26 _ (0, 0) _ rfl r4 Tryd.underlying26 rfl (szSp _ _ _ _ _ _ _ _ _)
set_option maxRecDepth 100000 in
set_option maxHeartbeats 2000000 in
theorem sp_SETRANGE (w : World) : Calls Tryd.prog 27 #[encStr [83, 69, 84, 82, 65, 78, 71, 69]] w fun e w' => e = .returned (Sp.val (wrS [83, 69, 84, 82, 65, 78, 71, 69] 4 4)) ∧ Below w.heap.size w w' := by
  go_enter Tryd.func27, Tryd.ntmps27
  go_wp2_with (first
    | ((with_reducible refine wl_alloc (o := ⟨some 2, _, _, _, _, _⟩) rfl 26 _ [.int .i64 0, .int .i64 0, .int .i64 0, encStr [], .int .i64 0, .int .i64 0, .bool false, .bool false, .bool false] rfl rfl rfl ?_); intro g2 w2 r2 p2 l2 b2))
  refine (writes_any w2 [83, 69, 84, 82, 65, 78, 71, 69] 4 4).mono ?_
  rintro e v0 ⟨rfl, c0⟩
  have r2 := r2.later c0
  have BB := (b2).trans (c0.mono (b2).size)
  go_wp2_with (first
    | ((with_reducible refine wl_store_row rfl 26 (.tmp 2) (.tmp 138) g2 26 _ (Sp.cells (wrS [83, 69, 84, 82, 65, 78, 71, 69] 4 4)) rfl rfl rfl r2 (szSp _ _ _ _ _ _ _ _ _) rfl (one9 _ _ _ _ _ _ _ _ _) ?_); intro w4 r4 o4))
  refine bodyPost_ret (v := Sp.val (wrS [83, 69, 84, 82, 65, 78, 71, 69] 4 4)) ?_ rfl ⟨rfl, BB.trans (o4.below p2)⟩
  exact results_cell_row Tryd.results27 _ _ g2 26 _ (0, 0) _ rfl r4 Tryd.underlying26 rfl (szSp _ _ _ _ _ _ _ _ _)
set_option maxRecDepth 100000 in
set_option maxHeartbeats 2000000 in
theorem sp_HSETNX (w : World) : Calls Tryd.prog 27 #[encStr [72, 83, 69, 84, 78, 88]] w fun e w' => e = .returned (Sp.val (wrS [72, 83, 69, 84, 78, 88] 4 4)) ∧ Below w.heap.size w w' := by
  go_enter Tryd.func27, Tryd.ntmps27
  go_wp2_with (first
    | ((with_reducible refine wl_alloc (o := ⟨some 2, _, _, _, _, _⟩) rfl 26 _ [.int .i64 0, .int .i64 0, .int .i64 0, encStr [], .int .i64 0, .int .i64 0, .bool false, .bool false, .bool false] rfl rfl rfl ?_); intro g2 w2 r2 p2 l2 b2))
  refine (writes_any w2 [72, 83, 69, 84, 78, 88] 4 4).mono ?_
  rintro e v0 ⟨rfl, c0⟩
  have r2 := r2.later c0
  have BB := (b2).trans (c0.mono (b2).size)
  go_wp2_with (first
    | ((with_reducible refine wl_store_row rfl 26 (.tmp 2) (.tmp 138) g2 26 _ (Sp.cells (wrS [72, 83, 69, 84, 78, 88] 4 4)) rfl rfl rfl r2 (szSp _ _ _ _ _ _ _ _ _) rfl (one9 _ _ _ _ _ _ _ _ _) ?_); intro w4 r4 o4))
  refine bodyPost_ret (v := Sp.val (wrS [72, 83, 69, 84, 78, 88] 4 4)) ?_ rfl ⟨rfl, BB.trans (o4.below p2)⟩
  exact results_cell_row Tryd.results27 _ _ g2 26 _ (0, 0) _ rfl r4 Tryd.underlying26 rfl (szSp _ _ _ _ _ _ _ _ _)
set_option maxRecDepth 100000 in
set_option maxHeartbeats 2000000 in
theorem sp_HINCRBY (w : World) : Calls Tryd.prog 27 #[encStr [72, 73, 78, 67, 82, 66, 89]] w fun e w' => e = .returned (Sp.val (wrS [72, 73, 78, 67, 82, 66, 89] 4 4)) ∧ Below w.heap.size w w' := by
  go_enter Tryd.func27, Tryd.ntmps27
  go_wp2_with (first
    | ((with_reducible refine wl_alloc (o := ⟨some 2, _, _, _, _, _⟩) rfl 26 _ [.int .i64 0, .int .i64 0, .int .i64 0, encStr [], .int .i64 0, .int .i64 0, .bool false, .bool false, .bool false] rfl rfl rfl ?_); intro g2 w2 r2 p2 l2 b2))
  refine (writes_any w2 [72, 73, 78, 67, 82, 66, 89] 4 4).mono ?_
  rintro e v0 ⟨rfl, c0⟩
  have r2 := r2.later c0
  have BB := (b2).trans (c0.mono (b2).size)
  go_wp2_with (first
    | ((with_reducible refine wl_store_row rfl 26 (.tmp 2) (.tmp 138) g2 26 _ (Sp.cells (wrS [72, 73, 78, 67, 82, 66, 89] 4 4)) rfl rfl rfl r2 (szSp _ _ _ _ _ _ _ _ _) rfl (one9 _ _ _ _ _ _ _ _ _) ?_); intro w4 r4 o4))
  refine bodyPost_ret (v := Sp.val (wrS [72, 73, 78, 67, 82, 66, 89] 4 4)) ?_ rfl ⟨rfl, BB.trans (o4.below p2)⟩
  exact results_cell_row Tryd.results27 _ _ g2 26 _ (0, 0) _ rfl r4 Tryd.underlying26 rfl (szSp _ _ _ _ _ _ _ _ _)
set_option maxRecDepth 100000 in
set_option maxHeartbeats 2000000 in
theorem sp_LSET (w : World) : Calls Tryd.prog 27 #[encStr [76, 83, 69, 84]] w fun e w' => e = .returned (Sp.val (wrS [76, 83, 69, 84] 4 4)) ∧ Below w.heap.size w w' := by
  go_enter Tryd.func27, Tryd.ntmps27
  go_wp2_with (first
    | ((with_reducible refine wl_alloc (o := ⟨some 2, _, _, _, _, _⟩) rfl 26 _ [.int .i64 0, .int .i64 0, .int .i64 0, encStr [], .int .i64 0, .int .i64 0, .bool false, .bool false, .bool false] rfl rfl rfl ?_); intro g2 w2 r2 p2 l2 b2))
  refine (writes_any w2 [76, 83, 69, 84] 4 4).mono ?_
  rintro e v0 ⟨rfl, c0⟩
  have r2 := r2.later c0
  have BB := (b2).trans (c0.mono (b2).size)
  go_wp2_with (first
    | ((with_reducible refine wl_store_row rfl 26 (.tmp 2) (.tmp 138) g2 26 _ (Sp.cells (wrS [76, 83, 69, 84] 4 4)) rfl rfl rfl r2 (szSp _ _ _ _ _ _ _ _ _) rfl (one9 _ _ _ _ _ _ _ _ _) ?_); intro w4 r4 o4))
  refine bodyPost_ret (v := Sp.val (wrS [76, 83, 69, 84] 4 4)) ?_ rfl ⟨rfl, BB.trans (o4.below p2)⟩
  exact results_cell_row Tryd.results27 _ _ g2 26 _ (0, 0) _ rfl r4 Tryd.underlying26 rfl (szSp _ _ _ _ _ _ _ _ _)
set_option maxRecDepth 100000 in
set_option maxHeartbeats 2000000 in
theorem sp_LTRIM (w : World) : Calls Tryd.prog 27 #[encStr [76, 84, 82, 73, 77]] w fun e w' => e = .returned (Sp.val (wrS [76, 84, 82, 73, 77] 4 4)) ∧ Below w.heap.size w w' := by
  go_enter Tryd.func27, Tryd.ntmps27
  go_wp2_with (first
    | ((with_reducible refine wl_alloc (o := ⟨some 2, _, _, _, _, _⟩) rfl 26 _ [.int .i64 0, .int .i64 0, .int .i64 0, encStr [], .int .i64 0, .int .i64 0, .bool false, .bool false, .bool false] rfl rfl rfl ?_); intro g2 w2 r2 p2 l2 b2))
  refine (writes_any w2 [76, 84, 82, 73, 77] 4 4).mono ?_
  rintro e v0 ⟨rfl, c0⟩
  have r2 := r2.later c0
  have BB := (b2).trans (c0.mono (b2).size)
  go_wp2_with (first
    | ((with_reducible refine wl_store_row rfl 26 (.tmp 2) (.tmp 138) g2 26 _ (Sp.cells (wrS [76, 84, 82, 73, 77] 4 4)) rfl rfl rfl r2 (szSp _ _ _ _ _ _ _ _ _) rfl (one9 _ _ _ _ _ _ _ _ _) ?_); intro w4 r4 o4))
  refine bodyPost_ret (v := Sp.val (wrS [76, 84, 82, 73, 77] 4 4)) ?_ rfl ⟨rfl, BB.trans (o4.below p2)⟩
  exact results_cell_row Tryd.results27 _ _ g2 26 _ (0, 0) _ rfl r4 Tryd.underlying26 rfl (szSp _ _ _ _ _ _ _ _ _)
set_option maxRecDepth 100000 in
set_option maxHeartbeats 2000000 in
theorem sp_LREM (w : World) : Calls Tryd.prog 27 #[encStr [76, 82, 69, 77]] w fun e w' => e = .returned (Sp.val (wrS [76, 82, 69, 77] 4 4)) ∧ Below w.heap.size w w' := by
  go_enter Tryd.func27, Tryd.ntmps27
  go_wp2_with (first
    | ((with_reducible refine wl_alloc (o := ⟨some 2, _, _, _, _, _⟩) rfl 26 _ [.int .i64 0, .int .i64 0, .int .i64 0, encStr [], .int .i64 0, .int .i64 0, .bool false, .bool false, .bool false] rfl rfl rfl ?_); intro g2 w2 r2 p2 l2 b2))
  refine (writes_any w2 [76, 82, 69, 77] 4 4).mono ?_
  rintro e v0 ⟨rfl, c0⟩
  have r2 := r2.later c0
  have BB := (b2).trans (c0.mono (b2).size)
  go_wp2_with (first
    | ((with_reducible refine wl_store_row rfl 26 (.tmp 2) (.tmp 138) g2 26 _ (Sp.cells (wrS [76, 82, 69, 77] 4 4)) rfl rfl rfl r2 (szSp _ _ _ _ _ _ _ _ _) rfl (one9 _ _ _ _ _ _ _ _ _) ?_); intro w4 r4 o4))
  refine bodyPost_ret (v := Sp.val (wrS [76, 82, 69, 77] 4 4)) ?_ rfl ⟨rfl, BB.trans (o4.below p2)⟩
  exact results_cell_row Tryd.results27 _ _ g2 26 _ (0, 0) _ rfl r4 Tryd.underlying26 rfl (szSp _ _ _ _ _ _ _ _ _)
set_option maxRecDepth 100000 in
set_option maxHeartbeats 2000000 in
theorem sp_ZINCRBY (w : World) : Calls Tryd.prog 27 #[encStr [90, 73, 78, 67, 82, 66, 89]] w fun e w' => e = .returned (Sp.val (wrS [90, 73, 78, 67, 82, 66, 89] 4 4)) ∧ Below w.heap.size w w' := by
  go_enter Tryd.func27, Tryd.ntmps27
  go_wp2_with (first
    | ((with_reducible refine wl_alloc (o := ⟨some 2, _, _, _, _, _⟩) rfl 26 _ [.int .i64 0, .int .i64 0, .int .i64 0, encStr [], .int .i64 0, .int .i64 0, .bool false, .bool false, .bool false] rfl rfl rfl ?_); intro g2 w2 r2 p2 l2 b2))
  refine (writes_any w2 [90, 73, 78, 67, 82, 66, 89] 4 4).mono ?_
  rintro e v0 ⟨rfl, c0⟩
  have r2 := r2.later c0
  have BB := (b2).trans (c0.mono (b2).size)
  go_wp2_with (first
    | ((with_reducible refine wl_store_row rfl 26 (.tmp 2) (.tmp 138) g2 26 _ (Sp.cells (wrS [90, 73, 78, 67, 82, 66, 89] 4 4)) rfl rfl rfl r2 (szSp _ _ _ _ _ _ _ _ _) rfl (one9 _ _ _ _ _ _ _ _ _) ?_); intro w4 r4 o4))
  refine bodyPost_ret (v := Sp.val (wrS [90, 73, 78, 67, 82, 66, 89] 4 4)) ?_ rfl ⟨rfl, BB.trans (o4.below p2)⟩
  exact results_cell_row Tryd.results27 _ _ g2 26 _ (0, 0) _ rfl r4 Tryd.underlying26 rfl (szSp _ _ _ _ _ _ _ _ _)
set_option maxRecDepth 100000 in
set_option maxHeartbeats 2000000 in
theorem sp_ZREMRANGEBYSCORE (w : World) : Calls Tryd.prog 27 #[encStr [90, 82, 69, 77, 82, 65, 78, 71, 69, 66, 89, 83, 67, 79, 82, 69]] w fun e w' => e = .returned (Sp.val (wrS [90, 82, 69, 77, 82, 65, 78, 71, 69, 66, 89, 83, 67, 79, 82, 69] 4 4)) ∧ Below w.heap.size w w' := by
  go_enter Tryd.func27, Tryd.ntmps27
  go_wp2_with (first
    | ((with_reducible refine wl_alloc (o := ⟨some 2, _, _, _, _, _⟩) rfl 26 _ [.int .i64 0, .int .i64 0, .int .i64 0, encStr [], .int .i64 0, .int .i64 0, .bool false, .bool false, .bool false] rfl rfl rfl ?_); intro g2 w2 r2 p2 l2 b2))
  refine (writes_any w2 [90, 82, 69, 77, 82, 65, 78, 71, 69, 66, 89, 83, 67, 79, 82, 69] 4 4).mono ?_
  rintro e v0 ⟨rfl, c0⟩
  have r2 := r2.later c0
  have BB := (b2).trans (c0.mono (b2).size)
  go_wp2_with (first
    | ((with_reducible refine wl_store_row rfl 26 (.tmp 2) (.tmp 138) g2 26 _ (Sp.cells (wrS [90, 82, 69, 77, 82, 65, 78, 71, 69, 66, 89, 83, 67, 79, 82, 69] 4 4)) rfl rfl rfl r2 (szSp _ _ _ _ _ _ _ _ _) rfl (one9 _ _ _ _ _ _ _ _ _) ?_); intro w4 r4 o4))
  refine bodyPost_ret (v := Sp.val (wrS [90, 82, 69, 77, 82, 65, 78, 71, 69, 66, 89, 83, 67, 79, 82, 69] 4 4)) ?_ rfl ⟨rfl, BB.trans (o4.below p2)⟩
  exact results_cell_row Tryd.results27 _ _ g2 26 _ (0, 0) _ rfl r4 Tryd.underlying26 rfl (szSp _ _ _ _ _ _ _ _ _)
set_option maxRecDepth 100000 in
set_option maxHeartbeats 2000000 in
theorem sp_SMOVE (w : World) : Calls Tryd.prog 27 #[encStr [83, 77, 79, 86, 69]] w fun e w' => e = .returned (Sp.val ({ (wrS [83, 77, 79, 86, 69] 4 4) with l := 2, s := 1 } : Sp)) ∧ Below w.heap.size w w' := by
  go_enter Tryd.func27, Tryd.ntmps27
  go_wp2_with (first
    | ((with_reducible refine wl_alloc (o := ⟨some 2, _, _, _, _, _⟩) rfl 26 _ [.int .i64 0, .int .i64 0, .int .i64 0, encStr [], .int .i64 0, .int .i64 0, .bool false, .bool false, .bool false] rfl rfl rfl ?_); intro g2 w2 r2 p2 l2 b2))
  refine (writes_any w2 [83, 77, 79, 86, 69] 4 4).mono ?_
  rintro e v0 ⟨rfl, c0⟩
  have r2 := r2.later c0
  go_wp2_with fail
  refine (keys_any v0 (wrS [83, 77, 79, 86, 69] 4 4) (2) 1).mono ?_
  rintro e v1 ⟨rfl, c1⟩
  have r2 := r2.later c1
  have BB := ((b2).trans (c0.mono (b2).size)).trans (c1.mono ((b2).trans (c0.mono (b2).size)).size)
  go_wp2_with (first
    | ((with_reducible refine wl_store_row rfl 26 (.tmp 2) (.tmp 143) g2 26 _ (Sp.cells ({ (wrS [83, 77, 79, 86, 69] 4 4) with l := 2, s := 1 } : Sp)) rfl rfl rfl r2 (szSp _ _ _ _ _ _ _ _ _) rfl (one9 _ _ _ _ _ _ _ _ _) ?_); intro w4 r4 o4))
  refine bodyPost_ret (v := Sp.val ({ (wrS [83, 77, 79, 86, 69] 4 4) with l := 2, s := 1 } : Sp)) ?_ rfl ⟨rfl, BB.trans (o4.below p2)⟩
  exact results_cell_row Tryd.results27 _ _ g2 26 _ (0, 0) _ rfl r4 Tryd.underlying26 rfl (szSp _ _ _ _ _ _ _ _ _)
set_option maxRecDepth 100000 in
set_option maxHeartbeats 2000000 in
theorem sp_ZRANGE (w : World) : Calls Tryd.prog 27 #[encStr [90, 82, 65, 78, 71, 69]] w fun e w' => e = .returned (Sp.val (rdS [90, 82, 65, 78, 71, 69] 4 5)) ∧ Below w.heap.size w w' := by
  go_enter Tryd.func27, Tryd.ntmps27
  go_wp2_with (first
    | ((with_reducible refine wl_alloc (o := ⟨some 2, _, _, _, _, _⟩) rfl 26 _ [.int .i64 0, .int .i64 0, .int .i64 0, encStr [], .int .i64 0, .int .i64 0, .bool false, .bool false, .bool false] rfl rfl rfl ?_); intro g2 w2 r2 p2 l2 b2))
  refine (reads_any w2 [90, 82, 65, 78, 71, 69] 4 5).mono ?_
  rintro e v0 ⟨rfl, c0⟩
  have r2 := r2.later c0
  have BB := (b2).trans (c0.mono (b2).size)
  go_wp2_with (first
    | ((with_reducible refine wl_store_row rfl 26 (.tmp 2) (.tmp 147) g2 26 _ (Sp.cells (rdS [90, 82, 65, 78, 71, 69] 4 5)) rfl rfl rfl r2 (szSp _ _ _ _ _ _ _ _ _) rfl (one9 _ _ _ _ _ _ _ _ _) ?_); intro w4 r4 o4))
  refine bodyPost_ret (v := Sp.val (rdS [90, 82, 65, 78, 71, 69] 4 5)) ?_ rfl ⟨rfl, BB.trans (o4.below p2)⟩
  exact results_cell_row Tryd.results27 _ _ g2 26 _ (0, 0) _ rfl r4 Tryd.underlying26 rfl (szSp _ _ _ _ _ _ _ _ _)
set_option maxRecDepth 100000 in
set_option maxHeartbeats 2000000 in
theorem sp_HSET (w : World) : Calls Tryd.prog 27 #[encStr [72, 83, 69, 84]] w fun e w' => e = .returned (Sp.val ({ (wrS [72, 83, 69, 84] 4 40) with ev := true } : Sp)) ∧ Below w.heap.size w w' := by
  go_enter Tryd.func27, Tryd.ntmps27
  go_wp2_with (first
    | ((with_reducible refine wl_alloc (o := ⟨some 2, _, _, _, _, _⟩) rfl 26 _ [.int .i64 0, .int .i64 0, .int .i64 0, encStr [], .int .i64 0, .int .i64 0, .bool false, .bool false, .bool false] rfl rfl rfl ?_); intro g2 w2 r2 p2 l2 b2))
  refine (writes_any w2 [72, 83, 69, 84] 4 40).mono ?_
  rintro e v0 ⟨rfl, c0⟩
  have r2 := r2.later c0
  go_wp2_with fail
  refine (even_any v0 (wrS [72, 83, 69, 84] 4 40)).mono ?_
  rintro e v1 ⟨rfl, c1⟩
  have r2 := r2.later c1
  have BB := ((b2).trans (c0.mono (b2).size)).trans (c1.mono ((b2).trans (c0.mono (b2).size)).size)
  go_wp2_with (first
    | ((with_reducible refine wl_store_row rfl 26 (.tmp 2) (.tmp 153) g2 26 _ (Sp.cells ({ (wrS [72, 83, 69, 84] 4 40) with ev := true } : Sp)) rfl rfl rfl r2 (szSp _ _ _ _ _ _ _ _ _) rfl (one9 _ _ _ _ _ _ _ _ _) ?_); intro w4 r4 o4))
  refine bodyPost_ret (v := Sp.val ({ (wrS [72, 83, 69, 84] 4 40) with ev := true } : Sp)) ?_ rfl ⟨rfl, BB.trans (o4.below p2)⟩
  exact results_cell_row Tryd.results27 _ _ g2 26 _ (0, 0) _ rfl r4 Tryd.underlying26 rfl (szSp _ _ _ _ _ _ _ _ _)
set_option maxRecDepth 100000 in
set_option maxHeartbeats 2000000 in
theorem sp_ZADD (w : World) : Calls Tryd.prog 27 #[encStr [90, 65, 68, 68]] w fun e w' => e = .returned (Sp.val ({ (wrS [90, 65, 68, 68] 4 40) with ev := true } : Sp)) ∧ Below w.heap.size w w' := by
  go_enter Tryd.func27, Tryd.ntmps27
  go_wp2_with (first
    | ((with_reducible refine wl_alloc (o := ⟨some 2, _, _, _, _, _⟩) rfl 26 _ [.int .i64 0, .int .i64 0, .int .i64 0, encStr [], .int .i64 0, .int .i64 0, .bool false, .bool false, .bool false] rfl rfl rfl ?_); intro g2 w2 r2 p2 l2 b2))
  refine (writes_any w2 [90, 65, 68, 68] 4 40).mono ?_
  rintro e v0 ⟨rfl, c0⟩
  have r2 := r2.later c0
  go_wp2_with fail
  refine (even_any v0 (wrS [90, 65, 68, 68] 4 40)).mono ?_
  rintro e v1 ⟨rfl, c1⟩
  have r2 := r2.later c1
  have BB := ((b2).trans (c0.mono (b2).size)).trans (c1.mono ((b2).trans (c0.mono (b2).size)).size)
  go_wp2_with (first
    | ((with_reducible refine wl_store_row rfl 26 (.tmp 2) (.tmp 153) g2 26 _ (Sp.cells ({ (wrS [90, 65, 68, 68] 4 40) with ev := true } : Sp)) rfl rfl rfl r2 (szSp _ _ _ _ _ _ _ _ _) rfl (one9 _ _ _ _ _ _ _ _ _) ?_); intro w4 r4 o4))
  refine bodyPost_ret (v := Sp.val ({ (wrS [90, 65, 68, 68] 4 40) with ev := true } : Sp)) ?_ rfl ⟨rfl, BB.trans (o4.below p2)⟩
  exact results_cell_row Tryd.results27 _ _ g2 26 _ (0, 0) _ rfl r4 Tryd.underlying26 rfl (szSp _ _ _ _ _ _ _ _ _)
end Go.Proofs.YtolmomnocfkhoaaDoor

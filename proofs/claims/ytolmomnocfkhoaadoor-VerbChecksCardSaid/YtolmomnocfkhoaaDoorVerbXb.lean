/-
  Commands: the specs of names, part 2. Contracts. Own work.
-/
import Derived.Test.YtolmomnocfkhoaaDoorVerbL
namespace Go.Proofs.YtolmomnocfkhoaaDoor
open Go.RowKit
set_option linter.unusedVariables false
set_option linter.unusedSimpArgs false
set_option maxRecDepth 100000 in
set_option maxHeartbeats 2000000 in
theorem sp_PTTL (w : World) : Calls Tryd.prog 27 #[encStr [80, 84, 84, 76]] w fun e w' => e = .returned (Sp.val (rdS [80, 84, 84, 76] 2 2)) ∧ Below w.heap.size w w' := by
  go_enter Tryd.func27, Tryd.ntmps27
  go_wp2_with (first
    | ((with_reducible refine wl_alloc (o := ⟨some 2, _, _, _, _, _⟩) rfl 26 _ [.int .i64 0, .int .i64 0, .int .i64 0, encStr [], .int .i64 0, .int .i64 0, .bool false, .bool false, .bool false] rfl rfl rfl ?_); intro g2 w2 r2 p2 l2 b2))
  refine (reads_any w2 [80, 84, 84, 76] 2 2).mono ?_
  rintro e v0 ⟨rfl, c0⟩
  have r2 := r2.later c0
  have BB := (b2).trans (c0.mono (b2).size)
  go_wp2_with (first
    | ((with_reducible refine wl_store_row rfl 26 (.tmp 2) (.tmp 60) g2 26 _ (Sp.cells (rdS [80, 84, 84, 76] 2 2)) rfl rfl rfl r2 (szSp _ _ _ _ _ _ _ _ _) rfl (one9 _ _ _ _ _ _ _ _ _) ?_); intro w4 r4 o4))
  refine bodyPost_ret (v := Sp.val (rdS [80, 84, 84, 76] 2 2)) ?_ rfl ⟨rfl, BB.trans (o4.below p2)⟩
  exact results_cell_row Tryd.results27 _ _ g2 26 _ (0, 0) _ rfl r4 Tryd.underlying26 rfl (szSp _ _ _ _ _ _ _ _ _)
set_option maxRecDepth 100000 in
set_option maxHeartbeats 2000000 in
theorem sp_HLEN (w : World) : Calls Tryd.prog 27 #[encStr [72, 76, 69, 78]] w fun e w' => e = .returned (Sp.val (rdS [72, 76, 69, 78] 2 2)) ∧ Below w.heap.size w w' := by
  go_enter Tryd.func27, Tryd.ntmps27
  go_wp2_with (first
    | ((with_reducible refine wl_alloc (o := ⟨some 2, _, _, _, _, _⟩) rfl 26 _ [.int .i64 0, .int .i64 0, .int .i64 0, encStr [], .int .i64 0, .int .i64 0, .bool false, .bool false, .bool false] rfl rfl rfl ?_); intro g2 w2 r2 p2 l2 b2))
  refine (reads_any w2 [72, 76, 69, 78] 2 2).mono ?_
  rintro e v0 ⟨rfl, c0⟩
  have r2 := r2.later c0
  have BB := (b2).trans (c0.mono (b2).size)
  go_wp2_with (first
    | ((with_reducible refine wl_store_row rfl 26 (.tmp 2) (.tmp 60) g2 26 _ (Sp.cells (rdS [72, 76, 69, 78] 2 2)) rfl rfl rfl r2 (szSp _ _ _ _ _ _ _ _ _) rfl (one9 _ _ _ _ _ _ _ _ _) ?_); intro w4 r4 o4))
  refine bodyPost_ret (v := Sp.val (rdS [72, 76, 69, 78] 2 2)) ?_ rfl ⟨rfl, BB.trans (o4.below p2)⟩
  exact results_cell_row Tryd.results27 _ _ g2 26 _ (0, 0) _ rfl r4 Tryd.underlying26 rfl (szSp _ _ _ _ _ _ _ _ _)
set_option maxRecDepth 100000 in
set_option maxHeartbeats 2000000 in
theorem sp_HGETALL (w : World) : Calls Tryd.prog 27 #[encStr [72, 71, 69, 84, 65, 76, 76]] w fun e w' => e = .returned (Sp.val (rdS [72, 71, 69, 84, 65, 76, 76] 2 2)) ∧ Below w.heap.size w w' := by
  go_enter Tryd.func27, Tryd.ntmps27
  go_wp2_with (first
    | ((with_reducible refine wl_alloc (o := ⟨some 2, _, _, _, _, _⟩) rfl 26 _ [.int .i64 0, .int .i64 0, .int .i64 0, encStr [], .int .i64 0, .int .i64 0, .bool false, .bool false, .bool false] rfl rfl rfl ?_); intro g2 w2 r2 p2 l2 b2))
  refine (reads_any w2 [72, 71, 69, 84, 65, 76, 76] 2 2).mono ?_
  rintro e v0 ⟨rfl, c0⟩
  have r2 := r2.later c0
  have BB := (b2).trans (c0.mono (b2).size)
  go_wp2_with (first
    | ((with_reducible refine wl_store_row rfl 26 (.tmp 2) (.tmp 60) g2 26 _ (Sp.cells (rdS [72, 71, 69, 84, 65, 76, 76] 2 2)) rfl rfl rfl r2 (szSp _ _ _ _ _ _ _ _ _) rfl (one9 _ _ _ _ _ _ _ _ _) ?_); intro w4 r4 o4))
  refine bodyPost_ret (v := Sp.val (rdS [72, 71, 69, 84, 65, 76, 76] 2 2)) ?_ rfl ⟨rfl, BB.trans (o4.below p2)⟩
  exact results_cell_row Tryd.results27 _ _ g2 26 _ (0, 0) _ rfl r4 Tryd.underlying26 rfl (szSp _ _ _ _ _ _ _ _ _)
set_option maxRecDepth 100000 in
set_option maxHeartbeats 2000000 in
theorem sp_HKEYS (w : World) : Calls Tryd.prog 27 #[encStr [72, 75, 69, 89, 83]] w fun e w' => e = .returned (Sp.val (rdS [72, 75, 69, 89, 83] 2 2)) ∧ Below w.heap.size w w' := by
  go_enter Tryd.func27, Tryd.ntmps27
  go_wp2_with (first
    | ((with_reducible refine wl_alloc (o := ⟨some 2, _, _, _, _, _⟩) rfl 26 _ [.int .i64 0, .int .i64 0, .int .i64 0, encStr [], .int .i64 0, .int .i64 0, .bool false, .bool false, .bool false] rfl rfl rfl ?_); intro g2 w2 r2 p2 l2 b2))
  refine (reads_any w2 [72, 75, 69, 89, 83] 2 2).mono ?_
  rintro e v0 ⟨rfl, c0⟩
  have r2 := r2.later c0
  have BB := (b2).trans (c0.mono (b2).size)
  go_wp2_with (first
    | ((with_reducible refine wl_store_row rfl 26 (.tmp 2) (.tmp 60) g2 26 _ (Sp.cells (rdS [72, 75, 69, 89, 83] 2 2)) rfl rfl rfl r2 (szSp _ _ _ _ _ _ _ _ _) rfl (one9 _ _ _ _ _ _ _ _ _) ?_); intro w4 r4 o4))
  refine bodyPost_ret (v := Sp.val (rdS [72, 75, 69, 89, 83] 2 2)) ?_ rfl ⟨rfl, BB.trans (o4.below p2)⟩
  exact results_cell_row Tryd.results27 _ _ g2 26 _ (0, 0) _ rfl r4 Tryd.underlying26 rfl (szSp _ _ _ _ _ _ _ _ _)
set_option maxRecDepth 100000 in
set_option maxHeartbeats 2000000 in
theorem sp_HVALS (w : World) : Calls Tryd.prog 27 #[encStr [72, 86, 65, 76, 83]] w fun e w' => e = .returned (Sp.val (rdS [72, 86, 65, 76, 83] 2 2)) ∧ Below w.heap.size w w' := by
  go_enter Tryd.func27, Tryd.ntmps27
  go_wp2_with (first
    | ((with_reducible refine wl_alloc (o := ⟨some 2, _, _, _, _, _⟩) rfl 26 _ [.int .i64 0, .int .i64 0, .int .i64 0, encStr [], .int .i64 0, .int .i64 0, .bool false, .bool false, .bool false] rfl rfl rfl ?_); intro g2 w2 r2 p2 l2 b2))
  refine (reads_any w2 [72, 86, 65, 76, 83] 2 2).mono ?_
  rintro e v0 ⟨rfl, c0⟩
  have r2 := r2.later c0
  have BB := (b2).trans (c0.mono (b2).size)
  go_wp2_with (first
    | ((with_reducible refine wl_store_row rfl 26 (.tmp 2) (.tmp 60) g2 26 _ (Sp.cells (rdS [72, 86, 65, 76, 83] 2 2)) rfl rfl rfl r2 (szSp _ _ _ _ _ _ _ _ _) rfl (one9 _ _ _ _ _ _ _ _ _) ?_); intro w4 r4 o4))
  refine bodyPost_ret (v := Sp.val (rdS [72, 86, 65, 76, 83] 2 2)) ?_ rfl ⟨rfl, BB.trans (o4.below p2)⟩
  exact results_cell_row Tryd.results27 _ _ g2 26 _ (0, 0) _ rfl r4 Tryd.underlying26 rfl (szSp _ _ _ _ _ _ _ _ _)
set_option maxRecDepth 100000 in
set_option maxHeartbeats 2000000 in
theorem sp_LLEN (w : World) : Calls Tryd.prog 27 #[encStr [76, 76, 69, 78]] w fun e w' => e = .returned (Sp.val (rdS [76, 76, 69, 78] 2 2)) ∧ Below w.heap.size w w' := by
  go_enter Tryd.func27, Tryd.ntmps27
  go_wp2_with (first
    | ((with_reducible refine wl_alloc (o := ⟨some 2, _, _, _, _, _⟩) rfl 26 _ [.int .i64 0, .int .i64 0, .int .i64 0, encStr [], .int .i64 0, .int .i64 0, .bool false, .bool false, .bool false] rfl rfl rfl ?_); intro g2 w2 r2 p2 l2 b2))
  refine (reads_any w2 [76, 76, 69, 78] 2 2).mono ?_
  rintro e v0 ⟨rfl, c0⟩
  have r2 := r2.later c0
  have BB := (b2).trans (c0.mono (b2).size)
  go_wp2_with (first
    | ((with_reducible refine wl_store_row rfl 26 (.tmp 2) (.tmp 60) g2 26 _ (Sp.cells (rdS [76, 76, 69, 78] 2 2)) rfl rfl rfl r2 (szSp _ _ _ _ _ _ _ _ _) rfl (one9 _ _ _ _ _ _ _ _ _) ?_); intro w4 r4 o4))
  refine bodyPost_ret (v := Sp.val (rdS [76, 76, 69, 78] 2 2)) ?_ rfl ⟨rfl, BB.trans (o4.below p2)⟩
  exact results_cell_row Tryd.results27 _ _ g2 26 _ (0, 0) _ rfl r4 Tryd.underlying26 rfl (szSp _ _ _ _ _ _ _ _ _)
set_option maxRecDepth 100000 in
set_option maxHeartbeats 2000000 in
theorem sp_SCARD (w : World) : Calls Tryd.prog 27 #[encStr [83, 67, 65, 82, 68]] w fun e w' => e = .returned (Sp.val (rdS [83, 67, 65, 82, 68] 2 2)) ∧ Below w.heap.size w w' := by
  go_enter Tryd.func27, Tryd.ntmps27
  go_wp2_with (first
    | ((with_reducible refine wl_alloc (o := ⟨some 2, _, _, _, _, _⟩) rfl 26 _ [.int .i64 0, .int .i64 0, .int .i64 0, encStr [], .int .i64 0, .int .i64 0, .bool false, .bool false, .bool false] rfl rfl rfl ?_); intro g2 w2 r2 p2 l2 b2))
  refine (reads_any w2 [83, 67, 65, 82, 68] 2 2).mono ?_
  rintro e v0 ⟨rfl, c0⟩
  have r2 := r2.later c0
  have BB := (b2).trans (c0.mono (b2).size)
  go_wp2_with (first
    | ((with_reducible refine wl_store_row rfl 26 (.tmp 2) (.tmp 60) g2 26 _ (Sp.cells (rdS [83, 67, 65, 82, 68] 2 2)) rfl rfl rfl r2 (szSp _ _ _ _ _ _ _ _ _) rfl (one9 _ _ _ _ _ _ _ _ _) ?_); intro w4 r4 o4))
  refine bodyPost_ret (v := Sp.val (rdS [83, 67, 65, 82, 68] 2 2)) ?_ rfl ⟨rfl, BB.trans (o4.below p2)⟩
  exact results_cell_row Tryd.results27 _ _ g2 26 _ (0, 0) _ rfl r4 Tryd.underlying26 rfl (szSp _ _ _ _ _ _ _ _ _)
set_option maxRecDepth 100000 in
set_option maxHeartbeats 2000000 in
theorem sp_SMEMBERS (w : World) : Calls Tryd.prog 27 #[encStr [83, 77, 69, 77, 66, 69, 82, 83]] w fun e w' => e = .returned (Sp.val (rdS [83, 77, 69, 77, 66, 69, 82, 83] 2 2)) ∧ Below w.heap.size w w' := by
  go_enter Tryd.func27, Tryd.ntmps27
  go_wp2_with (first
    | ((with_reducible refine wl_alloc (o := ⟨some 2, _, _, _, _, _⟩) rfl 26 _ [.int .i64 0, .int .i64 0, .int .i64 0, encStr [], .int .i64 0, .int .i64 0, .bool false, .bool false, .bool false] rfl rfl rfl ?_); intro g2 w2 r2 p2 l2 b2))
  refine (reads_any w2 [83, 77, 69, 77, 66, 69, 82, 83] 2 2).mono ?_
  rintro e v0 ⟨rfl, c0⟩
  have r2 := r2.later c0
  have BB := (b2).trans (c0.mono (b2).size)
  go_wp2_with (first
    | ((with_reducible refine wl_store_row rfl 26 (.tmp 2) (.tmp 60) g2 26 _ (Sp.cells (rdS [83, 77, 69, 77, 66, 69, 82, 83] 2 2)) rfl rfl rfl r2 (szSp _ _ _ _ _ _ _ _ _) rfl (one9 _ _ _ _ _ _ _ _ _) ?_); intro w4 r4 o4))
  refine bodyPost_ret (v := Sp.val (rdS [83, 77, 69, 77, 66, 69, 82, 83] 2 2)) ?_ rfl ⟨rfl, BB.trans (o4.below p2)⟩
  exact results_cell_row Tryd.results27 _ _ g2 26 _ (0, 0) _ rfl r4 Tryd.underlying26 rfl (szSp _ _ _ _ _ _ _ _ _)
set_option maxRecDepth 100000 in
set_option maxHeartbeats 2000000 in
theorem sp_SRANDMEMBER (w : World) : Calls Tryd.prog 27 #[encStr [83, 82, 65, 78, 68, 77, 69, 77, 66, 69, 82]] w fun e w' => e = .returned (Sp.val (rdS [83, 82, 65, 78, 68, 77, 69, 77, 66, 69, 82] 2 2)) ∧ Below w.heap.size w w' := by
  go_enter Tryd.func27, Tryd.ntmps27
  go_wp2_with (first
    | ((with_reducible refine wl_alloc (o := ⟨some 2, _, _, _, _, _⟩) rfl 26 _ [.int .i64 0, .int .i64 0, .int .i64 0, encStr [], .int .i64 0, .int .i64 0, .bool false, .bool false, .bool false] rfl rfl rfl ?_); intro g2 w2 r2 p2 l2 b2))
  refine (reads_any w2 [83, 82, 65, 78, 68, 77, 69, 77, 66, 69, 82] 2 2).mono ?_
  rintro e v0 ⟨rfl, c0⟩
  have r2 := r2.later c0
  have BB := (b2).trans (c0.mono (b2).size)
  go_wp2_with (first
    | ((with_reducible refine wl_store_row rfl 26 (.tmp 2) (.tmp 60) g2 26 _ (Sp.cells (rdS [83, 82, 65, 78, 68, 77, 69, 77, 66, 69, 82] 2 2)) rfl rfl rfl r2 (szSp _ _ _ _ _ _ _ _ _) rfl (one9 _ _ _ _ _ _ _ _ _) ?_); intro w4 r4 o4))
  refine bodyPost_ret (v := Sp.val (rdS [83, 82, 65, 78, 68, 77, 69, 77, 66, 69, 82] 2 2)) ?_ rfl ⟨rfl, BB.trans (o4.below p2)⟩
  exact results_cell_row Tryd.results27 _ _ g2 26 _ (0, 0) _ rfl r4 Tryd.underlying26 rfl (szSp _ _ _ _ _ _ _ _ _)
set_option maxRecDepth 100000 in
set_option maxHeartbeats 2000000 in
theorem sp_ZCARD (w : World) : Calls Tryd.prog 27 #[encStr [90, 67, 65, 82, 68]] w fun e w' => e = .returned (Sp.val (rdS [90, 67, 65, 82, 68] 2 2)) ∧ Below w.heap.size w w' := by
  go_enter Tryd.func27, Tryd.ntmps27
  go_wp2_with (first
    | ((with_reducible refine wl_alloc (o := ⟨some 2, _, _, _, _, _⟩) rfl 26 _ [.int .i64 0, .int .i64 0, .int .i64 0, encStr [], .int .i64 0, .int .i64 0, .bool false, .bool false, .bool false] rfl rfl rfl ?_); intro g2 w2 r2 p2 l2 b2))
  refine (reads_any w2 [90, 67, 65, 82, 68] 2 2).mono ?_
  rintro e v0 ⟨rfl, c0⟩
  have r2 := r2.later c0
  have BB := (b2).trans (c0.mono (b2).size)
  go_wp2_with (first
    | ((with_reducible refine wl_store_row rfl 26 (.tmp 2) (.tmp 60) g2 26 _ (Sp.cells (rdS [90, 67, 65, 82, 68] 2 2)) rfl rfl rfl r2 (szSp _ _ _ _ _ _ _ _ _) rfl (one9 _ _ _ _ _ _ _ _ _) ?_); intro w4 r4 o4))
  refine bodyPost_ret (v := Sp.val (rdS [90, 67, 65, 82, 68] 2 2)) ?_ rfl ⟨rfl, BB.trans (o4.below p2)⟩
  exact results_cell_row Tryd.results27 _ _ g2 26 _ (0, 0) _ rfl r4 Tryd.underlying26 rfl (szSp _ _ _ _ _ _ _ _ _)
set_option maxRecDepth 100000 in
set_option maxHeartbeats 2000000 in
theorem sp_INCR (w : World) : Calls Tryd.prog 27 #[encStr [73, 78, 67, 82]] w fun e w' => e = .returned (Sp.val (wrS [73, 78, 67, 82] 2 2)) ∧ Below w.heap.size w w' := by
  go_enter Tryd.func27, Tryd.ntmps27
  go_wp2_with (first
    | ((with_reducible refine wl_alloc (o := ⟨some 2, _, _, _, _, _⟩) rfl 26 _ [.int .i64 0, .int .i64 0, .int .i64 0, encStr [], .int .i64 0, .int .i64 0, .bool false, .bool false, .bool false] rfl rfl rfl ?_); intro g2 w2 r2 p2 l2 b2))
  refine (writes_any w2 [73, 78, 67, 82] 2 2).mono ?_
  rintro e v0 ⟨rfl, c0⟩
  have r2 := r2.later c0
  have BB := (b2).trans (c0.mono (b2).size)
  go_wp2_with (first
    | ((with_reducible refine wl_store_row rfl 26 (.tmp 2) (.tmp 69) g2 26 _ (Sp.cells (wrS [73, 78, 67, 82] 2 2)) rfl rfl rfl r2 (szSp _ _ _ _ _ _ _ _ _) rfl (one9 _ _ _ _ _ _ _ _ _) ?_); intro w4 r4 o4))
  refine bodyPost_ret (v := Sp.val (wrS [73, 78, 67, 82] 2 2)) ?_ rfl ⟨rfl, BB.trans (o4.below p2)⟩
  exact results_cell_row Tryd.results27 _ _ g2 26 _ (0, 0) _ rfl r4 Tryd.underlying26 rfl (szSp _ _ _ _ _ _ _ _ _)
set_option maxRecDepth 100000 in
set_option maxHeartbeats 2000000 in
theorem sp_DECR (w : World) : Calls Tryd.prog 27 #[encStr [68, 69, 67, 82]] w fun e w' => e = .returned (Sp.val (wrS [68, 69, 67, 82] 2 2)) ∧ Below w.heap.size w w' := by
  go_enter Tryd.func27, Tryd.ntmps27
  go_wp2_with (first
    | ((with_reducible refine wl_alloc (o := ⟨some 2, _, _, _, _, _⟩) rfl 26 _ [.int .i64 0, .int .i64 0, .int .i64 0, encStr [], .int .i64 0, .int .i64 0, .bool false, .bool false, .bool false] rfl rfl rfl ?_); intro g2 w2 r2 p2 l2 b2))
  refine (writes_any w2 [68, 69, 67, 82] 2 2).mono ?_
  rintro e v0 ⟨rfl, c0⟩
  have r2 := r2.later c0
  have BB := (b2).trans (c0.mono (b2).size)
  go_wp2_with (first
    | ((with_reducible refine wl_store_row rfl 26 (.tmp 2) (.tmp 69) g2 26 _ (Sp.cells (wrS [68, 69, 67, 82] 2 2)) rfl rfl rfl r2 (szSp _ _ _ _ _ _ _ _ _) rfl (one9 _ _ _ _ _ _ _ _ _) ?_); intro w4 r4 o4))
  refine bodyPost_ret (v := Sp.val (wrS [68, 69, 67, 82] 2 2)) ?_ rfl ⟨rfl, BB.trans (o4.below p2)⟩
  exact results_cell_row Tryd.results27 _ _ g2 26 _ (0, 0) _ rfl r4 Tryd.underlying26 rfl (szSp _ _ _ _ _ _ _ _ _)
set_option maxRecDepth 100000 in
set_option maxHeartbeats 2000000 in
theorem sp_PERSIST (w : World) : Calls Tryd.prog 27 #[encStr [80, 69, 82, 83, 73, 83, 84]] w fun e w' => e = .returned (Sp.val (wrS [80, 69, 82, 83, 73, 83, 84] 2 2)) ∧ Below w.heap.size w w' := by
  go_enter Tryd.func27, Tryd.ntmps27
  go_wp2_with (first
    | ((with_reducible refine wl_alloc (o := ⟨some 2, _, _, _, _, _⟩) rfl 26 _ [.int .i64 0, .int .i64 0, .int .i64 0, encStr [], .int .i64 0, .int .i64 0, .bool false, .bool false, .bool false] rfl rfl rfl ?_); intro g2 w2 r2 p2 l2 b2))
  refine (writes_any w2 [80, 69, 82, 83, 73, 83, 84] 2 2).mono ?_
  rintro e v0 ⟨rfl, c0⟩
  have r2 := r2.later c0
  have BB := (b2).trans (c0.mono (b2).size)
  go_wp2_with (first
    | ((with_reducible refine wl_store_row rfl 26 (.tmp 2) (.tmp 69) g2 26 _ (Sp.cells (wrS [80, 69, 82, 83, 73, 83, 84] 2 2)) rfl rfl rfl r2 (szSp _ _ _ _ _ _ _ _ _) rfl (one9 _ _ _ _ _ _ _ _ _) ?_); intro w4 r4 o4))
  refine bodyPost_ret (v := Sp.val (wrS [80, 69, 82, 83, 73, 83, 84] 2 2)) ?_ rfl ⟨rfl, BB.trans (o4.below p2)⟩
  exact results_cell_row Tryd.results27 _ _ g2 26 _ (0, 0) _ rfl r4 Tryd.underlying26 rfl (szSp _ _ _ _ _ _ _ _ _)
set_option maxRecDepth 100000 in
set_option maxHeartbeats 2000000 in
theorem sp_LPOP (w : World) : Calls Tryd.prog 27 #[encStr [76, 80, 79, 80]] w fun e w' => e = .returned (Sp.val (wrS [76, 80, 79, 80] 2 2)) ∧ Below w.heap.size w w' := by
  go_enter Tryd.func27, Tryd.ntmps27
  go_wp2_with (first
    | ((with_reducible refine wl_alloc (o := ⟨some 2, _, _, _, _, _⟩) rfl 26 _ [.int .i64 0, .int .i64 0, .int .i64 0, encStr [], .int .i64 0, .int .i64 0, .bool false, .bool false, .bool false] rfl rfl rfl ?_); intro g2 w2 r2 p2 l2 b2))
  refine (writes_any w2 [76, 80, 79, 80] 2 2).mono ?_
  rintro e v0 ⟨rfl, c0⟩
  have r2 := r2.later c0
  have BB := (b2).trans (c0.mono (b2).size)
  go_wp2_with (first
    | ((with_reducible refine wl_store_row rfl 26 (.tmp 2) (.tmp 69) g2 26 _ (Sp.cells (wrS [76, 80, 79, 80] 2 2)) rfl rfl rfl r2 (szSp _ _ _ _ _ _ _ _ _) rfl (one9 _ _ _ _ _ _ _ _ _) ?_); intro w4 r4 o4))
  refine bodyPost_ret (v := Sp.val (wrS [76, 80, 79, 80] 2 2)) ?_ rfl ⟨rfl, BB.trans (o4.below p2)⟩
  exact results_cell_row Tryd.results27 _ _ g2 26 _ (0, 0) _ rfl r4 Tryd.underlying26 rfl (szSp _ _ _ _ _ _ _ _ _)
set_option maxRecDepth 100000 in
set_option maxHeartbeats 2000000 in
theorem sp_RPOP (w : World) : Calls Tryd.prog 27 #[encStr [82, 80, 79, 80]] w fun e w' => e = .returned (Sp.val (wrS [82, 80, 79, 80] 2 2)) ∧ Below w.heap.size w w' := by
  go_enter Tryd.func27, Tryd.ntmps27
  go_wp2_with (first
    | ((with_reducible refine wl_alloc (o := ⟨some 2, _, _, _, _, _⟩) rfl 26 _ [.int .i64 0, .int .i64 0, .int .i64 0, encStr [], .int .i64 0, .int .i64 0, .bool false, .bool false, .bool false] rfl rfl rfl ?_); intro g2 w2 r2 p2 l2 b2))
  refine (writes_any w2 [82, 80, 79, 80] 2 2).mono ?_
  rintro e v0 ⟨rfl, c0⟩
  have r2 := r2.later c0
  have BB := (b2).trans (c0.mono (b2).size)
  go_wp2_with (first
    | ((with_reducible refine wl_store_row rfl 26 (.tmp 2) (.tmp 69) g2 26 _ (Sp.cells (wrS [82, 80, 79, 80] 2 2)) rfl rfl rfl r2 (szSp _ _ _ _ _ _ _ _ _) rfl (one9 _ _ _ _ _ _ _ _ _) ?_); intro w4 r4 o4))
  refine bodyPost_ret (v := Sp.val (wrS [82, 80, 79, 80] 2 2)) ?_ rfl ⟨rfl, BB.trans (o4.below p2)⟩
  exact results_cell_row Tryd.results27 _ _ g2 26 _ (0, 0) _ rfl r4 Tryd.underlying26 rfl (szSp _ _ _ _ _ _ _ _ _)
set_option maxRecDepth 100000 in
set_option maxHeartbeats 2000000 in
theorem sp_SPOP (w : World) : Calls Tryd.prog 27 #[encStr [83, 80, 79, 80]] w fun e w' => e = .returned (Sp.val (wrS [83, 80, 79, 80] 2 2)) ∧ Below w.heap.size w w' := by
  go_enter Tryd.func27, Tryd.ntmps27
  go_wp2_with (first
    | ((with_reducible refine wl_alloc (o := ⟨some 2, _, _, _, _, _⟩) rfl 26 _ [.int .i64 0, .int .i64 0, .int .i64 0, encStr [], .int .i64 0, .int .i64 0, .bool false, .bool false, .bool false] rfl rfl rfl ?_); intro g2 w2 r2 p2 l2 b2))
  refine (writes_any w2 [83, 80, 79, 80] 2 2).mono ?_
  rintro e v0 ⟨rfl, c0⟩
  have r2 := r2.later c0
  have BB := (b2).trans (c0.mono (b2).size)
  go_wp2_with (first
    | ((with_reducible refine wl_store_row rfl 26 (.tmp 2) (.tmp 69) g2 26 _ (Sp.cells (wrS [83, 80, 79, 80] 2 2)) rfl rfl rfl r2 (szSp _ _ _ _ _ _ _ _ _) rfl (one9 _ _ _ _ _ _ _ _ _) ?_); intro w4 r4 o4))
  refine bodyPost_ret (v := Sp.val (wrS [83, 80, 79, 80] 2 2)) ?_ rfl ⟨rfl, BB.trans (o4.below p2)⟩
  exact results_cell_row Tryd.results27 _ _ g2 26 _ (0, 0) _ rfl r4 Tryd.underlying26 rfl (szSp _ _ _ _ _ _ _ _ _)
set_option maxRecDepth 100000 in
set_option maxHeartbeats 2000000 in
theorem sp_SET (w : World) : Calls Tryd.prog 27 #[encStr [83, 69, 84]] w fun e w' => e = .returned (Sp.val (wrS [83, 69, 84] 3 7)) ∧ Below w.heap.size w w' := by
  go_enter Tryd.func27, Tryd.ntmps27
  go_wp2_with (first
    | ((with_reducible refine wl_alloc (o := ⟨some 2, _, _, _, _, _⟩) rfl 26 _ [.int .i64 0, .int .i64 0, .int .i64 0, encStr [], .int .i64 0, .int .i64 0, .bool false, .bool false, .bool false] rfl rfl rfl ?_); intro g2 w2 r2 p2 l2 b2))
  refine (writes_any w2 [83, 69, 84] 3 7).mono ?_
  rintro e v0 ⟨rfl, c0⟩
  have r2 := r2.later c0
  have BB := (b2).trans (c0.mono (b2).size)
  go_wp2_with (first
    | ((with_reducible refine wl_store_row rfl 26 (.tmp 2) (.tmp 73) g2 26 _ (Sp.cells (wrS [83, 69, 84] 3 7)) rfl rfl rfl r2 (szSp _ _ _ _ _ _ _ _ _) rfl (one9 _ _ _ _ _ _ _ _ _) ?_); intro w4 r4 o4))
  refine bodyPost_ret (v := Sp.val (wrS [83, 69, 84] 3 7)) ?_ rfl ⟨rfl, BB.trans (o4.below p2)⟩
  exact results_cell_row Tryd.results27 _ _ g2 26 _ (0, 0) _ rfl r4 Tryd.underlying26 rfl (szSp _ _ _ _ _ _ _ _ _)
set_option maxRecDepth 100000 in
set_option maxHeartbeats 2000000 in
theorem sp_GETSET (w : World) : Calls Tryd.prog 27 #[encStr [71, 69, 84, 83, 69, 84]] w fun e w' => e = .returned (Sp.val (wrS [71, 69, 84, 83, 69, 84] 3 3)) ∧ Below w.heap.size w w' := by
  go_enter Tryd.func27, Tryd.ntmps27
  go_wp2_with (first
    | ((with_reducible refine wl_alloc (o := ⟨some 2, _, _, _, _, _⟩) rfl 26 _ [.int .i64 0, .int .i64 0, .int .i64 0, encStr [], .int .i64 0, .int .i64 0, .bool false, .bool false, .bool false] rfl rfl rfl ?_); intro g2 w2 r2 p2 l2 b2))
  refine (writes_any w2 [71, 69, 84, 83, 69, 84] 3 3).mono ?_
  rintro e v0 ⟨rfl, c0⟩
  have r2 := r2.later c0
  have BB := (b2).trans (c0.mono (b2).size)
  go_wp2_with (first
    | ((with_reducible refine wl_store_row rfl 26 (.tmp 2) (.tmp 84) g2 26 _ (Sp.cells (wrS [71, 69, 84, 83, 69, 84] 3 3)) rfl rfl rfl r2 (szSp _ _ _ _ _ _ _ _ _) rfl (one9 _ _ _ _ _ _ _ _ _) ?_); intro w4 r4 o4))
  refine bodyPost_ret (v := Sp.val (wrS [71, 69, 84, 83, 69, 84] 3 3)) ?_ rfl ⟨rfl, BB.trans (o4.below p2)⟩
  exact results_cell_row Tryd.results27 _ _ g2 26 _ (0, 0) _ rfl r4 Tryd.underlying26 rfl (szSp _ _ _ _ _ _ _ _ _)
set_option maxRecDepth 100000 in
set_option maxHeartbeats 2000000 in
theorem sp_SETNX (w : World) : Calls Tryd.prog 27 #[encStr [83, 69, 84, 78, 88]] w fun e w' => e = .returned (Sp.val (wrS [83, 69, 84, 78, 88] 3 3)) ∧ Below w.heap.size w w' := by
  go_enter Tryd.func27, Tryd.ntmps27
  go_wp2_with (first
    | ((with_reducible refine wl_alloc (o := ⟨some 2, _, _, _, _, _⟩) rfl 26 _ [.int .i64 0, .int .i64 0, .int .i64 0, encStr [], .int .i64 0, .int .i64 0, .bool false, .bool false, .bool false] rfl rfl rfl ?_); intro g2 w2 r2 p2 l2 b2))
  refine (writes_any w2 [83, 69, 84, 78, 88] 3 3).mono ?_
  rintro e v0 ⟨rfl, c0⟩
  have r2 := r2.later c0
  have BB := (b2).trans (c0.mono (b2).size)
  go_wp2_with (first
    | ((with_reducible refine wl_store_row rfl 26 (.tmp 2) (.tmp 84) g2 26 _ (Sp.cells (wrS [83, 69, 84, 78, 88] 3 3)) rfl rfl rfl r2 (szSp _ _ _ _ _ _ _ _ _) rfl (one9 _ _ _ _ _ _ _ _ _) ?_); intro w4 r4 o4))
  refine bodyPost_ret (v := Sp.val (wrS [83, 69, 84, 78, 88] 3 3)) ?_ rfl ⟨rfl, BB.trans (o4.below p2)⟩
  exact results_cell_row Tryd.results27 _ _ g2 26 _ (0, 0) _ rfl r4 Tryd.underlying26 rfl (szSp _ _ _ _ _ _ _ _ _)
set_option maxRecDepth 100000 in
set_option maxHeartbeats 2000000 in
theorem sp_APPEND (w : World) : Calls Tryd.prog 27 #[encStr [65, 80, 80, 69, 78, 68]] w fun e w' => e = .returned (Sp.val (wrS [65, 80, 80, 69, 78, 68] 3 3)) ∧ Below w.heap.size w w' := by
  go_enter Tryd.func27, Tryd.ntmps27
  go_wp2_with (first
    | ((with_reducible refine wl_alloc (o := ⟨some 2, _, _, _, _, _⟩) rfl 26 _ [.int .i64 0, .int .i64 0, .int .i64 0, encStr [], .int .i64 0, .int .i64 0, .bool false, .bool false, .bool false] rfl rfl rfl ?_); intro g2 w2 r2 p2 l2 b2))
  refine (writes_any w2 [65, 80, 80, 69, 78, 68] 3 3).mono ?_
  rintro e v0 ⟨rfl, c0⟩
  have r2 := r2.later c0
  have BB := (b2).trans (c0.mono (b2).size)
  go_wp2_with (first
    | ((with_reducible refine wl_store_row rfl 26 (.tmp 2) (.tmp 84) g2 26 _ (Sp.cells (wrS [65, 80, 80, 69, 78, 68] 3 3)) rfl rfl rfl r2 (szSp _ _ _ _ _ _ _ _ _) rfl (one9 _ _ _ _ _ _ _ _ _) ?_); intro w4 r4 o4))
  refine bodyPost_ret (v := Sp.val (wrS [65, 80, 80, 69, 78, 68] 3 3)) ?_ rfl ⟨rfl, BB.trans (o4.below p2)⟩
  exact results_cell_row Tryd.results27 _ _ g2 26 _ (0, 0) _ rfl r4 Tryd.underlying26 rfl (szSp _ _ _ _ _ _ _ _ _)
end Go.Proofs.YtolmomnocfkhoaaDoor

/-
  The law VerbSpecs: its walk. Own work.
-/
import Derived.Test.YtfpcgaladjndcaaDoorVerbZf
namespace Go.Proofs.YtfpcgaladjndcaaDoor
open Go.RowKit
set_option linter.unusedVariables false
set_option linter.unusedSimpArgs false
set_option maxRecDepth 100000 in
set_option maxHeartbeats 4000000 in
theorem verbSpecs_any (s : List UInt8) (w : World) (hT : TabV w) : Calls Tryd.prog 3 #[encStr s] w fun e w' => e = .returned (.bool true) ∧ Below w.heap.size w w' := by
  have H4 := awake_any
  by_cases hl : 200 < s.length
  · have hlI : (200 : Int) < (s.length : Int) := by omega
    go_enter Tryd.func3, Tryd.ntmps3
    go_wp2_with (first
      | (with_reducible refine wl_run (o := ⟨some 8, _, _, _, _, _⟩) rfl (.int .i64 (s.length : Int)) (run_lenStr 9 (.tmp 7) s rfl Tryd.underlying9 rfl) ?_))
    refine (H4 w hT).mono ?_
    rintro e w4 ⟨rfl, b4⟩
    go_wp2_with fail
    go_ret
    exact ⟨rfl, b4⟩
  · have hlI : ¬ (200 : Int) < (s.length : Int) := by omega
    have F1 := fun w => vfind_any w s (by omega)
    have F2 := fun w => rfind_any w s (by omega)
    have U1 := fun w => upper_any w s (by omega)
    have U2 := fun w => rupper_any w s (by omega)
    obtain ⟨h1, h2⟩ := row_spec (upL s)
    rw [h1, h2] at F2
    generalize upL s = U at *
    generalize specL U = x at *
    generalize isName U = B at *
    have HS := fun w => same_any w x
    clear h1 h2 hl
    go_enter Tryd.func3, Tryd.ntmps3
    go_wp2_with (first
      | (with_reducible refine wl_run (o := ⟨some 8, _, _, _, _, _⟩) rfl (.int .i64 (s.length : Int)) (run_lenStr 9 (.tmp 7) s rfl Tryd.underlying9 rfl) ?_))
    refine (F1 w).mono ?_
    rintro e w2 ⟨rfl, b2⟩
    clear F1
    go_wp2_with (first
      | ((with_reducible refine wl_alloc (o := ⟨some 3, _, _, _, _, _⟩) rfl 26 _ [.int .i64 0, .int .i64 0, .int .i64 0, encStr [], .int .i64 0, .int .i64 0, .bool false, .bool false, .bool false] rfl rfl rfl ?_); intro g3 w3 r3 p3 l3 b3)
      | ((with_reducible refine wl_store_row rfl 26 (.tmp 3) (.tmp 14) g3 26 _ x.cells rfl rfl rfl r3 (szSp _ _ _ _ _ _ _ _ _) rfl (one9 _ _ _ _ _ _ _ _ _) ?_); intro w4 r4 o4))
    have B4 := b2.trans ((b3.trans (o4.below p3)).mono b2.size)
    refine (F2 w4).mono ?_
    rintro e w5 ⟨rfl, b5⟩
    clear F2
    have r5 := r4.later b5
    have B5 := B4.trans (b5.mono B4.size)
    have lt5 := r5.lt
    replace r5 := hide r5
    go_wp2_with (first
      | ((with_reducible refine wl_alloc (o := ⟨some 5, _, _, _, _, _⟩) rfl 30 _ [encStr [], .int .i64 0, .int .i64 0, .bool false, .int .i64 0, .int .i64 0, .int .i64 0, .bool false, .bool false] rfl rfl rfl ?_); intro g6 w6 r6 p6 l6 b6)
      | ((with_reducible refine wl_store_row rfl 30 (.tmp 5) (.tmp 19) g6 30 _ (rsC x) rfl rfl rfl r6 (szRf _ _ _ _ _ _ _ _ _) rfl (by simp [Value.oneCell']) ?_); intro w7 r7 o7; have r57 := (r5.out.later b6).only o7 (Nat.ne_of_lt (Nat.lt_of_lt_of_le lt5 p6)))
      | ((with_reducible refine wg_load_row (o := ⟨some 25, _, _, _, _, _⟩) 3 true 24 rfl rfl rfl 26 (.tmp 3) g3 26 x.cells _ rfl rfl r57 Tryd.underlying26 rfl (szSp _ _ _ _ _ _ _ _ _) ?_))
      | ((with_reducible refine wg_load_row (o := ⟨some 26, _, _, _, _, _⟩) 3 true 24 rfl rfl rfl 30 (.tmp 5) g6 30 (rsC x) _ rfl rfl r7 Tryd.underlying30 rfl (szRf _ _ _ _ _ _ _ _ _) ?_)))
    have B7 := B5.trans ((b6.trans (o7.below p6)).mono B5.size)
    refine (HS w7).mono ?_
    rintro e w8 ⟨rfl, b8⟩
    clear HS
    go_wp2_with fail
    refine (U1 w8).mono ?_
    rintro e w9 ⟨rfl, b9⟩
    clear U1
    go_wp2_with fail
    refine (U2 w9).mono ?_
    rintro e wa ⟨rfl, ba⟩
    clear U2
    have Ba := B7.trans ((b8.trans ((b9.trans (ba.mono b9.size)).mono b8.size)).mono B7.size)
    have hTa := hT.later Ba
    clear hT
    go_wp2_with fail
    refine (H4 wa hTa).mono ?_
    rintro e wb ⟨rfl, bb⟩
    go_wp2_with fail
    go_ret
    exact ⟨rfl, Ba.trans (bb.mono Ba.size)⟩
end Go.Proofs.YtfpcgaladjndcaaDoor

/-
  The laws VerbNumbers and VerbInts. Own work.
-/
import Derived.Test.YtfpcgaladjndcaaDoorVerbO
import Derived.Test.YtfpcgaladjndcaaDoorVerbJ
namespace Go.Proofs.YtfpcgaladjndcaaDoor
open Go.RowKit
set_option linter.unusedVariables false
set_option linter.unusedSimpArgs false
set_option maxRecDepth 100000 in
set_option maxHeartbeats 1000000 in
theorem verbNumbers_any (n : Int) (w : World) (hT : TabV w) (h0 : -9223372036854775808 ≤ n) (h1 : n ≤ 9223372036854775807) : Calls Tryd.prog 6 #[.int .i64 n] w fun e w' => e = .returned (.bool true) ∧ Below w.heap.size w w' := by
  have H1 := text_any n h0 h1 w hT
  have H2 := fun w hT => int_any (Lib.itoa n) (Nat.le_trans (itoa_len h0 h1) (by decide)) w hT
  rw [intL_itoa h0 h1] at H2
  have H3 := fun w => rtext_any n.natAbs n w (Nat.le_refl _) h0 h1
  have H4 := awake_any
  generalize Lib.itoa n = s at *
  clear h0 h1
  go_enter Tryd.func6, Tryd.ntmps6
  go_wp2_with fail
  refine H1.mono ?_
  rintro e w1 ⟨rfl, b1⟩
  have hT1 := hT.later b1
  clear H1 hT
  go_wp2_with fail
  refine (H2 w1 hT1).mono ?_
  rintro e w2 ⟨rfl, b2⟩
  have hT2 := hT1.later b2
  clear H2 hT1
  go_wp2_with fail
  refine (H3 w2).mono ?_
  rintro e w3 ⟨rfl, b3⟩
  have hT3 := hT2.later b3
  clear H3 hT2
  go_wp2_with (first
    | (with_reducible refine wl_run (o := ⟨some 16, _, _, _, _, _⟩) rfl (.bool true) (run_eqStr (.tmp 13) (.tmp 15) rfl rfl rfl (by simp)) ?_))
  refine (H4 w3 hT3).mono ?_
  rintro e w4 ⟨rfl, b4⟩
  go_wp2_with fail
  go_ret
  exact ⟨rfl, b1.trans ((b2.trans ((b3.trans (b4.mono b3.size)).mono b2.size)).mono b1.size)⟩
set_option maxRecDepth 100000 in
set_option maxHeartbeats 1000000 in
theorem verbInts_any (s : List UInt8) (w : World) (hT : TabV w) : Calls Tryd.prog 5 #[encStr s] w fun e w' => e = .returned (.bool true) ∧ Below w.heap.size w w' := by
  have H4 := awake_any
  by_cases hl : 200 < s.length
  · have hlI : (200 : Int) < (s.length : Int) := by omega
    go_enter Tryd.func5, Tryd.ntmps5
    go_wp2_with (first
      | (with_reducible refine wl_run (o := ⟨some 8, _, _, _, _, _⟩) rfl (.int .i64 (s.length : Int)) (run_lenStr 9 (.tmp 7) s rfl Tryd.underlying9 rfl) ?_))
    refine (H4 w hT).mono ?_
    rintro e w4 ⟨rfl, b4⟩
    go_wp2_with fail
    go_ret
    exact ⟨rfl, b4⟩
  · have hlI : ¬ (200 : Int) < (s.length : Int) := by omega
    have H2 := fun w hT => int_any s (by omega) w hT
    have H3 := fun w => rint_any s w
    generalize intL s = I at *
    obtain ⟨z, b⟩ := I
    clear hl
    go_enter Tryd.func5, Tryd.ntmps5
    go_wp2_with (first
      | (with_reducible refine wl_run (o := ⟨some 8, _, _, _, _, _⟩) rfl (.int .i64 (s.length : Int)) (run_lenStr 9 (.tmp 7) s rfl Tryd.underlying9 rfl) ?_))
    refine (H2 w hT).mono ?_
    rintro e w2 ⟨rfl, b2⟩
    have hT2 := hT.later b2
    clear H2 hT
    go_wp2_with fail
    refine (H3 w2).mono ?_
    rintro e w3 ⟨rfl, b3⟩
    have hT3 := hT2.later b3
    clear H3 hT2
    go_wp2_with fail
    refine (H4 w3 hT3).mono ?_
    rintro e w4 ⟨rfl, b4⟩
    go_wp2_with fail
    go_ret
    exact ⟨rfl, b2.trans ((b3.trans (b4.mono b3.size)).mono b2.size)⟩
end Go.Proofs.YtfpcgaladjndcaaDoor

/-
  The law VerbMatches. Own work.
-/
import Derived.Test.YtfpcgaladjndcaaDoorVerbO
import Derived.Test.YtfpcgaladjndcaaDoorVerbJ
import Derived.Test.YtfpcgaladjndcaaDoorVerbV
namespace Go.Proofs.YtfpcgaladjndcaaDoor
open Go.RowKit
set_option linter.unusedVariables false
set_option linter.unusedSimpArgs false
set_option maxRecDepth 100000 in
set_option maxHeartbeats 2000000 in
theorem verbMatches_any (p s : List UInt8) (w : World) (hT : TabV w) : Calls Tryd.prog 7 #[encStr p, encStr s] w fun e w' => e = .returned (.bool true) ∧ Below w.heap.size w w' := by
  have H4 := awake_any
  by_cases hp : 80 < p.length
  · have hpI : (80 : Int) < (p.length : Int) := by omega
    go_enter Tryd.func7, Tryd.ntmps7
    go_wp2_with (first
      | (with_reducible refine wl_run (o := ⟨some 6, _, _, _, _, _⟩) rfl (.int .i64 (p.length : Int)) (run_lenStr 9 (.tmp 5) p rfl Tryd.underlying9 rfl) ?_))
    refine (H4 w hT).mono ?_
    rintro e w4 ⟨rfl, b4⟩
    go_wp2_with fail
    go_ret
    exact ⟨rfl, b4⟩
  have hpI : ¬ (80 : Int) < (p.length : Int) := by omega
  by_cases hs : 80 < s.length
  · have hsI : (80 : Int) < (s.length : Int) := by omega
    go_enter Tryd.func7, Tryd.ntmps7
    go_wp2_with (first
      | (with_reducible refine wl_run (o := ⟨some 6, _, _, _, _, _⟩) rfl (.int .i64 (p.length : Int)) (run_lenStr 9 (.tmp 5) p rfl Tryd.underlying9 rfl) ?_)
      | (refine wg_run (o := ⟨some 10, _, _, _, _, _⟩) 3 false 8 rfl rfl rfl (.int .i64 (s.length : Int)) (run_lenStr 9 (.tmp 9) s rfl Tryd.underlying9 rfl) ?_))
    refine (H4 w hT).mono ?_
    rintro e w4 ⟨rfl, b4⟩
    go_wp2_with fail
    go_ret
    exact ⟨rfl, b4⟩
  have hsI : ¬ (80 : Int) < (s.length : Int) := by omega
  have M1 := fun w => match_any w p s (by omega) (by omega)
  have M2 := fun w => rmatch_any w p s (by omega) (by omega)
  generalize lang (partsL p) s = B at *
  clear hp hs
  go_enter Tryd.func7, Tryd.ntmps7
  go_wp2_with (first
    | (with_reducible refine wl_run (o := ⟨some 6, _, _, _, _, _⟩) rfl (.int .i64 (p.length : Int)) (run_lenStr 9 (.tmp 5) p rfl Tryd.underlying9 rfl) ?_)
    | (refine wg_run (o := ⟨some 10, _, _, _, _, _⟩) 3 false 8 rfl rfl rfl (.int .i64 (s.length : Int)) (run_lenStr 9 (.tmp 9) s rfl Tryd.underlying9 rfl) ?_))
  refine (M1 w).mono ?_
  rintro e w1 ⟨rfl, b1⟩
  clear M1
  go_wp2_with fail
  refine (M2 w1).mono ?_
  rintro e w2 ⟨rfl, b2⟩
  clear M2
  have B2 := b1.trans (b2.mono b1.size)
  have hT2 := hT.later B2
  clear hT
  go_wp2_with fail
  refine (H4 w2 hT2).mono ?_
  rintro e w3 ⟨rfl, b3⟩
  go_wp2_with fail
  go_ret
  exact ⟨rfl, B2.trans (b3.mono B2.size)⟩
end Go.Proofs.YtfpcgaladjndcaaDoor

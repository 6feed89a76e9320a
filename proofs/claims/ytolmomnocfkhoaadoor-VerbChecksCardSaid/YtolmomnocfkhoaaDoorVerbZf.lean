/-
  The law VerbSpecs. Own work.
-/
import Derived.Test.YtolmomnocfkhoaaDoorVerbZe
import Derived.Test.YtolmomnocfkhoaaDoorVerbJ
namespace Go.Proofs.YtolmomnocfkhoaaDoor
open Go.RowKit
set_option linter.unusedVariables false
set_option linter.unusedSimpArgs false
abbrev rsC (x : Sp) : List Value := [encStr x.nm, .int .i64 x.mn, .int .i64 x.mx, .bool x.wr, .int .i64 x.f, .int .i64 x.l, .int .i64 x.s, .bool x.od, .bool x.ev]
set_option maxRecDepth 100000 in
theorem names_in : (tbT.all fun r => r.ns.all isName) = true := by decide
set_option maxRecDepth 100000 in
theorem rows_are : (spT.all fun x => match rowOf x.1 with | some r => decide (x.2 = ⟨r.f, r.l, r.s, x.1, r.lo, r.hi, r.wr, r.od, r.ev⟩) | none => false) = true := by decide
theorem row_spec (u : List UInt8) : (rowOf u).isSome = isName u ∧ rfO u (rowOf u) = rsC (specL u) := by
  cases hn : isName u with
  | true =>
    obtain ⟨x, hx, rfl, h2⟩ := specL_yes hn
    have h3 := List.all_eq_true.1 rows_are x hx
    rw [h2]
    cases hr : rowOf x.1 with
    | none => rw [hr] at h3; cases h3
    | some r =>
      rw [hr] at h3
      have h4 := of_decide_eq_true h3
      rw [h4]
      exact ⟨rfl, rfl⟩
  | false =>
    have h0 : rowOf u = none := by
      unfold rowOf
      rw [List.find?_eq_none]
      intro r hr e
      have h1 := List.all_eq_true.1 (List.all_eq_true.1 names_in r hr) u (List.contains_iff_mem.1 e)
      rw [hn] at h1; cases h1
    rw [h0, specL_no hn]
    exact ⟨rfl, rfl⟩
set_option maxRecDepth 100000 in
set_option maxHeartbeats 4000000 in
theorem same_any (w : World) (x : Sp) : Calls Tryd.prog 12 #[x.val, .agg (rsC x).toArray] w fun e w' => e = .returned (.bool true) ∧ Below w.heap.size w w' := by
  obtain ⟨f, l, s, nm, mn, mx, wr, od, ev⟩ := x
  go_enter Tryd.func12, Tryd.ntmps12
  go_wp2_with (first
    | ((with_reducible refine wl_box (o := ⟨some 2, _, _, _, _, _⟩) rfl 26 (.tmp 0) _ [.int .i64 f, .int .i64 l, .int .i64 s, encStr nm, .int .i64 mn, .int .i64 mx, .bool wr, .bool od, .bool ev] rfl rfl rfl ?_); intro g1 w1 r1 p1 l1 b1)
    | ((with_reducible refine wl_box (o := ⟨some 3, _, _, _, _, _⟩) rfl 30 (.tmp 1) _ [encStr nm, .int .i64 mn, .int .i64 mx, .bool wr, .int .i64 f, .int .i64 l, .int .i64 s, .bool od, .bool ev] rfl rfl rfl ?_); intro g2 w2 r2 p2 l2 b2; have r1 := r1.later b2; have c0 := r1.cell (j := 0) rfl; have c1 := r1.cell (j := 1) rfl; have c2 := r1.cell (j := 2) rfl; have c3 := r1.cell (j := 3) rfl; have c4 := r1.cell (j := 4) rfl; have c5 := r1.cell (j := 5) rfl; have c6 := r1.cell (j := 6) rfl; have c7 := r1.cell (j := 7) rfl; have c8 := r1.cell (j := 8) rfl; have d0 := r2.cell (j := 0) rfl; have d1 := r2.cell (j := 1) rfl; have d2 := r2.cell (j := 2) rfl; have d3 := r2.cell (j := 3) rfl; have d4 := r2.cell (j := 4) rfl; have d5 := r2.cell (j := 5) rfl; have d6 := r2.cell (j := 6) rfl; have d7 := r2.cell (j := 7) rfl; have d8 := r2.cell (j := 8) rfl))
  go_ret
  exact ⟨rfl, b1.trans (b2.mono b1.size)⟩
end Go.Proofs.YtolmomnocfkhoaaDoor

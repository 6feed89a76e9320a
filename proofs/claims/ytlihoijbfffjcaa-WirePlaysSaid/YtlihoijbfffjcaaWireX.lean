/-
  The law WirePlays: what both sides count. Own work.
-/
import Derived.Test.YtlihoijbfffjcaaWireV
namespace Go.Proofs.Ytlihoijbfffjcaa
open Go.RowKit Go.Conc
set_option linter.unusedVariables false
set_option linter.unusedSimpArgs false
theorem counts_any {w : World} {B gw gr gb : Nat} {nv : Value} {ls : List Way} {rs : List RWay} (hD : Duo w B gw nv ls gr gb rs) (hS : Sm ls rs) (y : Int) : ∃ n1 n2 : Int, ∀ w1, Below w.heap.size w w1 →
    (Calls Try.prog 66 #[ptr gw, .int .i64 y] w1 fun e w' => e = .returned (.int .i64 n1) ∧ w1 = w') ∧
    (Calls Try.prog 67 #[ptr gw, .int .i64 y] w1 fun e w' => e = .returned (.int .i64 n2) ∧ w1 = w') ∧
    (Calls Try.prog 68 #[ptr gr, .int .i64 y] w1 fun e w' => e = .returned (.agg #[.int .i64 n1, .int .i64 n2]) ∧ Below w1.heap.size w1 w') := by
  rcases hS.way y with hy | ⟨i, rfl, l, r, hl, hr⟩
  · refine ⟨0, 0, fun w1 b => ?_⟩
    have hN := (hD.later b).net
    have hL := lane_out w1 B gw nv ls hN y hy
    exact ⟨count_no w1 _ y hL, waiting_no w1 _ y hL, rcounts_no w1 _ y (fun w2 b2 => is_out w2 B gr gb rs ((hD.later b).ref.later b2) y (hS.len ▸ hy))⟩
  · refine ⟨(l.fs.length : Int), ((l.fs.length - l.gone : Nat) : Int), fun w1 b => ?_⟩
    have hN := (hD.later b).net
    have hR := (hD.later b).ref
    obtain ⟨e1, e2, _⟩ := hS.at_ hl hr
    have hg := (hN.mem hl).gone
    have hC := rcounts_in w1 B gr gb rs hR i r hr
    rw [← e1, ← e2, show (l.fs.length : Int) - (l.gone : Int) = ((l.fs.length - l.gone : Nat) : Int) by omega] at hC
    exact ⟨ncount_in w1 B gw nv ls hN i l hl, nwaiting_in w1 B gw nv ls hN i l hl, hC⟩
end Go.Proofs.Ytlihoijbfffjcaa

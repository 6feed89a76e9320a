/-
  From the readings of arguments to the walks' words: a slice of pairs of ints. Own work.
-/
import Derived.Test.YtfkdjcikmfljdaaFrame2
import Derived.Test.YtfkdjcikmfljdaaPackReads
import Derived.ChangeSame
namespace Go.Proofs.Ytfkdjcikmfljdaa
open Go.RowKit Go.ChangeShapes Go.WideShapes
set_option linter.unusedVariables false
set_option linter.unusedSimpArgs false
section
variable {H : Type} {enc : TypeId × Value → H} {P : Program} {w : World} {spare : Nat → Bool} {held : Bool}
theorem trod_asks {t e : TypeId} {f0 f1 : Field} {A : Option Addr} {n c : Nat} {d : DataW H} {p : List MemPlace} (ht : P.underlying t = some (.slice e)) (hc : P.cellsOf e = 2) (he : P.underlying e = some (.struct #[f0, f1]))
    (hf0 : f0.offset = 0) (hf1 : f1.offset = 1) (hi0 : P.underlying f0.type = some (.int .i64)) (hi1 : P.underlying f1.type = some (.int .i64)) (hc0 : P.cellsOf f0.type = 1) (hc1 : P.cellsOf f1.type = 1)
    (h : DataW.Trod enc P w 0 spare held t (.slice A n c) d p) : ∃ f g, Asks w w.heap.size A n f g ∧ (∀ j, j < n → -9223372036854775808 ≤ f j ∧ f j ≤ 9223372036854775807) ∧ (∀ j, j < n → -9223372036854775808 ≤ g j ∧ g j ≤ 9223372036854775807) := by
  obtain ⟨fuel, hf⟩ := h
  rcases Go.Deep.open_slice ht hf with ⟨hcs, _⟩ | ⟨a, len, cap, m, k, D, Pl, hcs, _, hl, hm, hmm, _, hx⟩
  · simp [Value.cells] at hcs
    obtain ⟨rfl, rfl, rfl⟩ := hcs
    exact ⟨fun _ => 0, fun _ => 0, fun h => absurd h (by omega), fun j hj => absurd hj (by omega), fun j hj => absurd hj (by omega)⟩
  · simp [Value.cells] at hcs
    obtain ⟨rfl, rfl, rfl⟩ := hcs
    have hnm : n ≤ m := by rw [hmm]; split <;> omega
    have key : ∀ i, i < n → ∃ q : Int × Int, w.cell? (a.add (i * 2)) = some (.int .i64 q.1) ∧ w.cell? ((a.add (i * 2)).add 1) = some (.int .i64 q.2) ∧ (Lit.int .i64 q.1).wf = true ∧ (Lit.int .i64 q.2).wf = true := by
      intro i hi
      obtain ⟨cs', h1, h2⟩ := hx i (by omega)
      rw [hc] at h1
      obtain ⟨_, hlen, hat⟩ := World.cells?_some h1
      obtain ⟨y0, y1, _, _, _, t0, t1⟩ := trod_struct2 he h2
      rw [hf0, hc0] at t0
      rw [hf1, hc1] at t1
      match cs', hlen with
      | [u0, u1], _ =>
        simp at t0 t1
        obtain ⟨q0, e0, _, w0⟩ := DataW.trod_int hi0 t0
        obtain ⟨q1, e1, _, w1⟩ := DataW.trod_int hi1 t1
        simp at e0 e1
        subst e0
        subst e1
        have c0 := hat 0 (by omega)
        have c1 := hat 1 (by omega)
        exact ⟨(q0, q1), by simpa [Addr.add] using c0, by simpa using c1, w0, w1⟩
    obtain ⟨q, hq⟩ := Go.Deep.choose_lt (α := Int × Int) key
    refine ⟨fun j => (q j).1, fun j => (q j).2, fun h0 => ?_, fun j hj => bounds_i64 (hq j hj).2.2.1, fun j hj => bounds_i64 (hq j hj).2.2.2⟩
    obtain ⟨b, off, spot⟩ := a
    have hc0 := (hq 0 h0).1
    have hspot : spot = none := by simpa [Addr.add] using World.cell?_spot hc0
    subst hspot
    refine ⟨b, off, rfl, ?_, fun j hj => ?_⟩
    · have := block_lt_of_cell hc0
      simpa [Addr.add] using this
    · obtain ⟨h1, h2, _, _⟩ := hq j hj
      rw [addr_plain] at h1 h2
      rw [addr_plain] at h2
      exact ⟨h1, h2⟩
end
end Go.Proofs.Ytfkdjcikmfljdaa

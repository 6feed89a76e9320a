/-
  Numbers that came in, as they were read. Own work.
-/
import Derived.Test.YtaflmiopaiigbaaDiskR
import Derived.Deep.Slices
import Derived.OpenShut
import Derived.ChangeSame
namespace Go.Proofs.Ytaflmiopaiigbaa
open Go.RowKit Go.Maps Go.ChangeMaps Go.ChangeShapes Go.WideShapes
set_option linter.unusedVariables false
set_option linter.unusedSimpArgs false
theorem trod_is {H : Type} {enc : TypeId × Value → H} {w : World} {spare : Nat → Bool} {held : Bool} {fuel : Nat} {cs : List Value} {x : DataW H × List MemPlace} (h : DataW.trod enc Try.prog w 0 spare held fuel 36 cs = some x) : ∃ A n c zs, cs = [.slice A n c] ∧ IsAt w w.heap.size A n zs ∧ ∀ z ∈ zs, isI z := by
  rcases Go.Deep.open_slice1 Try.underlying36 (by kernel_rfl) h with ⟨hcs, _⟩ | ⟨a, len, cap, m, k, V, D, Pl, hcs, _, hl, hm, hmm, _, hx⟩
  · exact ⟨none, 0, 0, [], hcs, ⟨rfl, fun h => absurd h (by omega)⟩, fun z hz => by cases hz⟩
  · have hnm : len ≤ m := by rw [hmm]; split <;> omega
    have key : ∀ i, i < len → ∃ z : Int, w.cell? (a.add i) = some (.int .i64 z) ∧ isI z := by
      intro i hi
      obtain ⟨h1, h2⟩ := hx i (by omega)
      obtain ⟨z, hv, _, hw⟩ := DataW.trod_int Try.underlying3 h2
      simp at hv
      exact ⟨z, by rw [h1, hv], wf_i64 hw⟩
    obtain ⟨f, hf'⟩ := Go.Deep.choose_lt (α := Int) key
    refine ⟨some a, len, cap, (List.range len).map f, hcs, ⟨by simp, fun h0 => ?_⟩, fun z hz => ?_⟩
    · obtain ⟨b, off, spot⟩ := a
      have hc0 := (hf' 0 h0).1
      have hspot : spot = none := by simpa [Addr.add] using World.cell?_spot hc0
      subst hspot
      refine ⟨b, off, rfl, ?_, fun j hj => ?_⟩
      · have := block_lt_of_cell hc0
        simpa [Addr.add] using this
      · have := (hf' j hj).1
        rw [addr_plain] at this
        rw [this]
        simp [List.getD, hj]
    · obtain ⟨i, hi, rfl⟩ := List.mem_map.1 hz
      exact (hf' i (List.mem_range.1 hi)).2
theorem trod_isT {H : Type} {enc : TypeId × Value → H} {w : World} {spare : Nat → Bool} {held : Bool} {A : Option Addr} {n c : Nat} {d : DataW H} {p : List MemPlace} (h : DataW.Trod enc Try.prog w 0 spare held 36 (.slice A n c) d p) : ∃ zs, IsAt w w.heap.size A n zs ∧ ∀ z ∈ zs, isI z := by
  obtain ⟨fuel, hf⟩ := h
  obtain ⟨A', n', c', zs, hcs, h1, h2⟩ := trod_is hf
  simp [Value.cells] at hcs
  obtain ⟨rfl, rfl, rfl⟩ := hcs
  exact ⟨zs, h1, h2⟩
end Go.Proofs.Ytaflmiopaiigbaa

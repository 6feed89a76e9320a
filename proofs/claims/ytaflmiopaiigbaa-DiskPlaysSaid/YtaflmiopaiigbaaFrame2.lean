/-
  From the readings of arguments to the walks' words: slices of slices, of structs. Own work.
-/
import Derived.Test.YtaflmiopaiigbaaFrame
import Derived.Deep.Slices
namespace Go.Proofs.Ytaflmiopaiigbaa
open Go.RowKit Go.ChangeShapes Go.WideShapes
set_option linter.unusedVariables false
set_option linter.unusedSimpArgs false
section
variable {H : Type} {enc : TypeId × Value → H} {P : Program} {w : World} {spare : Nat → Bool} {held : Bool}
/-- A slice of bytes, wherever its reading stands. -/
theorem trod_bs {base : Nat} {t e : TypeId} {fuel : Nat} {v : Value} {x : DataW H × List MemPlace} (ht : P.underlying t = some (.slice e)) (he : P.underlying e = some (.int .u8)) (hc : P.cellsOf e = 1)
    (h : DataW.trod enc P w base spare held fuel t [v] = some x) : ∃ A n c xs, v = .slice A n c ∧ Bs w w.heap.size A n xs ∧ IsBy xs ∧ n ≤ c ∧ c ≤ maxLen := by
  rcases open_ints ht he hc h with ⟨hcs, _⟩ | ⟨a, l, c, zs, hcs, _, hl, hm, hz, _, hcell, hwz⟩
  · simp at hcs
    exact ⟨none, 0, 0, [], hcs, Bs.nil_, fun _ h => by simp at h, Nat.le_refl _, by simp⟩
  · simp at hcs
    have hlz : l ≤ zs.length := by rw [hz]; split <;> omega
    refine ⟨some a, l, c, zs.take l, hcs, ⟨by simp; omega, fun h0 => ?_⟩, fun y hy => ?_, hl, hm⟩
    · obtain ⟨b, off, rfl, hc'⟩ := ints_at hcell (by omega)
      refine ⟨b, off, rfl, block_lt_of_cell (hc' 0 (by omega)), fun j hj => ?_⟩
      rw [hc' j (by omega)]
      simp [List.getD, hj]
    · have := hwz y (List.mem_of_mem_take hy)
      have := bounds_u8 this
      omega
/-- A slice of slices of bytes that came in. -/
theorem trod_bss {t e e1 : TypeId} {A : Option Addr} {n c : Nat} {d : DataW H} {p : List MemPlace} (ht : P.underlying t = some (.slice e)) (hc : P.cellsOf e = 1) (ht1 : P.underlying e = some (.slice e1)) (he1 : P.underlying e1 = some (.int .u8)) (hc1 : P.cellsOf e1 = 1)
    (h : DataW.Trod enc P w 0 spare held t (.slice A n c) d p) : ∃ xss, Bss w w.heap.size A n xss ∧ (∀ xs ∈ xss, IsBy xs) := by
  obtain ⟨fuel, hf⟩ := h
  rcases Go.Deep.open_slice1 ht hc hf with ⟨hcs, _⟩ | ⟨a, len, cap, m, k, V, D, Pl, hcs, _, hl, hm, hmm, _, hx⟩
  · simp [Value.cells] at hcs
    obtain ⟨rfl, rfl, rfl⟩ := hcs
    exact ⟨[], ⟨rfl, fun h => absurd h (by omega)⟩, fun _ h => by simp at h⟩
  · simp [Value.cells] at hcs
    obtain ⟨rfl, rfl, rfl⟩ := hcs
    have hnm : n ≤ m := by rw [hmm]; split <;> omega
    have key : ∀ i, i < n → ∃ xs, IsBy xs ∧ ∃ A' n' c', w.cell? (a.add i) = some (.slice A' n' c') ∧ Bs w w.heap.size A' n' xs := by
      intro i hi
      obtain ⟨h1, h2⟩ := hx i (by omega)
      obtain ⟨A', n', c', xs, hv, hb, hby, _, _⟩ := trod_bs ht1 he1 hc1 h2
      exact ⟨xs, hby, A', n', c', by rw [h1, hv], hb⟩
    obtain ⟨f, hf'⟩ := Go.Deep.choose_lt (α := List Int) key
    refine ⟨(List.range n).map f, ⟨by simp, fun h0 => ?_⟩, fun xs hxs => ?_⟩
    · obtain ⟨b, off, spot⟩ := a
      obtain ⟨_, A0, n0, c0, hc0, _⟩ := hf' 0 h0
      have hspot : spot = none := by simpa [Addr.add] using World.cell?_spot hc0
      subst hspot
      refine ⟨b, off, rfl, ?_, fun j hj => ?_⟩
      · have := block_lt_of_cell hc0
        simpa [Addr.add] using this
      · obtain ⟨_, A', n', c', hc', hb'⟩ := hf' j hj
        rw [addr_plain] at hc'
        exact ⟨A', n', c', hc', by simpa [List.getD, hj] using hb'⟩
    · simp only [List.mem_map, List.mem_range] at hxs
      obtain ⟨i, hi, rfl⟩ := hxs
      exact (hf' i hi).1
end
end Go.Proofs.Ytaflmiopaiigbaa

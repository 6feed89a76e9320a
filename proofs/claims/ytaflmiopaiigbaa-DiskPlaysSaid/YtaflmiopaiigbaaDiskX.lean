/-
  From the readings of the disk laws' arguments to the walks' words: an act; acts. Own work.
-/
import Derived.Test.YtaflmiopaiigbaaDiskU
namespace Go.Proofs.Ytaflmiopaiigbaa
open Go.RowKit Go.Maps Go.ChangeMaps Go.ChangeShapes Go.WideShapes
set_option linter.unusedVariables false
set_option linter.unusedSimpArgs false
section
variable {H : Type} {enc : TypeId × Value → H} {w : World} {spare : Nat → Bool} {held : Bool}
instance : Inhabited DAct := ⟨⟨0, [], [], none, 0, 0, [], 0, none, 0, 0, []⟩⟩
/-- A field of a struct that was read. -/
theorem field_one {n off : Nat} {t : TypeId} {fs : Array Field} {cs : List Value} {xs : List (DataW H × List MemPlace)} (hlen : xs.length = fs.size)
    (hf : ∀ (i : Nat) (f : Field), fs[i]? = some f → DataW.trod enc Try.prog w 0 spare held n f.type ((cs.drop f.offset).take (Try.prog.cellsOf f.type)) = xs[i]?)
    (i : Nat) (hi : fs[i]?.map (fun f => (f.offset, f.type)) = some (off, t)) (h1 : Try.prog.cellsOf t = 1) (ho : off < cs.length) : ∃ v x, cs[off]? = some v ∧ DataW.trod enc Try.prog w 0 spare held n t [v] = some x := by
  obtain ⟨f, hfi, hft⟩ := Option.map_eq_some_iff.1 hi
  injection hft with h2 h3
  have hlt : i < xs.length := by rw [hlen]; exact (Array.getElem?_eq_some_iff.1 hfi).1
  have h := hf i f hfi
  rw [h2, h3, h1, List.getElem?_eq_getElem hlt] at h
  have e : (cs.drop off).take 1 = [cs[off]] := by
    rw [List.drop_eq_getElem_cons ho]; rfl
  rw [e] at h
  exact ⟨_, _, List.getElem?_eq_getElem ho, h⟩
set_option maxRecDepth 100000 in
/-- An act, as it was read. -/
theorem open_dact {fuel : Nat} {cs : List Value} {x : DataW H × List MemPlace} (h : DataW.trod enc Try.prog w 0 spare held fuel 38 cs = some x) : ∃ q : DAct, cs = q.cells ∧ Bs w w.heap.size q.A q.m q.xs ∧ IsAt w w.heap.size q.CA q.cm q.cs ∧ (0 ≤ q.k ∧ q.k < 256) ∧ isI q.q := by
  obtain ⟨xs, n, _, rfl, hl, hlen, hf⟩ := DataW.trod_struct (fs := Try.prog.fieldsOf 38) Try.underlying38 h
  rw [show Try.prog.cellsOf 38 = 6 by kernel_rfl] at hl
  obtain ⟨v0, x0, g0, h0⟩ := field_one hlen hf 0 (show (Try.prog.fieldsOf 38)[0]?.map (fun f => (f.offset, f.type)) = some (0, 5) by kernel_rfl) (by kernel_rfl) (by omega)
  obtain ⟨v1, x1, g1, h1⟩ := field_one hlen hf 1 (show (Try.prog.fieldsOf 38)[1]?.map (fun f => (f.offset, f.type)) = some (1, 9) by kernel_rfl) (by kernel_rfl) (by omega)
  obtain ⟨v2, x2, g2, h2⟩ := field_one hlen hf 2 (show (Try.prog.fieldsOf 38)[2]?.map (fun f => (f.offset, f.type)) = some (2, 9) by kernel_rfl) (by kernel_rfl) (by omega)
  obtain ⟨v3, x3, g3, h3⟩ := field_one hlen hf 3 (show (Try.prog.fieldsOf 38)[3]?.map (fun f => (f.offset, f.type)) = some (3, 35) by kernel_rfl) (by kernel_rfl) (by omega)
  obtain ⟨v4, x4, g4, h4⟩ := field_one hlen hf 4 (show (Try.prog.fieldsOf 38)[4]?.map (fun f => (f.offset, f.type)) = some (4, 3) by kernel_rfl) (by kernel_rfl) (by omega)
  obtain ⟨v5, x5, g5, h5⟩ := field_one hlen hf 5 (show (Try.prog.fieldsOf 38)[5]?.map (fun f => (f.offset, f.type)) = some (5, 36) by kernel_rfl) (by kernel_rfl) (by omega)
  obtain ⟨k, e0, _, hk⟩ := DataW.trod_int Try.underlying5 h0
  obtain ⟨s1, e1, _, _⟩ := DataW.trod_string Try.underlying9 h1
  obtain ⟨s2, e2, _, _⟩ := DataW.trod_string Try.underlying9 h2
  obtain ⟨A, m, c, ys, e3, hb, _⟩ := trod_bs Try.underlying35 Try.underlying5 (by kernel_rfl) h3
  obtain ⟨z, e4, _, hz⟩ := DataW.trod_int Try.underlying3 h4
  obtain ⟨CA, cm, cc, zs, e5, hi, _⟩ := trod_is h5
  refine ⟨⟨k, s1.data.toList, s2.data.toList, A, m, c, ys, z, CA, cm, cc, zs⟩, ?_, hb, hi, ?_, wf_i64 hz⟩
  · simp only [List.cons.injEq, and_true] at e0 e1 e2 e3 e4 e5
    subst e0 e1 e2 e3 e4 e5
    match cs, hl with
    | [u0, u1, u2, u3, u4, u5], _ =>
      simp at g0 g1 g2 g3 g4 g5
      rw [g0, g1, g2, g3, g4, g5]
  · show 0 ≤ k ∧ k < 256
    have := bounds_u8 hk
    omega
set_option maxRecDepth 100000 in
/-- Acts that came in. -/
theorem trod_dacts {A : Option Addr} {n c : Nat} {d : DataW H} {p : List MemPlace} (h : DataW.Trod enc Try.prog w 0 spare held 22 (.slice A n c) d p) :
    ∃ f : Nat → DAct, DActs w w.heap.size A n f ∧ ∀ j, j < n → (0 ≤ (f j).k ∧ (f j).k < 256) ∧ isI (f j).q := by
  obtain ⟨fuel, hf⟩ := h
  rcases Go.Deep.open_slice Try.underlying22 hf with ⟨hcs, _⟩ | ⟨a, len, cap, m, k, D, Pl, hcs, _, hl, hm, hmm, _, hx⟩
  · simp [Value.cells] at hcs
    obtain ⟨rfl, rfl, rfl⟩ := hcs
    exact ⟨fun _ => default, fun h => absurd h (by omega), fun j hj => absurd hj (by omega)⟩
  · simp [Value.cells] at hcs
    obtain ⟨rfl, rfl, rfl⟩ := hcs
    have hnm : n ≤ m := by rw [hmm]; split <;> omega
    have key : ∀ i, i < n → ∃ q : DAct, (∀ j v, q.cells[j]? = some v → w.cell? ((a.add (i * 6)).add j) = some v) ∧ Bs w w.heap.size q.A q.m q.xs ∧ IsAt w w.heap.size q.CA q.cm q.cs ∧ (0 ≤ q.k ∧ q.k < 256) ∧ isI q.q := by
      intro i hi
      obtain ⟨cs', h1, h2⟩ := hx i (by omega)
      rw [show Try.prog.cellsOf 38 = 6 by kernel_rfl] at h1
      obtain ⟨_, hlen, hat⟩ := World.cells?_some h1
      obtain ⟨q, rfl, hb, hc, hk, hz⟩ := open_dact h2
      refine ⟨q, fun j v hj => ?_, hb, hc, hk, hz⟩
      have hj6 := (List.getElem?_eq_some_iff.1 hj).1
      have := hat j hj6
      rw [this]
      exact hj
    obtain ⟨q, hq⟩ := Go.Deep.choose_lt (α := DAct) key
    refine ⟨q, fun h0 => ?_, fun j hj => (hq j hj).2.2.2⟩
    obtain ⟨b, off, spot⟩ := a
    have hc0 := (hq 0 h0).1 0 _ rfl
    have hspot : spot = none := by simpa [Addr.add] using World.cell?_spot hc0
    subst hspot
    refine ⟨b, off, rfl, ?_, fun j hj => ?_⟩
    · have := block_lt_of_cell hc0
      simpa [Addr.add] using this
    · obtain ⟨h1, hb, hc, _⟩ := hq j hj
      refine ⟨fun i v hv => ?_, hb, hc⟩
      have := h1 i v hv
      rw [addr_plain, addr_plain] at this
      exact this
end
end Go.Proofs.Ytaflmiopaiigbaa

/-
  From the reading of WirePlays's acts to the walk's words. Own work.
-/
import Derived.Test.YtlihoijbfffjcaaWireT
import Derived.OpenShut
import Derived.ChangeSame
namespace Go.Proofs.Ytlihoijbfffjcaa
open Go.RowKit Go.Conc Go.ChangeShapes Go.WideShapes
set_option linter.unusedVariables false
set_option linter.unusedSimpArgs false
section
variable {H : Type} {enc : TypeId × Value → H} {w : World} {spare : Nat → Bool} {held : Bool} {base : Nat}
instance : Inhabited WAct := ⟨⟨0, 0, none, 0, 0, [], 0⟩⟩
set_option maxRecDepth 100000 in
/-- A number among a struct's fields. -/
theorem field_int {n off : Nat} {fs : Array Field} {cs : List Value} {xs : List (DataW H × List MemPlace)} (hlen : xs.length = fs.size)
    (hf : ∀ (i : Nat) (f : Field), fs[i]? = some f → DataW.trod enc Try.prog w base spare held n f.type ((cs.drop f.offset).take (Try.prog.cellsOf f.type)) = xs[i]?)
    (i : Nat) (hi : fs[i]?.map (fun f => (f.offset, f.type)) = some (off, 3)) : ∃ z : Int, cs[off]? = some (.int .i64 z) ∧ (-9223372036854775808 ≤ z ∧ z ≤ 9223372036854775807) := by
  obtain ⟨f, hfi, hft⟩ := Option.map_eq_some_iff.1 hi
  injection hft with h1 h2
  have hlt : i < xs.length := by rw [hlen]; exact (Array.getElem?_eq_some_iff.1 hfi).1
  have h := hf i f hfi
  rw [h1, h2, show Try.prog.cellsOf 3 = 1 by kernel_rfl, List.getElem?_eq_getElem hlt] at h
  obtain ⟨z, hz, hx, hw⟩ := DataW.trod_int Try.underlying3 h
  refine ⟨z, ?_, wf_i64 hw⟩
  have := congrArg (·[0]?) hz
  simpa [List.getElem?_take, List.getElem?_drop] using this
set_option maxRecDepth 100000 in
theorem field_u8 {n off : Nat} {fs : Array Field} {cs : List Value} {xs : List (DataW H × List MemPlace)} (hlen : xs.length = fs.size)
    (hf : ∀ (i : Nat) (f : Field), fs[i]? = some f → DataW.trod enc Try.prog w base spare held n f.type ((cs.drop f.offset).take (Try.prog.cellsOf f.type)) = xs[i]?)
    (i : Nat) (hi : fs[i]?.map (fun f => (f.offset, f.type)) = some (off, 5)) : ∃ z : Int, cs[off]? = some (.int .u8 z) ∧ 0 ≤ z ∧ z < 256 := by
  obtain ⟨f, hfi, hft⟩ := Option.map_eq_some_iff.1 hi
  injection hft with h1 h2
  have hlt : i < xs.length := by rw [hlen]; exact (Array.getElem?_eq_some_iff.1 hfi).1
  have h := hf i f hfi
  rw [h1, h2, show Try.prog.cellsOf 5 = 1 by kernel_rfl, List.getElem?_eq_getElem hlt] at h
  obtain ⟨z, hz, hx, hw⟩ := DataW.trod_int Try.underlying5 h
  refine ⟨z, ?_, ?_⟩
  · have := congrArg (·[0]?) hz
    simpa [List.getElem?_take, List.getElem?_drop] using this
  · have := bounds_u8 hw
    omega
set_option maxRecDepth 100000 in
theorem field_bs {n off : Nat} {fs : Array Field} {cs : List Value} {xs : List (DataW H × List MemPlace)} (hlen : xs.length = fs.size)
    (hf : ∀ (i : Nat) (f : Field), fs[i]? = some f → DataW.trod enc Try.prog w base spare held n f.type ((cs.drop f.offset).take (Try.prog.cellsOf f.type)) = xs[i]?)
    (i : Nat) (hi : fs[i]?.map (fun f => (f.offset, f.type)) = some (off, 35)) (ho : off < cs.length) : ∃ A m c ys, cs[off]? = some (.slice A m c) ∧ Bs w w.heap.size A m ys := by
  obtain ⟨f, hfi, hft⟩ := Option.map_eq_some_iff.1 hi
  injection hft with h1 h2
  have hlt : i < xs.length := by rw [hlen]; exact (Array.getElem?_eq_some_iff.1 hfi).1
  have h := hf i f hfi
  rw [h1, h2, show Try.prog.cellsOf 35 = 1 by kernel_rfl, List.getElem?_eq_getElem hlt] at h
  have e : (cs.drop off).take 1 = [cs[off]] := by
    rw [List.drop_eq_getElem_cons ho]; rfl
  rw [e] at h
  obtain ⟨A, m, c, ys, hv, hb, _⟩ := trod_bs Try.underlying35 Try.underlying5 (by kernel_rfl) h
  exact ⟨A, m, c, ys, by rw [List.getElem?_eq_getElem ho, hv], hb⟩
set_option maxRecDepth 100000 in
/-- An act, as it was read. -/
theorem open_wact {fuel : Nat} {cs : List Value} {x : DataW H × List MemPlace} (h : DataW.trod enc Try.prog w base spare held fuel 110 cs = some x) : ∃ q : WAct, cs = [.int .u8 q.k, .int .i64 q.way, .slice q.A q.n q.c, .int .i64 q.q] ∧ Bs w w.heap.size q.A q.n q.xs ∧ (0 ≤ q.k ∧ q.k < 256) := by
  obtain ⟨xs, n, _, rfl, hl, hlen, hf⟩ := DataW.trod_struct (fs := Try.prog.fieldsOf 110) Try.underlying110 h
  rw [show Try.prog.cellsOf 110 = 4 by kernel_rfl] at hl
  obtain ⟨k, ek, hk⟩ := field_u8 hlen hf 0 (show (Try.prog.fieldsOf 110)[0]?.map (fun f => (f.offset, f.type)) = some (0, 5) by kernel_rfl)
  obtain ⟨y, ey, _⟩ := field_int hlen hf 1 (show (Try.prog.fieldsOf 110)[1]?.map (fun f => (f.offset, f.type)) = some (1, 3) by kernel_rfl)
  obtain ⟨A, m, c, ys, eb, hb⟩ := field_bs hlen hf 2 (show (Try.prog.fieldsOf 110)[2]?.map (fun f => (f.offset, f.type)) = some (2, 35) by kernel_rfl) (by omega)
  obtain ⟨z, ez, _⟩ := field_int hlen hf 3 (show (Try.prog.fieldsOf 110)[3]?.map (fun f => (f.offset, f.type)) = some (3, 3) by kernel_rfl)
  refine ⟨⟨k, y, A, m, c, ys, z⟩, ?_, hb, hk⟩
  match cs, hl with
  | [v0, v1, v2, v3], _ =>
    simp at ek ey eb ez
    rw [ek, ey, eb, ez]
set_option maxRecDepth 100000 in
/-- Acts that came in. -/
theorem trod_wacts {A : Option Addr} {n c : Nat} {d : DataW H} {p : List MemPlace} (h : DataW.Trod enc Try.prog w 0 spare held 103 (.slice A n c) d p) :
    ∃ f : Nat → WAct, WActs w w.heap.size A n f ∧ ∀ j, j < n → 0 ≤ (f j).k ∧ (f j).k < 256 := by
  obtain ⟨fuel, hf⟩ := h
  rcases Go.Deep.open_slice Try.underlying103 hf with ⟨hcs, _⟩ | ⟨a, len, cap, m, k, D, Pl, hcs, _, hl, hm, hmm, _, hx⟩
  · simp [Value.cells] at hcs
    obtain ⟨rfl, rfl, rfl⟩ := hcs
    exact ⟨fun _ => ⟨0, 0, none, 0, 0, [], 0⟩, fun h => absurd h (by omega), fun j hj => absurd hj (by omega)⟩
  · simp [Value.cells] at hcs
    obtain ⟨rfl, rfl, rfl⟩ := hcs
    have hnm : n ≤ m := by rw [hmm]; split <;> omega
    have key : ∀ i, i < n → ∃ q : WAct, (w.cell? (a.add (i * 4)) = some (.int .u8 q.k) ∧ w.cell? ((a.add (i * 4)).add 1) = some (.int .i64 q.way) ∧ w.cell? ((a.add (i * 4)).add 2) = some (.slice q.A q.n q.c) ∧ w.cell? ((a.add (i * 4)).add 3) = some (.int .i64 q.q)) ∧ Bs w w.heap.size q.A q.n q.xs ∧ (0 ≤ q.k ∧ q.k < 256) := by
      intro i hi
      obtain ⟨cs', h1, h2⟩ := hx i (by omega)
      rw [show Try.prog.cellsOf 110 = 4 by kernel_rfl] at h1
      obtain ⟨_, hlen, hat⟩ := World.cells?_some h1
      obtain ⟨q, rfl, hb, hk⟩ := open_wact h2
      have c0 := hat 0 (by simp)
      have c1 := hat 1 (by simp)
      have c2 := hat 2 (by simp)
      have c3 := hat 3 (by simp)
      exact ⟨q, ⟨by simpa [Addr.add] using c0, by simpa using c1, by simpa using c2, by simpa using c3⟩, hb, hk⟩
    obtain ⟨q, hq⟩ := Go.Deep.choose_lt (α := WAct) key
    refine ⟨q, fun h0 => ?_, fun j hj => (hq j hj).2.2⟩
    obtain ⟨b, off, spot⟩ := a
    have hc0 := (hq 0 h0).1.1
    have hspot : spot = none := by simpa [Addr.add] using World.cell?_spot hc0
    subst hspot
    refine ⟨b, off, rfl, ?_, fun j hj => ?_⟩
    · have := block_lt_of_cell hc0
      simpa [Addr.add] using this
    · obtain ⟨⟨h1, h2, h3, h4⟩, hb, _⟩ := hq j hj
      rw [addr_plain] at h1 h2 h3 h4
      rw [addr_plain] at h2 h3 h4
      exact ⟨⟨h1, h2, h3, h4⟩, hb⟩
end
end Go.Proofs.Ytlihoijbfffjcaa

/-
  From the readings of arguments to the walks' words: pins, bounds, calls of a cell. Own work.
-/
import Derived.Test.YtlihoijbfffjcaaCellI
import Derived.Test.YtlihoijbfffjcaaFrame2
import Derived.OpenShut
import Derived.ChangeSame
namespace Go.Proofs.Ytlihoijbfffjcaa
open Go.RowKit Go.ChangeShapes Go.WideShapes
set_option linter.unusedVariables false
set_option linter.unusedSimpArgs false
section
variable {H : Type} {enc : TypeId × Value → H} {w : World} {spare : Nat → Bool} {held : Bool} {base : Nat}
set_option maxRecDepth 100000 in
/-- A number among a struct's fields. -/
theorem field_int {n off : Nat} {fs : Array Field} {cs : List Value} {xs : List (DataW H × List MemPlace)} (hlen : xs.length = fs.size)
    (hf : ∀ (i : Nat) (f : Field), fs[i]? = some f → DataW.trod enc Try.prog w base spare held n f.type ((cs.drop f.offset).take (Try.prog.cellsOf f.type)) = xs[i]?)
    (i : Nat) (hi : fs[i]?.map (fun f => (f.offset, f.type)) = some (off, 3)) : ∃ z : Int, cs[off]? = some (.int .i64 z) ∧ isI z := by
  obtain ⟨f, hfi, hft⟩ := Option.map_eq_some_iff.1 hi
  injection hft with h1 h2
  have hlt : i < xs.length := by rw [hlen]; exact (Array.getElem?_eq_some_iff.1 hfi).1
  have h := hf i f hfi
  rw [h1, h2, show Try.prog.cellsOf 3 = 1 by kernel_rfl, List.getElem?_eq_getElem hlt] at h
  obtain ⟨z, hz, hx, hw⟩ := DataW.trod_int Try.underlying3 h
  refine ⟨z, ?_, wf_i64 hw⟩
  have := congrArg (·[0]?) hz
  simpa [List.getElem?_take, List.getElem?_drop] using this
set_option maxRecDepth 100000 in
theorem field_u8 {n off : Nat} {fs : Array Field} {cs : List Value} {xs : List (DataW H × List MemPlace)} (hlen : xs.length = fs.size)
    (hf : ∀ (i : Nat) (f : Field), fs[i]? = some f → DataW.trod enc Try.prog w base spare held n f.type ((cs.drop f.offset).take (Try.prog.cellsOf f.type)) = xs[i]?)
    (i : Nat) (hi : fs[i]?.map (fun f => (f.offset, f.type)) = some (off, 5)) : ∃ z : Int, cs[off]? = some (.int .u8 z) ∧ 0 ≤ z ∧ z < 256 := by
  obtain ⟨f, hfi, hft⟩ := Option.map_eq_some_iff.1 hi
  injection hft with h1 h2
  have hlt : i < xs.length := by rw [hlen]; exact (Array.getElem?_eq_some_iff.1 hfi).1
  have h := hf i f hfi
  rw [h1, h2, show Try.prog.cellsOf 5 = 1 by kernel_rfl, List.getElem?_eq_getElem hlt] at h
  obtain ⟨z, hz, hx, hw⟩ := DataW.trod_int Try.underlying5 h
  refine ⟨z, ?_, ?_⟩
  · have := congrArg (·[0]?) hz
    simpa [List.getElem?_take, List.getElem?_drop] using this
  · have := bounds_u8 hw
    omega
theorem list2 {α : Type} {l : List α} {x y : α} (hl : l.length = 2) (h0 : l[0]? = some x) (h1 : l[1]? = some y) : l = [x, y] := by
  match l, hl with
  | [a, b], _ => simp at h0 h1; rw [h0, h1]
set_option maxRecDepth 100000 in
/-- A pin, as it was read. -/
theorem open_pin {fuel : Nat} {cs : List Value} {x : DataW H × List MemPlace} (h : DataW.trod enc Try.prog w base spare held fuel 83 cs = some x) : ∃ a b : Int, cs = [.int .i64 a, .int .i64 b] ∧ isI a ∧ isI b := by
  obtain ⟨xs, n, _, rfl, hl, hlen, hf⟩ := DataW.trod_struct (fs := Try.prog.fieldsOf 83) Try.underlying83 h
  rw [show Try.prog.cellsOf 83 = 2 by kernel_rfl] at hl
  obtain ⟨a, ha, a'⟩ := field_int hlen hf 0 (show (Try.prog.fieldsOf 83)[0]?.map (fun f => (f.offset, f.type)) = some (0, 3) by kernel_rfl)
  obtain ⟨b, hb, b'⟩ := field_int hlen hf 1 (show (Try.prog.fieldsOf 83)[1]?.map (fun f => (f.offset, f.type)) = some (1, 3) by kernel_rfl)
  exact ⟨a, b, list2 hl ha hb, a', b'⟩
set_option maxRecDepth 100000 in
/-- Bounds, as they were read. -/
theorem open_bds {fuel : Nat} {cs : List Value} {x : DataW H × List MemPlace} (h : DataW.trod enc Try.prog w base spare held fuel 77 cs = some x) : ∃ n1 n2 n3 n4 n5 n6 n7 : Int, cs = bdsL n1 n2 n3 n4 n5 n6 n7 := by
  obtain ⟨xs, n, _, rfl, hl, hlen, hf⟩ := DataW.trod_struct (fs := Try.prog.fieldsOf 77) Try.underlying77 h
  rw [show Try.prog.cellsOf 77 = 7 by kernel_rfl] at hl
  obtain ⟨z0, e0, _⟩ := field_int hlen hf 0 (show (Try.prog.fieldsOf 77)[0]?.map (fun f => (f.offset, f.type)) = some (0, 3) by kernel_rfl)
  obtain ⟨z1, e1, _⟩ := field_int hlen hf 1 (show (Try.prog.fieldsOf 77)[1]?.map (fun f => (f.offset, f.type)) = some (1, 3) by kernel_rfl)
  obtain ⟨z2, e2, _⟩ := field_int hlen hf 2 (show (Try.prog.fieldsOf 77)[2]?.map (fun f => (f.offset, f.type)) = some (2, 3) by kernel_rfl)
  obtain ⟨z3, e3, _⟩ := field_int hlen hf 3 (show (Try.prog.fieldsOf 77)[3]?.map (fun f => (f.offset, f.type)) = some (3, 3) by kernel_rfl)
  obtain ⟨z4, e4, _⟩ := field_int hlen hf 4 (show (Try.prog.fieldsOf 77)[4]?.map (fun f => (f.offset, f.type)) = some (4, 3) by kernel_rfl)
  obtain ⟨z5, e5, _⟩ := field_int hlen hf 5 (show (Try.prog.fieldsOf 77)[5]?.map (fun f => (f.offset, f.type)) = some (5, 3) by kernel_rfl)
  obtain ⟨z6, e6, _⟩ := field_int hlen hf 6 (show (Try.prog.fieldsOf 77)[6]?.map (fun f => (f.offset, f.type)) = some (6, 3) by kernel_rfl)
  refine ⟨z0, z1, z2, z3, z4, z5, z6, ?_⟩
  match cs, hl with
  | [v0, v1, v2, v3, v4, v5, v6], _ =>
    simp at e0 e1 e2 e3 e4 e5 e6
    rw [e0, e1, e2, e3, e4, e5, e6]
set_option maxRecDepth 100000 in
/-- A call of a cell, as it was read. -/
theorem open_act {fuel : Nat} {cs : List Value} {x : DataW H × List MemPlace} (h : DataW.trod enc Try.prog w base spare held fuel 87 cs = some x) : ∃ k p q m : Int, cs = [.int .u8 k, .int .i64 p, .int .i64 q, .int .i64 m] ∧ (0 ≤ k ∧ k < 256) ∧ isI p ∧ isI q ∧ isI m := by
  obtain ⟨xs, n, _, rfl, hl, hlen, hf⟩ := DataW.trod_struct (fs := Try.prog.fieldsOf 87) Try.underlying87 h
  rw [show Try.prog.cellsOf 87 = 4 by kernel_rfl] at hl
  obtain ⟨k, ek, hk⟩ := field_u8 hlen hf 0 (show (Try.prog.fieldsOf 87)[0]?.map (fun f => (f.offset, f.type)) = some (0, 5) by kernel_rfl)
  obtain ⟨m, em, hm⟩ := field_int hlen hf 2 (show (Try.prog.fieldsOf 87)[2]?.map (fun f => (f.offset, f.type)) = some (3, 3) by kernel_rfl)
  obtain ⟨f, hfi, hft⟩ := Option.map_eq_some_iff.1 (show (Try.prog.fieldsOf 87)[1]?.map (fun f => (f.offset, f.type)) = some (1, 83) by kernel_rfl)
  injection hft with h1 h2
  have hlt : 1 < xs.length := by rw [hlen]; exact (Array.getElem?_eq_some_iff.1 hfi).1
  have h := hf 1 f hfi
  rw [h1, h2, show Try.prog.cellsOf 83 = 2 by kernel_rfl, List.getElem?_eq_getElem hlt] at h
  obtain ⟨p, q, e, hp, hq⟩ := open_pin h
  refine ⟨k, p, q, m, ?_, hk, hp, hq, hm⟩
  match cs, hl with
  | [v0, v1, v2, v3], _ =>
    simp at ek em e
    rw [ek, em, e.1, e.2]
set_option maxRecDepth 100000 in
/-- Calls of a cell that came in. -/
theorem trod_acts {A : Option Addr} {n c : Nat} {d : DataW H} {p : List MemPlace} (h : DataW.Trod enc Try.prog w 0 spare held 78 (.slice A n c) d p) :
    ∃ fk fp fq fm : Nat → Int, Acts w w.heap.size A n fk fp fq fm ∧ (∀ j, j < n → 0 ≤ fk j ∧ fk j < 256) ∧ (∀ j, j < n → isI (fp j)) ∧ (∀ j, j < n → isI (fq j)) ∧ (∀ j, j < n → isI (fm j)) := by
  obtain ⟨fuel, hf⟩ := h
  rcases Go.Deep.open_slice Try.underlying78 hf with ⟨hcs, _⟩ | ⟨a, len, cap, m, k, D, Pl, hcs, _, hl, hm, hmm, _, hx⟩
  · simp [Value.cells] at hcs
    obtain ⟨rfl, rfl, rfl⟩ := hcs
    exact ⟨fun _ => 0, fun _ => 0, fun _ => 0, fun _ => 0, fun h => absurd h (by omega), fun j hj => absurd hj (by omega), fun j hj => absurd hj (by omega), fun j hj => absurd hj (by omega), fun j hj => absurd hj (by omega)⟩
  · simp [Value.cells] at hcs
    obtain ⟨rfl, rfl, rfl⟩ := hcs
    have hnm : n ≤ m := by rw [hmm]; split <;> omega
    have key : ∀ i, i < n → ∃ q : Int × Int × Int × Int, (w.cell? (a.add (i * 4)) = some (.int .u8 q.1) ∧ w.cell? ((a.add (i * 4)).add 1) = some (.int .i64 q.2.1) ∧ w.cell? ((a.add (i * 4)).add 2) = some (.int .i64 q.2.2.1) ∧ w.cell? ((a.add (i * 4)).add 3) = some (.int .i64 q.2.2.2)) ∧ (0 ≤ q.1 ∧ q.1 < 256) ∧ isI q.2.1 ∧ isI q.2.2.1 ∧ isI q.2.2.2 := by
      intro i hi
      obtain ⟨cs', h1, h2⟩ := hx i (by omega)
      rw [show Try.prog.cellsOf 87 = 4 by kernel_rfl] at h1
      obtain ⟨_, hlen, hat⟩ := World.cells?_some h1
      obtain ⟨q0, q1, q2, q3, rfl, b0, b1, b2, b3⟩ := open_act h2
      have c0 := hat 0 (by simp)
      have c1 := hat 1 (by simp)
      have c2 := hat 2 (by simp)
      have c3 := hat 3 (by simp)
      exact ⟨(q0, q1, q2, q3), ⟨by simpa [Addr.add] using c0, by simpa using c1, by simpa using c2, by simpa using c3⟩, b0, b1, b2, b3⟩
    obtain ⟨q, hq⟩ := Go.Deep.choose_lt (α := Int × Int × Int × Int) key
    refine ⟨fun j => (q j).1, fun j => (q j).2.1, fun j => (q j).2.2.1, fun j => (q j).2.2.2, fun h0 => ?_, fun j hj => (hq j hj).2.1, fun j hj => (hq j hj).2.2.1, fun j hj => (hq j hj).2.2.2.1, fun j hj => (hq j hj).2.2.2.2⟩
    obtain ⟨b, off, spot⟩ := a
    have hc0 := (hq 0 h0).1.1
    have hspot : spot = none := by simpa [Addr.add] using World.cell?_spot hc0
    subst hspot
    refine ⟨b, off, rfl, ?_, fun j hj => ?_⟩
    · have := block_lt_of_cell hc0
      simpa [Addr.add] using this
    · obtain ⟨⟨h1, h2, h3, h4⟩, _⟩ := hq j hj
      rw [addr_plain] at h1 h2 h3 h4
      rw [addr_plain] at h2 h3 h4
      exact ⟨h1, h2, h3, h4⟩
end
end Go.Proofs.Ytlihoijbfffjcaa

/-
  From the cards' premise to the program's two tables; from a reading of where a stream begins to its cells. Own work.
-/
import Derived.Test.YtfpemnihknbihaaDoorOpen
import Derived.Test.YtfpemnihknbihaaDoorTwice
import Derived.LaidMore
import Derived.Deep.Strs
namespace Go.Proofs.YtfpemnihknbihaaDoor
open Go.RowKit Go.ChangeShapes Go.WideShapes
set_option linter.unusedVariables false
set_option linter.unusedSimpArgs false
theorem gHead : Tryd.prog.globalNamed "intaglio/chacha.head" = some 1 := by kernel_rfl
theorem gQuarters : Tryd.prog.globalNamed "intaglio/chacha.quarters" = some 0 := by kernel_rfl
theorem tHead : (Tryd.prog.globals[1]?).map (·.type) = some 86 := by kernel_rfl
theorem tQuarters : (Tryd.prog.globals[0]?).map (·.type) = some 65 := by kernel_rfl
def laid2 : List (String × DataW Unit) := [("intaglio/chacha.head", Rows.laid_intaglio_chacha_head), ("intaglio/chacha.quarters", Rows.laid_intaglio_chacha_quarters)]
theorem cells8 {α : Type} (cs : List α) (h : cs.length = 32) (r : Nat → List α) (hr : ∀ i, i < 8 → (cs.drop (i * 4)).take 4 = r i) : cs = r 0 ++ (r 1 ++ (r 2 ++ (r 3 ++ (r 4 ++ (r 5 ++ (r 6 ++ r 7)))))) := by
  rw [← hr 0 (by omega), ← hr 1 (by omega), ← hr 2 (by omega), ← hr 3 (by omega), ← hr 4 (by omega), ← hr 5 (by omega), ← hr 6 (by omega), ← hr 7 (by omega)]
  have e7 : (cs.drop (7 * 4)).take 4 = cs.drop 28 := List.take_of_length_le (by simp; omega)
  have st : ∀ k, (cs.drop k).take 4 ++ cs.drop (k + 4) = cs.drop k := fun k => by rw [← List.drop_drop, List.take_append_drop]
  rw [e7]
  simp only [show 6 * 4 = 24 from rfl, show 5 * 4 = 20 from rfl, show 4 * 4 = 16 from rfl, show 3 * 4 = 12 from rfl, show 2 * 4 = 8 from rfl, show 1 * 4 = 4 from rfl, show 0 * 4 = 0 from rfl]
  rw [st 24, st 20, st 16, st 12, st 8, st 4, st 0, List.drop_zero]
set_option maxRecDepth 100000 in
theorem tabs_of_laid {W : World} (h : laidMetH Tryd.prog laid2 W) : Tabs W := by
  rw [MakeChecks.laidMetH_plain _ _ _ (by kernel_rfl)] at h
  obtain ⟨ps, ⟨g0, t0, cs0, f0, p0, q0, hg0, ht0, hv0, hd0, ⟨g1, t1, cs1, f1, p1, q1, hg1, ht1, hv1, hd1, _, _⟩, _⟩, _, _⟩ := h
  obtain rfl := Option.some.inj (gHead.symm.trans hg0)
  obtain rfl := Option.some.inj (gQuarters.symm.trans hg1)
  obtain rfl := Option.some.inj (tHead.symm.trans ht0)
  obtain rfl := Option.some.inj (tQuarters.symm.trans ht1)
  have c4 : Tryd.prog.cellsOf 64 = 4 := by kernel_rfl
  have c1 : Tryd.prog.cellsOf 3 = 1 := by kernel_rfl
  have c32 : Tryd.prog.cellsOf 65 = 32 := by kernel_rfl
  have e0 : cs0.toList = headL.map fun z => Value.int .u32 z := Lib.cells_of_tab (zs := headL) (k := .u32) Tryd.underlying86 Tryd.underlying23 (by kernel_rfl) (by kernel_rfl) hd0
  have e1 : cs1.toList = quartersL.map fun z => Value.int .i64 z := by
    obtain ⟨xs, m1, rfl, hx1, hlen, hn, hel⟩ := DataW.trod_array Tryd.underlying65 hd1
    rw [c32] at hlen
    rw [c4] at hel
    have hxs : xs.map (·.1) = (List.range 8).map fun i => (Lib.tabData .i64 (plL i) : DataW Unit) := by
      have := congrArg Prod.fst hx1
      simp only [Rows.laid_intaglio_chacha_quarters] at this
      injection this with this
      exact this.symm
    have hrow : ∀ i, i < 8 → (cs1.toList.drop (i * 4)).take 4 = (plL i).map fun z => Value.int .i64 z := by
      intro i hi
      have h1 := hel i hi
      rw [List.getElem?_eq_getElem (show i < xs.length by omega)] at h1
      have h2 : (xs[i]'(by omega)).1 = (Lib.tabData .i64 (plL i) : DataW Unit) := by
        have := congrArg (·[i]?) hxs
        simpa [hi, List.getElem?_eq_getElem (show i < xs.length by omega)] using this
      have h3 : xs[i]'(by omega) = ((Lib.tabData .i64 (plL i) : DataW Unit), (xs[i]'(by omega)).2) := by rw [← h2]
      rw [h3] at h1
      exact Lib.cells_of_tab (zs := plL i) (k := .i64) Tryd.underlying64 Tryd.underlying3 c1 c4 h1
    rw [cells8 cs1.toList hlen _ hrow]
    rfl
  have b0 : 1 < W.heap.size := block_lt_of_cell (v := .int .u32 (headL.getD 0 0)) (by rw [World.var?_cell hg0 hv0 0, ← Array.getElem?_toList, e0]; rfl)
  have b1 : 0 < W.heap.size := block_lt_of_cell (v := .int .i64 (quartersL.getD 0 0)) (by rw [World.var?_cell hg1 hv1 0, ← Array.getElem?_toList, e1]; rfl)
  refine ⟨by omega, fun j hj => ?_, fun j hj => ?_⟩
  · rw [World.var?_cell hg0 hv0 j, ← Array.getElem?_toList, e0]
    simp [List.getD, show j < headL.length from hj]
  · rw [World.var?_cell hg1 hv1 j, ← Array.getElem?_toList, e1]
    simp [List.getD, show j < quartersL.length from hj]
/-- Where a stream begins, as it was read. -/
theorem open_at {H : Type} {enc : TypeId × Value → H} {w : World} {spare : Nat → Bool} {held : Bool} {base : Nat} {fuel : Nat} {cs : List Value} {x : DataW H × List MemPlace}
    (h : DataW.trod enc Tryd.prog w base spare held fuel 26 cs = some x) : ∃ (ks : List Int) (c : Nat) (ns : List Int), cs = atL ks c ns ∧ ks.length = 32 ∧ ns.length = 12 ∧ IsBy ks ∧ IsBy ns ∧ c < 4294967296 := by
  have ce : Tryd.prog.cellsOf 5 = 1 := by kernel_rfl
  have c32 : Tryd.prog.cellsOf 22 = 32 := by kernel_rfl
  have c12 : Tryd.prog.cellsOf 24 = 12 := by kernel_rfl
  have cu : Tryd.prog.cellsOf 23 = 1 := by kernel_rfl
  have cT : Tryd.prog.cellsOf 26 = 45 := by kernel_rfl
  obtain ⟨y0, y1, y2, n, _, hl, h0, h1, h2⟩ := Go.Deep.trod_struct3 Tryd.underlying26 h
  rw [cT] at hl
  obtain ⟨ks, e0, lk, bk⟩ := trod_bytes Tryd.underlying22 Tryd.underlying5 ce c32 h0
  obtain ⟨ns, e2, ln, bn⟩ := trod_bytes Tryd.underlying24 Tryd.underlying5 ce c12 h2
  obtain ⟨z, e1, _, hw⟩ := DataW.trod_int Tryd.underlying23 h1
  simp only [c32, c12, cu] at e0 e1 e2
  obtain ⟨z0, z1⟩ := wf_u32 hw
  refine ⟨ks, z.toNat, ns, ?_, lk, ln, bk, bn, by omega⟩
  rw [Int.toNat_of_nonneg z0]
  unfold atL
  rw [← e0, ← e1, ← e2]
  simp only [List.drop_zero]
  have t12 : (cs.drop 33).take 12 = cs.drop 33 := List.take_of_length_le (by simp; omega)
  rw [t12]
  have s1 : (cs.drop 32).take 1 ++ cs.drop 33 = cs.drop 32 := by rw [show 33 = 32 + 1 from rfl, ← List.drop_drop, List.take_append_drop]
  rw [s1, List.take_append_drop]
end Go.Proofs.YtfpemnihknbihaaDoor

/-
  Commands: a row of the document's table, as it lies in memory. Own work.
-/
import Derived.Test.YtolmomnocfkhoaaDoorVerbZc
namespace Go.Proofs.YtolmomnocfkhoaaDoor
open Go.RowKit
set_option linter.unusedVariables false
set_option linter.unusedSimpArgs false
theorem flat9 : ∀ (l : List (Nat × RowT)) (i : Nat) (x : Nat × RowT), l[i]? = some x → ∀ (j : Nat) (v : Value), (rcC x.1 x.2)[j]? = some v → (l.flatMap fun x => rcC x.1 x.2)[i * 9 + j]? = some v
  | [], i, x, h, _, _, _ => by simp at h
  | y :: r, 0, x, h, j, v, hv => by
    obtain rfl : y = x := by simpa using h
    have hj : j < (rcC y.1 y.2).length := (List.getElem?_eq_some_iff.1 hv).1
    show (rcC y.1 y.2 ++ r.flatMap fun x => rcC x.1 x.2)[0 * 9 + j]? = some v
    rw [Nat.zero_mul, Nat.zero_add, List.getElem?_append_left hj]
    exact hv
  | y :: r, i + 1, x, h, j, v, hv => by
    have h2 : r[i]? = some x := by simpa using h
    have ih := flat9 r i x h2 j v hv
    show (rcC y.1 y.2 ++ r.flatMap fun x => rcC x.1 x.2)[(i + 1) * 9 + j]? = some v
    have hl : (rcC y.1 y.2).length = 9 := rfl
    rw [List.getElem?_append_right (by rw [hl]; omega), hl, show (i + 1) * 9 + j - 9 = i * 9 + j by omega]
    exact ih
theorem tbT_len : tbT.length = 20 := rfl
/-- A row's cells, and where its names lie. -/
theorem TbAt.row {w : World} {g i : Nat} {r : RowT} (h : TbAt w g) (hr : tbT[i]? = some r) : ∃ q, (∀ (j : Nat) (v : Value), (rcC q r)[j]? = some v → w.cell? ⟨g, i * 9 + j, none⟩ = some v) ∧ Row w 9 q (r.ns.map encStr) ∧ g < w.heap.size := by
  obtain ⟨gs, hl, hrow, hn⟩ := h
  have hi : i < 20 := by have := (List.getElem?_eq_some_iff.1 hr).1; rw [tbT_len] at this; exact this
  obtain ⟨q, hq⟩ : ∃ q, gs[i]? = some q := ⟨_, List.getElem?_eq_getElem (by omega)⟩
  have hz : (gs.zip tbT)[i]? = some (q, r) := by rw [List.getElem?_zip_eq_some]; exact ⟨hq, hr⟩
  exact ⟨q, fun j v hv => hrow.cell (flat9 _ i (q, r) hz j v hv), hn i q r hq hr, hrow.lt⟩
theorem TbAt.later {w w' : World} {g : Nat} (h : TbAt w g) (hb : Below w.heap.size w w') : TbAt w' g := by
  obtain ⟨gs, hl, hrow, hn⟩ := h
  exact ⟨gs, hl, hrow.later hb, fun i q r hq hr => (hn i q r hq hr).later hb⟩
/-- The row that has a name. -/
def rowOf (nm : List UInt8) : Option RowT := tbT.find? fun r => r.ns.contains nm
end Go.Proofs.YtolmomnocfkhoaaDoor

/-
  The document's net: Pick, Next, Counts: contracts. Own work.
-/
import Derived.Test.YtlihoijbfffjcaaWireM
namespace Go.Proofs.Ytlihoijbfffjcaa
open Go.RowKit Go.Conc
set_option linter.unusedVariables false
set_option linter.unusedSimpArgs false
theorem own_len {w : World} {B n : Nat} {v : Value} {xs : List Value} (h : w.ownsRow B 35 1 v n xs) : ∃ A c, v = .slice A n c := by
  rcases h.2 with ⟨e, h0⟩ | ⟨g, cap, cur, e, _⟩
  · exact ⟨none, 0, by rw [e, h0]⟩
  · exact ⟨_, _, e⟩
theorem own_cell {w : World} {B n k : Nat} {v x : Value} {xs : List Value} (h : w.ownsRow B 35 1 v n xs) (hx : xs[k]? = some x) : ∃ g cap, v = .slice (some ⟨g, 0, none⟩) n cap ∧ w.cell? ⟨g, k, none⟩ = some x := by
  obtain ⟨hl, ho⟩ := h
  have hlt := (List.getElem?_eq_some_iff.1 hx).1
  rcases ho with ⟨rfl, h0⟩ | ⟨g, cap, cur, rfl, _, hg, h1, h2, h3, h4⟩
  · omega
  · refine ⟨g, cap, rfl, ?_⟩
    have e : (cur.toList.take (n * 1))[k]? = xs[k]? := by rw [h4]
    rw [Nat.mul_one, List.getElem?_take, if_pos (by omega), hx] at e
    rw [cell_of_row w g k cur _ (0, 0) hg, ← Array.getElem?_toList]
    exact e
set_option maxRecDepth 100000 in
theorem rpick_no (w : World) (v : Value) (i k : Int) (hI : Calls Try.prog 107 #[v, .int .i64 i] w fun e w' => e = .returned (.bool false) ∧ w = w') : Calls Try.prog 63 #[v, .int .i64 i, .int .i64 k] w fun e w' => e = .returned (.tuple #[.slice none 0 0, .int .i64 1]) ∧ w = w' := by
  go_enter Try.func63, Try.ntmps63
  go_wp2_with fail
  refine hI.mono ?_
  rintro en w1 ⟨rfl, rfl⟩
  go_wp2_with fail
  go_ret2
  exact ⟨rfl, rfl⟩
set_option maxRecDepth 100000 in
theorem rpick_some (w : World) (B gr gb : Nat) (rs : List RWay) (h : RNetAt w B gr gb rs) (i : Nat) (r : RWay) (hr : rs[i]? = some r) (k : Nat) (v : Value) (xs : List Int) (hv : r.fs[k]? = some (v, xs)) : Calls Try.prog 63 #[ptr gr, .int .i64 i, .int .i64 k] w fun e w' => e = .returned (.tuple #[v, .int .i64 0]) ∧ w = w' := by
  have hlt := (List.getElem?_eq_some_iff.1 hr).1
  have hkt := (List.getElem?_eq_some_iff.1 hv).1
  have hI := is_in w B gr gb rs h i hlt
  have c0 := h.row.cell (j := 0) (v := .slice (some ⟨gb, 0, none⟩) rs.length rs.length) rfl
  have ho := h.own r (List.mem_of_getElem? hr)
  obtain ⟨g, cap, e, cv⟩ := own_cell ho (k := k) (x := v) (by rw [List.getElem?_map, hv]; rfl)
  have cl := h.rows.cell (rcell0 hr)
  rw [e] at cl
  have hd0 : decide ((k : Int) < 0) = false := by simp
  have hd : decide ((r.fs.length : Int) ≤ (k : Int)) = false := by simp; omega
  generalize rs.length = m at *
  generalize r.fs.length = q at *
  have HI := hide hI
  clear h ho hv hI hr e
  go_enter Try.func63, Try.ntmps63
  go_wp2_with fail
  refine HI.out.mono ?_
  rintro en w1 ⟨rfl, rfl⟩
  go_wp2_with fail
  go_ret2
  exact ⟨rfl, rfl⟩
set_option maxRecDepth 100000 in
theorem rpick_none (w : World) (B gr gb : Nat) (rs : List RWay) (h : RNetAt w B gr gb rs) (i : Nat) (r : RWay) (hr : rs[i]? = some r) (k : Int) (hk : k < 0 ∨ (r.fs.length : Int) ≤ k) : Calls Try.prog 63 #[ptr gr, .int .i64 i, .int .i64 k] w fun e w' => e = .returned (.tuple #[.slice none 0 0, .int .i64 9]) ∧ w = w' := by
  have hlt := (List.getElem?_eq_some_iff.1 hr).1
  have hI := is_in w B gr gb rs h i hlt
  have c0 := h.row.cell (j := 0) (v := .slice (some ⟨gb, 0, none⟩) rs.length rs.length) rfl
  have ho := h.own r (List.mem_of_getElem? hr)
  obtain ⟨A, cap, e⟩ := own_len ho
  have cl := h.rows.cell (rcell0 hr)
  rw [e] at cl
  generalize rs.length = m at *
  generalize r.fs.length = q at *
  have HI := hide hI
  clear h ho hI hr e
  by_cases hk0 : k < 0
  · have hd0 : decide (k < 0) = true := by simp; omega
    clear hk
    go_enter Try.func63, Try.ntmps63
    go_wp2_with fail
    refine HI.out.mono ?_
    rintro en w1 ⟨rfl, rfl⟩
    go_wp2_with fail
    go_ret2
    exact ⟨rfl, rfl⟩
  · have hd0 : decide (k < 0) = false := by simp; omega
    have hd : decide ((q : Int) ≤ k) = true := by simp; omega
    clear hk
    go_enter Try.func63, Try.ntmps63
    go_wp2_with fail
    refine HI.out.mono ?_
    rintro en w1 ⟨rfl, rfl⟩
    go_wp2_with fail
    go_ret2
    exact ⟨rfl, rfl⟩
end Go.Proofs.Ytlihoijbfffjcaa

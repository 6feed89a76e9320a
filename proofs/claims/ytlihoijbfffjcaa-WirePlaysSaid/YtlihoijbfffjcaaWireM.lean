/-
  The document's net: its words; New, is. Own work.
-/
import Derived.Test.YtlihoijbfffjcaaWireK
import Derived.Laws.OwnMore
namespace Go.Proofs.Ytlihoijbfffjcaa
open Go.RowKit Go.Conc
set_option linter.unusedVariables false
set_option linter.unusedSimpArgs false
/-- A way of the document: its list's value, what the list holds, and how many are gone. -/
structure RWay where
  L : Value
  fs : List (Value × List Int)
  gone : Nat
def RWay.d : RWay := ⟨.slice none 0 0, [], 0⟩
def rcellAt (rs : List RWay) (q : Nat) : Value := if q % 2 = 0 then (rs.getD (q / 2) RWay.d).L else .int .i64 ((rs.getD (q / 2) RWay.d).gone : Int)
def rcells (rs : List RWay) : List Value := (List.range (rs.length * 2)).map (rcellAt rs)
theorem rcells_len (rs : List RWay) : (rcells rs).length = rs.length * 2 := by simp [rcells]
theorem rcell0 {rs : List RWay} {i : Nat} {r : RWay} (h : rs[i]? = some r) : (rcells rs)[i * 2]? = some r.L := by
  have hlt := (List.getElem?_eq_some_iff.1 h).1
  unfold rcells
  rw [List.getElem?_map, List.getElem?_range (by omega), Option.map_some]
  unfold rcellAt
  rw [if_pos (by omega), show i * 2 / 2 = i by omega, List.getD_eq_getElem?_getD, h]
  rfl
theorem rcell1 {rs : List RWay} {i : Nat} {r : RWay} (h : rs[i]? = some r) : (rcells rs)[i * 2 + 1]? = some (.int .i64 (r.gone : Int)) := by
  have hlt := (List.getElem?_eq_some_iff.1 h).1
  unfold rcells
  rw [List.getElem?_map, List.getElem?_range (by omega), Option.map_some]
  unfold rcellAt
  rw [if_neg (by omega), show (i * 2 + 1) / 2 = i by omega, List.getD_eq_getElem?_getD, h]
  rfl
theorem rcells_set0 {rs : List RWay} {i : Nat} {r r' : RWay} (h : rs[i]? = some r) (hg : r'.gone = r.gone) : (rcells rs).set (i * 2) r'.L = rcells (rs.set i r') := by
  have hlt := (List.getElem?_eq_some_iff.1 h).1
  refine List.ext_getElem? fun q => ?_
  by_cases hq : q < rs.length * 2
  · have e1 : (rcells (rs.set i r'))[q]? = some (rcellAt (rs.set i r') q) := by
      unfold rcells
      rw [List.getElem?_map, List.getElem?_range (by simpa using hq), Option.map_some]
    have e2 : (rcells rs)[q]? = some (rcellAt rs q) := by
      unfold rcells
      rw [List.getElem?_map, List.getElem?_range hq, Option.map_some]
    rw [e1, List.getElem?_set]
    by_cases h0 : i * 2 = q
    · subst h0
      rw [if_pos rfl, if_pos (by rw [rcells_len]; exact hq)]
      unfold rcellAt
      rw [if_pos (by omega), show i * 2 / 2 = i by omega, List.getD_eq_getElem?_getD, List.getElem?_set_self hlt]
      rfl
    · rw [if_neg h0, e2]
      unfold rcellAt
      by_cases h1 : q / 2 = i
      · rw [if_neg (by omega), if_neg (by omega), h1, List.getD_eq_getElem?_getD, List.getD_eq_getElem?_getD, List.getElem?_set_self hlt, h]
        simp [hg]
      · rw [List.getD_eq_getElem?_getD, List.getD_eq_getElem?_getD, List.getElem?_set_ne (Ne.symm h1)]
  · rw [List.getElem?_eq_none (by rw [List.length_set, rcells_len]; omega), List.getElem?_eq_none (by rw [rcells_len]; simpa using Nat.le_of_not_lt hq)]
theorem rcells_set1 {rs : List RWay} {i : Nat} {r r' : RWay} (h : rs[i]? = some r) (hL : r'.L = r.L) : (rcells rs).set (i * 2 + 1) (.int .i64 (r'.gone : Int)) = rcells (rs.set i r') := by
  have hlt := (List.getElem?_eq_some_iff.1 h).1
  refine List.ext_getElem? fun q => ?_
  by_cases hq : q < rs.length * 2
  · have e1 : (rcells (rs.set i r'))[q]? = some (rcellAt (rs.set i r') q) := by
      unfold rcells
      rw [List.getElem?_map, List.getElem?_range (by simpa using hq), Option.map_some]
    have e2 : (rcells rs)[q]? = some (rcellAt rs q) := by
      unfold rcells
      rw [List.getElem?_map, List.getElem?_range hq, Option.map_some]
    rw [e1, List.getElem?_set]
    by_cases h0 : i * 2 + 1 = q
    · subst h0
      rw [if_pos rfl, if_pos (by rw [rcells_len]; exact hq)]
      unfold rcellAt
      rw [if_neg (by omega), show (i * 2 + 1) / 2 = i by omega, List.getD_eq_getElem?_getD, List.getElem?_set_self hlt]
      rfl
    · rw [if_neg h0, e2]
      unfold rcellAt
      by_cases h1 : q / 2 = i
      · rw [if_pos (by omega), if_pos (by omega), h1, List.getD_eq_getElem?_getD, List.getD_eq_getElem?_getD, List.getElem?_set_self hlt, h]
        simp [hL]
      · rw [List.getD_eq_getElem?_getD, List.getD_eq_getElem?_getD, List.getElem?_set_ne (Ne.symm h1)]
  · rw [List.getElem?_eq_none (by rw [List.length_set, rcells_len]; omega), List.getElem?_eq_none (by rw [rcells_len]; simpa using Nat.le_of_not_lt hq)]
theorem rcells_made (m : Nat) : (madeCells (Value.agg #[.slice none 0 0, .int .i64 0]).cells (m * 2)).toList = rcells (List.replicate m RWay.d) := by
  unfold madeCells rcells
  rw [Array.toList_map, Array.toList_range, List.length_replicate]
  refine List.map_congr_left fun q hq => ?_
  simp only [List.mem_range] at hq
  unfold rcellAt
  have hd : (List.replicate m RWay.d).getD (q / 2) RWay.d = RWay.d := by
    rw [List.getD_eq_getElem?_getD, List.getElem?_replicate]
    split <;> rfl
  rw [hd]
  show (#[Value.slice none 0 0, Value.int .i64 0] : Array Value)[q % 2]! = _
  rcases Nat.mod_two_eq_zero_or_one q with h | h
  · rw [h]; rfl
  · rw [h]; rfl
/-- The document's net stands: ways in one row of structs, each list a row of the net's own. -/
structure RNetAt (w : World) (B gr gb : Nat) (rs : List RWay) : Prop where
  row : Row w 156 gr [.slice (some ⟨gb, 0, none⟩) rs.length rs.length]
  rows : Row w 161 gb (rcells rs)
  lo : B ≤ gr ∧ B ≤ gb
  own : ∀ r ∈ rs, w.ownsRow B 35 1 r.L r.fs.length (r.fs.map (·.1))
  frames : ∀ r ∈ rs, ∀ p ∈ r.fs, ByV w p.1 p.2
  gone : ∀ r ∈ rs, r.gone ≤ r.fs.length
  few : ∀ r ∈ rs, r.fs.length ≤ 200
  apart : ∀ (i j : Nat) (r r' : RWay), rs[i]? = some r → rs[j]? = some r' → i ≠ j → ∀ k ∈ r.L.ownBlock.toList, k ∉ r'.L.ownBlock.toList
def rblocks (gr gb : Nat) (rs : List RWay) : List Nat := gr :: gb :: rs.flatMap fun r => r.L.ownBlock.toList
theorem RNetAt.buts {w w' : World} {B gr gb : Nat} {rs : List RWay} {S : List Nat} (h : RNetAt w B gr gb rs) (hb : Buts S w w') (hS : ∀ k ∈ rblocks gr gb rs, k ∉ S) (hN : ∀ k ∈ S, NotBy w k) : RNetAt w' B gr gb rs :=
  ⟨h.row.buts hb (hS _ (by simp [rblocks])), h.rows.buts hb (hS _ (by simp [rblocks])), h.lo, fun r hr => own_buts (h.own r hr) hb (fun k hk => hS k (by simp only [rblocks, List.mem_cons, List.mem_flatMap]; exact .inr (.inr ⟨r, hr, hk⟩))), fun r hr p hp => (h.frames r hr p hp).buts hb hN, h.gone, h.few, h.apart⟩
theorem RNetAt.later {w w' : World} {B gr gb : Nat} {rs : List RWay} (h : RNetAt w B gr gb rs) (hb : Below w.heap.size w w') : RNetAt w' B gr gb rs := h.buts (Buts.of hb []) (fun k _ => by simp) (by simp)
theorem RNetAt.lt {w : World} {B gr gb : Nat} {rs : List RWay} (h : RNetAt w B gr gb rs) : ∀ k ∈ rblocks gr gb rs, B ≤ k ∧ k < w.heap.size := by
  intro k hk
  simp only [rblocks, List.mem_cons, List.mem_flatMap] at hk
  rcases hk with rfl | rfl | ⟨r, hr, hk⟩
  · exact ⟨h.lo.1, h.row.lt⟩
  · exact ⟨h.lo.2, h.rows.lt⟩
  · have := own_lo (h.own r hr) k hk
    exact ⟨this.1, this.2.1⟩
set_option maxRecDepth 100000 in
theorem is_in (w : World) (B gr gb : Nat) (rs : List RWay) (h : RNetAt w B gr gb rs) (i : Nat) (hi : i < rs.length) : Calls Try.prog 107 #[ptr gr, .int .i64 i] w fun e w' => e = .returned (.bool true) ∧ w = w' := by
  have c0 := h.row.cell (j := 0) (v := .slice (some ⟨gb, 0, none⟩) rs.length rs.length) rfl
  have hd : decide ((i : Int) < (rs.length : Int)) = true := by simp; omega
  have hd0 : decide ((0 : Int) ≤ (i : Int)) = true := by simp
  generalize rs.length = m at *
  clear h
  go_enter Try.func107, Try.ntmps107
  go_wp2_with fail
  go_ret
  exact ⟨rfl, rfl⟩
set_option maxRecDepth 100000 in
theorem is_low (w : World) (v : Value) (i : Int) (hi : i < 0) : Calls Try.prog 107 #[v, .int .i64 i] w fun e w' => e = .returned (.bool false) ∧ w = w' := by
  have hd0 : decide ((0 : Int) ≤ i) = false := by simp; omega
  go_enter Try.func107, Try.ntmps107
  go_wp2_with fail
  go_ret
  exact ⟨rfl, rfl⟩
set_option maxRecDepth 100000 in
theorem is_high (w : World) (B gr gb : Nat) (rs : List RWay) (h : RNetAt w B gr gb rs) (i : Int) (hi : (rs.length : Int) ≤ i) : Calls Try.prog 107 #[ptr gr, .int .i64 i] w fun e w' => e = .returned (.bool false) ∧ w = w' := by
  have c0 := h.row.cell (j := 0) (v := .slice (some ⟨gb, 0, none⟩) rs.length rs.length) rfl
  have hd : decide (i < (rs.length : Int)) = false := by simp; omega
  have hd0 : decide ((0 : Int) ≤ i) = true := by simp; omega
  generalize rs.length = m at *
  clear h
  go_enter Try.func107, Try.ntmps107
  go_wp2_with fail
  go_ret
  exact ⟨rfl, rfl⟩
end Go.Proofs.Ytlihoijbfffjcaa

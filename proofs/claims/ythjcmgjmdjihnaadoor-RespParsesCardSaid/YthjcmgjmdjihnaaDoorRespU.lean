/-
  The document's count of a line. Contracts. Own work.
-/
import Derived.Test.YthjcmgjmdjihnaaDoorRespP
namespace Go.Proofs.YthjcmgjmdjihnaaDoor
open Go.RowKit Go.Shelf
set_option linter.unusedVariables false
set_option linter.unusedSimpArgs false
def oInt : Option Nat → Int
  | some i => (i : Int)
  | none => -1
theorem find_is {L : Wd} {i : Nat} (h1 : L[i]? = some 10) (h2 : ∀ j, j < i → L[j]? ≠ some 10) : L.findIdx? (· == 10) = some i := by
  obtain ⟨hi, he⟩ := List.getElem?_eq_some_iff.1 h1
  rw [List.findIdx?_eq_some_iff_getElem]
  refine ⟨hi, by rw [he]; rfl, fun j hj => ?_⟩
  have := h2 j hj
  rw [List.getElem?_eq_getElem (by omega)] at this
  simpa using this
theorem find_no {L : Wd} (h : ∀ j, j < L.length → L[j]? ≠ some 10) : L.findIdx? (· == 10) = none := by
  rw [List.findIdx?_eq_none_iff]
  intro x hx
  obtain ⟨j, hj⟩ := List.getElem?_of_mem hx
  have := h j (List.getElem?_eq_some_iff.1 hj).1
  rw [hj] at this
  simpa using this
set_option maxRecDepth 100000 in
theorem rfind_any (L : Wd) (w : World) (hl : L.length ≤ 100) : Calls Tryd.prog 33 #[encStr L] w fun e w' => e = .returned (.int .i64 (oInt (L.findIdx? (· == 10)))) ∧ w = w' := by
  go_enter Tryd.func33, Tryd.ntmps33
  go_wp2_with fail
  go_loopw [3] (fun iv wr => ∃ i : Nat, i ≤ L.length ∧ iv = .int .i64 (i : Int) ∧ (∀ j, j < i → L[j]? ≠ some 10) ∧ w = wr) (fun iv _ => 200 - (intOf iv).toNat)
  case atStart => exact ⟨0, by omega, rfl, fun j hj => by omega, (by first | rfl | trivial)⟩
  case round =>
    obtain ⟨i, hi, rfl, hno, rfl⟩ := hrel
    have hno9 := hide hno
    clear hno
    by_cases hlt : i < L.length
    · have hltI : (i : Int) < (L.length : Int) := by omega
      obtain ⟨c, hc⟩ : ∃ c, L[i]? = some c := ⟨_, List.getElem?_eq_getElem hlt⟩
      by_cases h10 : c = 10
      · subst h10
        have hf := hide (find_is hc hno9.out)
        go_wp2_with (first
          | (with_reducible refine wl_run (o := ⟨some 6, _, _, _, _, _⟩) rfl (.int .i64 (L.length : Int)) (run_lenStr 9 (.tmp 5) L rfl Tryd.underlying9 rfl) ?_)
          | (with_reducible refine wl_run (o := ⟨some 12, _, _, _, _, _⟩) rfl (.int .u8 ((10 : UInt8).toNat : Int)) (run_idxStr 9 (.tmp 10) (.tmp 11) L i 10 rfl Tryd.underlying9 rfl rfl hc) ?_))
        go_ret
        exact ⟨by rw [hf.out]; rfl, rfl⟩
      · have hcI : ((c.toNat : Int) == 10) = false := by
          rw [beq_eq_false_iff_ne]
          intro h
          refine h10 (UInt8.toNat_inj.1 ?_)
          show c.toNat = 10
          omega
        go_wp2_with (first
          | (with_reducible refine wl_run (o := ⟨some 6, _, _, _, _, _⟩) rfl (.int .i64 (L.length : Int)) (run_lenStr 9 (.tmp 5) L rfl Tryd.underlying9 rfl) ?_)
          | (with_reducible refine wl_run (o := ⟨some 12, _, _, _, _, _⟩) rfl (.int .u8 (c.toNat : Int)) (run_idxStr 9 (.tmp 10) (.tmp 11) L i c rfl Tryd.underlying9 rfl rfl hc) ?_))
        go_roundw
        case rel =>
          refine ⟨i + 1, hlt, by go_num, fun j hj => ?_, (by first | rfl | trivial)⟩
          rcases Nat.lt_or_ge j i with h | h
          · exact hno9.out j h
          · obtain rfl : j = i := by omega
            rw [hc]; intro h; injection h with h; exact h10 h
        case measure => simp [intOf]; omega
    · obtain rfl : i = L.length := by omega
      have hf := hide (find_no hno9.out)
      go_wp2_with (first
          | (with_reducible refine wl_run (o := ⟨some 6, _, _, _, _, _⟩) rfl (.int .i64 (L.length : Int)) (run_lenStr 9 (.tmp 5) L rfl Tryd.underlying9 rfl) ?_))
      go_ret
      exact ⟨by rw [hf.out]; rfl, rfl⟩
def cntR (r : Except Nat (Nat × Wd)) : Nat × Wd × Nat :=
  match r with
  | .error e => (0, [], e)
  | .ok p => (p.1, p.2, 0)
theorem cnt_no {sg : UInt8} {most i : Nat} {s : Wd} (hq : nlAt s = some i) (h : ¬ LineOk sg s i) : cntL sg most s = .error 3 := by
  unfold cntL
  rw [hq]
  exact if_neg h
theorem intL_nil : (intL []).2 = false := by rfl
theorem num_len {s : Wd} {i : Nat} (hi : i < s.length) : ((s.take (i - 1)).drop 1).length = i - 2 := by
  rw [List.length_drop, List.length_take]; omega
/-- The document's line is the program's. -/
theorem line_ok {sg : UInt8} {s : Wd} {i : Nat} (hq : nlAt s = some i) : LineOk sg s i ↔ (3 ≤ i ∧ i ≤ 11 ∧ s.take 1 = [sg] ∧ (s.take (i + 1)).drop (i - 1) = [13, 10] ∧ (numAt s i).2 = true ∧ 0 ≤ (numAt s i).1) := by
  obtain ⟨h1, h2, h3, _⟩ := nlAt_some hq
  have ht : (s.take (i + 1)).drop (i - 1) = [13, 10] ↔ 1 ≤ i ∧ s[i - 1]? = some 13 := by
    constructor
    · intro h
      have hl := congrArg List.length h
      rw [List.length_drop, List.length_take] at hl
      simp at hl
      refine ⟨by omega, ?_⟩
      have := congrArg (·[0]?) h
      simp only [List.getElem?_drop, List.getElem?_take] at this
      rw [if_pos (by omega)] at this
      simpa using this
    · rintro ⟨hi, h⟩
      refine List.ext_getElem? fun k => ?_
      rw [List.getElem?_drop, List.getElem?_take]
      match k with
      | 0 => rw [if_pos (by omega)]; simpa using h
      | 1 => rw [if_pos (by omega), show i - 1 + 1 = i by omega, h3]; rfl
      | k + 2 => rw [if_neg (by omega)]; rfl
  have hh : s.take 1 = [sg] ↔ s[0]? = some sg := by
    cases s with
    | nil => simp at h2
    | cons a r => simp
  unfold LineOk
  rw [ht, hh]
  constructor
  · rintro ⟨q1, q2, q3, q4, q5, q6⟩
    have hne : ((s.take (i - 1)).drop 1).length ≠ 0 := by
      intro h0
      have := List.eq_nil_of_length_eq_zero h0
      unfold numAt at q4
      rw [this, intL_nil] at q4
      cases q4
    rw [num_len h2] at hne
    have h9 := (intL_nine q4 q5).2 q6
    rw [num_len h2] at h9
    exact ⟨by omega, by omega, q3, ⟨by omega, q2⟩, q4, q5⟩
  · rintro ⟨q1, q2, q3, ⟨_, q4⟩, q5, q6⟩
    refine ⟨by omega, q4, q3, q5, q6, (intL_nine q5 q6).1 ?_⟩
    rw [num_len h2]
    omega
end Go.Proofs.YthjcmgjmdjihnaaDoor

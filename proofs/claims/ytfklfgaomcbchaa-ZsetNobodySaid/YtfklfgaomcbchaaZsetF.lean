/-
  A set's order, and how many stand ahead of a member. Own work.
-/
import Derived.Test.YtfklfgaomcbchaaZsetD
namespace Go.Proofs.Ytfklfgaomcbchaa
open Go.RowKit Go.Shelf
set_option linter.unusedVariables false
set_option linter.unusedSimpArgs false
theorem before_trans : ∀ {a b c : Nm}, bytesBefore a b = true → bytesBefore b c = true → bytesBefore a c = true
  | [], [], _, h, _ => by simp [bytesBefore] at h
  | [], _ :: _, [], _, k => by simp [bytesBefore] at k
  | [], _ :: _, _ :: _, _, _ => by simp [bytesBefore]
  | _ :: _, [], _, h, _ => by simp [bytesBefore] at h
  | _ :: _, _ :: _, [], _, k => by simp [bytesBefore] at k
  | x :: r, y :: s, z :: t, h, k => by
    simp only [bytesBefore, Bool.or_eq_true, Bool.and_eq_true, decide_eq_true_eq, beq_iff_eq] at h k ⊢
    rcases h with h | ⟨rfl, h⟩
    · rcases k with k | ⟨rfl, k⟩
      · exact .inl (UInt8.lt_trans h k)
      · exact .inl h
    · rcases k with k | ⟨rfl, k⟩
      · exact .inl k
      · exact .inr ⟨rfl, before_trans h k⟩
theorem before_total : ∀ {a b : Nm}, bytesBefore a b = false → a ≠ b → bytesBefore b a = true
  | [], [], _, h => absurd rfl h
  | [], _ :: _, h, _ => by simp [bytesBefore] at h
  | _ :: _, [], _, _ => by simp [bytesBefore]
  | x :: r, y :: s, h, k => by
    simp only [bytesBefore, Bool.or_eq_false_iff, Bool.and_eq_false_iff, decide_eq_false_iff_not, beq_eq_false_iff_ne] at h
    simp only [bytesBefore, Bool.or_eq_true, Bool.and_eq_true, decide_eq_true_eq, beq_iff_eq]
    rcases Classical.em (y = x) with e | e
    · subst e
      rcases h.2 with h2 | h2
      · exact absurd rfl h2
      · exact .inr ⟨rfl, before_total h2 (fun q => k (by rw [q]))⟩
    · rcases UInt8.lt_or_lt_of_ne e with h1 | h1
      · exact .inl h1
      · exact absurd h1 h.1
theorem before_irrefl : ∀ a : Nm, bytesBefore a a = false
  | [] => rfl
  | x :: r => by simp [bytesBefore, before_irrefl r]
theorem before_asymm {a b : Nm} (h : bytesBefore a b = true) : bytesBefore b a = false := by
  cases hq : bytesBefore b a with
  | false => rfl
  | true =>
    have := before_trans h hq
    rw [before_irrefl] at this
    cases this
theorem Sc.less_iff (a b : Sc) : a.less b = true ↔ a.s < b.s ∨ (a.s = b.s ∧ bytesBefore a.m b.m = true) := by
  unfold Sc.less
  by_cases h : a.s = b.s
  · rw [if_pos h]
    constructor
    · exact fun e => .inr ⟨h, e⟩
    · rintro (e | e)
      · omega
      · exact e.2
  · rw [if_neg h]
    constructor
    · exact fun e => .inl (by simpa using e)
    · rintro (e | e)
      · simpa using e
      · exact absurd e.1 h
theorem Sc.less_trans {a b c : Sc} (h1 : a.less b = true) (h2 : b.less c = true) : a.less c = true := by
  rw [Sc.less_iff] at *
  rcases h1 with h1 | ⟨h1, k1⟩ <;> rcases h2 with h2 | ⟨h2, k2⟩
  · exact .inl (by omega)
  · exact .inl (by omega)
  · exact .inl (by omega)
  · exact .inr ⟨by omega, before_trans k1 k2⟩
theorem Sc.less_irrefl (a : Sc) : a.less a = false := by
  cases h : a.less a with
  | false => rfl
  | true =>
    rcases (Sc.less_iff a a).1 h with e | e
    · omega
    · rw [before_irrefl] at e; exact absurd e.2 (by decide)
theorem Sc.less_total {a b : Sc} (h : a.less b = false) (hne : a ≠ b) : b.less a = true := by
  have h1 : ¬ (a.s < b.s ∨ (a.s = b.s ∧ bytesBefore a.m b.m = true)) := fun e => by rw [(Sc.less_iff a b).2 e] at h; exact absurd h (by decide)
  rw [Sc.less_iff]
  by_cases e : a.s = b.s
  · refine .inr ⟨e.symm, before_total ?_ fun em => hne ?_⟩
    · cases h2 : bytesBefore a.m b.m with
      | false => rfl
      | true => exact absurd (.inr ⟨e, h2⟩) h1
    · cases a; cases b; simp_all
  · exact .inl (by omega)
/-- The members rise. -/
def Rising (L : List Sc) : Prop := L.Pairwise fun a b => a.less b = true
/-- How many stand ahead of a member. -/
def nAhead (x : Sc) (L : List Sc) : Nat := (L.takeWhile fun y => y.less x).length
theorem nAhead_le (x : Sc) (L : List Sc) : nAhead x L ≤ L.length := (List.takeWhile_sublist _).length_le
/-- In a rising list the i-th stands ahead of a member as far as i is below their number. -/
theorem ahead_iff {x : Sc} : ∀ {L : List Sc}, Rising L → ∀ (i : Nat) (y : Sc), L[i]? = some y → y.less x = decide (i < nAhead x L)
  | [], _, i, y, h => by simp at h
  | z :: r, hr, i, y, h => by
    have hr2 : Rising r := List.Pairwise.of_cons hr
    have hz := (List.pairwise_cons.1 hr).1
    cases hzx : z.less x with
    | true =>
      have e : nAhead x (z :: r) = nAhead x r + 1 := by unfold nAhead; simp [List.takeWhile_cons, hzx]
      match i with
      | 0 =>
        have e2 : z = y := by simpa using h
        subst e2
        rw [hzx, e]; simp
      | i + 1 =>
        have h2 : r[i]? = some y := by simpa using h
        rw [ahead_iff hr2 i y h2, e]
        simp
    | false =>
      have e : nAhead x (z :: r) = 0 := by unfold nAhead; simp [List.takeWhile_cons, hzx]
      rw [e]
      have hlt : ¬ i < 0 := by omega
      rw [decide_eq_false hlt]
      match i with
      | 0 =>
        have e2 : z = y := by simpa using h
        subst e2; exact hzx
      | i + 1 =>
        have h2 : r[i]? = some y := by simpa using h
        have h3 := hz y (List.mem_of_getElem? h2)
        cases h4 : y.less x with
        | false => rfl
        | true => rw [Sc.less_trans h3 h4] at hzx; exact absurd hzx (by decide)
end Go.Proofs.Ytfklfgaomcbchaa

/-
  Commands in bytes: what is left is the end of what came; what a parser does, step by step. Plain mathematics. Own work.
-/
import Derived.Test.YthjcmgjmdjihnaaDoorRespM
namespace Go.Proofs.YthjcmgjmdjihnaaDoor
set_option linter.unusedVariables false
open Go.Lib
theorem cntL_suf {sg : UInt8} {most k : Nat} {s r : List UInt8} (h : cntL sg most s = .ok (k, r)) : r <:+ s := by
  unfold cntL at h
  split at h
  · cases h
  · split at h
    · split at h
      · cases h
      · cases h
        exact List.drop_suffix _ _
    · cases h
theorem textL_suf {k : Nat} {s a r : List UInt8} (h : textL k s = .ok (a, r)) : r <:+ s := by
  unfold textL at h
  split at h
  · cases h
  · split at h
    · cases h
      exact List.drop_suffix _ _
    · cases h
theorem wordL_suf {s a r : List UInt8} (h : wordL s = .ok (a, r)) : r <:+ s := by
  rcases bindE_inv h with ⟨e, _, h⟩ | ⟨k, q, hq, h⟩
  · cases h
  · exact (textL_suf h).trans (cntL_suf hq)
theorem wordsL_suf : ∀ (n : Nat) {s : List UInt8} {l : List (List UInt8)} {r : List UInt8}, wordsL n s = .ok (l, r) → r <:+ s
  | 0, s, l, r, h => by cases h; exact List.suffix_refl _
  | n + 1, s, l, r, h => by
    rcases bindE_inv (show bindE _ _ s = _ from h) with ⟨e, _, h⟩ | ⟨a, q, hq, h⟩
    · cases h
    · rcases bindE_inv h with ⟨e, _, h⟩ | ⟨l', r', hr, h⟩
      · cases h
      · cases h
        exact (wordsL_suf n hr).trans (wordL_suf hq)
theorem cmdL_suf {s : List UInt8} {l : List (List UInt8)} {r : List UInt8} (h : cmdL s = .ok (l, r)) : r <:+ s := by
  rcases bindE_inv h with ⟨e, _, h⟩ | ⟨n, q, hq, h⟩
  · cases h
  · exact (wordsL_suf n h).trans (cntL_suf hq)
theorem pars_suf (s : List UInt8) : (pars s).2.1 <:+ s := by
  suffices h : ∀ (N : Nat) (s : List UInt8), s.length ≤ N → (pars s).2.1 <:+ s from h _ s (Nat.le_refl _)
  intro N
  induction N with
  | zero =>
    intro s hs
    obtain rfl : s = [] := List.eq_nil_of_length_eq_zero (by omega)
    exact List.suffix_refl _
  | succ N ih =>
    intro s hs
    cases hq : cmdL s with
    | error e => rw [pars_err hq]; exact List.suffix_refl _
    | ok p =>
      obtain ⟨ws, r⟩ := p
      have hl := (cmdL_less hq).1
      rw [pars_ok hq]
      exact (ih r (by omega)).trans (cmdL_suf hq)
theorem pars_drop (s : List UInt8) : s.drop (s.length - (pars s).2.1.length) = (pars s).2.1 := (List.suffix_iff_eq_drop.1 (pars_suf s)).symm
/-- How many commands there can be. -/
theorem pars_count (s : List UInt8) : (pars s).1.length ≤ s.length := by
  suffices h : ∀ (N : Nat) (s : List UInt8), s.length ≤ N → (pars s).1.length ≤ s.length from h _ s (Nat.le_refl _)
  intro N
  induction N with
  | zero =>
    intro s hs
    obtain rfl : s = [] := List.eq_nil_of_length_eq_zero (by omega)
    exact Nat.le_refl _
  | succ N ih =>
    intro s hs
    cases hq : cmdL s with
    | error e => rw [pars_err hq]; exact Nat.zero_le _
    | ok p =>
      obtain ⟨ws, r⟩ := p
      have hl := (cmdL_less hq).1
      have := ih r (by omega)
      rw [pars_ok hq]
      simp only
      split
      · omega
      · simp; omega
theorem pars_short (s : List UInt8) : ∀ l ∈ (pars s).1, l.length ≤ 40 := by
  suffices h : ∀ (N : Nat) (s : List UInt8), s.length ≤ N → ∀ l ∈ (pars s).1, l.length ≤ 40 from h _ s (Nat.le_refl _)
  intro N
  induction N with
  | zero =>
    intro s hs
    obtain rfl : s = [] := List.eq_nil_of_length_eq_zero (by omega)
    intro l hl
    cases hl
  | succ N ih =>
    intro s hs
    cases hq : cmdL s with
    | error e => rw [pars_err hq]; intro l hl; cases hl
    | ok p =>
      obtain ⟨ws, r⟩ := p
      have hl := cmdL_less hq
      have := ih r (by omega)
      rw [pars_ok hq]
      simp only
      split
      · exact this
      · intro l hm
        rcases List.mem_cons.1 hm with rfl | hm
        · exact hl.2
        · exact this l hm
/-- What a parser tells of bytes that come: the commands, what is left, the fault. -/
def feedL (l : List UInt8) (f : Nat) (b : List UInt8) : List (List (List UInt8)) × List UInt8 × Nat :=
  if f = 0 then ((pars (l ++ b)).1, if (pars (l ++ b)).2.2 = 0 then ((pars (l ++ b)).2.1, 0) else ([], (pars (l ++ b)).2.2)) else ([], l, f)
theorem feed_fault {l : List UInt8} {f : Nat} {b : List UInt8} (h : f ≠ 0) : feedL l f b = ([], l, f) := if_neg h
theorem feed_err {l b : List UInt8} (h : (pars (l ++ b)).2.2 ≠ 0) : feedL l 0 b = ((pars (l ++ b)).1, [], (pars (l ++ b)).2.2) := by
  unfold feedL
  rw [if_pos rfl, if_neg h]
theorem feed_ok {l b : List UInt8} (h : (pars (l ++ b)).2.2 = 0) : feedL l 0 b = ((pars (l ++ b)).1, (pars (l ++ b)).2.1, 0) := by
  unfold feedL
  rw [if_pos rfl, if_pos h]
/-- How a parser stands behind all bytes. -/
def Fed (all : List UInt8) (l : List UInt8) (f : Nat) : Prop := f = (pars all).2.2 ∧ l = if f = 0 then (pars all).2.1 else []
theorem fed_start : Fed [] [] 0 := ⟨rfl, rfl⟩
theorem fed_step {all l b : List UInt8} {f : Nat} (h : Fed all l f) : Fed (all ++ b) (feedL l f b).2.1 (feedL l f b).2.2 ∧ (pars (all ++ b)).1 = (pars all).1 ++ (feedL l f b).1 := by
  obtain ⟨h1, h2⟩ := h
  obtain ⟨p1, p2⟩ := pars_app _ all b (Nat.le_refl _)
  by_cases h0 : f = 0
  · subst h0
    rw [if_pos rfl] at h2
    have q := p1 h1.symm
    rw [← h2] at q
    rw [q]
    by_cases he : (pars (l ++ b)).2.2 = 0
    · rw [feed_ok he]
      refine ⟨⟨?_, ?_⟩, rfl⟩
      · rw [q]; exact he.symm
      · rw [if_pos rfl, q]
    · rw [feed_err he]
      refine ⟨⟨?_, ?_⟩, rfl⟩
      · rw [q]
      · rw [if_neg he]
  · rw [if_neg h0] at h2
    have q := p2 (by rw [← h1]; exact h0)
    rw [feed_fault h0, q]
    refine ⟨⟨?_, ?_⟩, by simp⟩
    · rw [q]; exact h1
    · rw [if_neg h0]; exact h2
theorem feed_len {l b : List UInt8} {f : Nat} : (feedL l f b).2.1.length ≤ l.length + b.length := by
  unfold feedL
  have := pars_len (l ++ b)
  rw [List.length_append] at this
  split
  · split
    · exact this
    · exact Nat.zero_le _
  · simp
theorem pars_e (s : List UInt8) : (pars s).2.2 = 0 ∨ (pars s).2.2 = 3 ∨ (pars s).2.2 = 5 := by
  suffices h : ∀ (N : Nat) (s : List UInt8), s.length ≤ N → (pars s).2.2 = 0 ∨ (pars s).2.2 = 3 ∨ (pars s).2.2 = 5 from h _ s (Nat.le_refl _)
  intro N
  induction N with
  | zero =>
    intro s hs
    obtain rfl : s = [] := List.eq_nil_of_length_eq_zero (by omega)
    exact .inl rfl
  | succ N ih =>
    intro s hs
    cases hq : cmdL s with
    | error e =>
      rw [pars_err hq]
      have := cmdL_err hq
      simp only
      split
      · exact .inl rfl
      · rename_i h4
        omega
    | ok p =>
      obtain ⟨ws, r⟩ := p
      have hl := (cmdL_less hq).1
      rw [pars_ok hq]
      exact ih r (by omega)
end Go.Proofs.YthjcmgjmdjihnaaDoor

/-
  Commands in bytes: what a parser tells of any bytes. Plain mathematics. Own work.
-/
import Derived.Test.YthjcmgjmdjihnaaDoorVerbN
namespace Go.Proofs.YthjcmgjmdjihnaaDoor
set_option linter.unusedVariables false
open Go.Lib
/-- Where the first byte 10 stands, among the first sixteen. -/
def nlAt (s : List UInt8) : Option Nat := (s.take 16).findIdx? (· == 10)
theorem nlAt_some {s : List UInt8} {i : Nat} (h : nlAt s = some i) : i < 16 ∧ i < s.length ∧ s[i]? = some 10 ∧ ∀ j, j < i → s[j]? ≠ some 10 := by
  unfold nlAt at h
  rw [List.findIdx?_eq_some_iff_getElem] at h
  obtain ⟨hi, h1, h2⟩ := h
  have hl : i < 16 ∧ i < s.length := by rw [List.length_take] at hi; omega
  refine ⟨hl.1, hl.2, ?_, fun j hj he => ?_⟩
  · rw [List.getElem_take] at h1
    rw [List.getElem?_eq_getElem hl.2]
    simpa using h1
  · have h3 := h2 j hj
    rw [List.getElem_take] at h3
    rw [List.getElem?_eq_getElem (by omega)] at he
    injection he with he
    rw [he] at h3
    simp at h3
theorem nlAt_is {s : List UInt8} {i : Nat} (h16 : i < 16) (h1 : s[i]? = some 10) (h2 : ∀ j, j < i → s[j]? ≠ some 10) : nlAt s = some i := by
  have hl : i < s.length := (List.getElem?_eq_some_iff.1 h1).1
  unfold nlAt
  rw [List.findIdx?_eq_some_iff_getElem]
  refine ⟨by rw [List.length_take]; omega, ?_, fun j hj => ?_⟩
  · rw [List.getElem_take, (List.getElem?_eq_some_iff.1 h1).2]
    rfl
  · rw [List.getElem_take]
    have := h2 j hj
    rw [List.getElem?_eq_getElem (by omega)] at this
    simp only [beq_iff_eq]
    intro e
    exact this (by rw [e])
theorem nlAt_none {s : List UInt8} (h : nlAt s = none) : ∀ j, j < 16 → s[j]? ≠ some 10 := by
  intro j hj he
  unfold nlAt at h
  rw [List.findIdx?_eq_none_iff] at h
  have hl : j < s.length := (List.getElem?_eq_some_iff.1 he).1
  have := h 10 (by
    rw [List.mem_iff_getElem?]
    refine ⟨j, ?_⟩
    rw [List.getElem?_take, if_pos hj, he])
  simp at this
theorem nlAt_no {s : List UInt8} (h : ∀ j, j < 16 → s[j]? ≠ some 10) : nlAt s = none := by
  cases hq : nlAt s with
  | none => rfl
  | some i =>
    obtain ⟨h1, _, h2, _⟩ := nlAt_some hq
    exact absurd h2 (h i h1)
theorem nlAt_app {s t : List UInt8} {i : Nat} (h : nlAt s = some i) : nlAt (s ++ t) = some i := by
  obtain ⟨h1, h2, h3, h4⟩ := nlAt_some h
  refine nlAt_is h1 (by rw [List.getElem?_append_left h2]; exact h3) fun j hj => ?_
  rw [List.getElem?_append_left (by omega)]
  exact h4 j hj
theorem nlAt_app0 {s t : List UInt8} (h : nlAt s = none) (hl : 16 ≤ s.length) : nlAt (s ++ t) = none := by
  refine nlAt_no fun j hj => ?_
  rw [List.getElem?_append_left (by omega)]
  exact nlAt_none h j hj
/-- The number of a line. -/
def numAt (s : List UInt8) (i : Nat) : Int × Bool := intL ((s.take (i - 1)).drop 1)
/-- Is this a line with a number behind this sign? -/
def LineOk (sg : UInt8) (s : List UInt8) (i : Nat) : Prop := 2 ≤ i ∧ s[i - 1]? = some 13 ∧ s[0]? = some sg ∧ (numAt s i).2 = true ∧ 0 ≤ (numAt s i).1 ∧ (numAt s i).1 ≤ 999999999
instance (sg : UInt8) (s : List UInt8) (i : Nat) : Decidable (LineOk sg s i) := by unfold LineOk; infer_instance
def cntL (sg : UInt8) (most : Nat) (s : List UInt8) : Except Nat (Nat × List UInt8) :=
  match nlAt s with
  | none => .error (if s.length < 16 then 4 else 3)
  | some i => if LineOk sg s i then (if most < (numAt s i).1.toNat then .error 5 else .ok ((numAt s i).1.toNat, s.drop (i + 1))) else .error 3
def textL (k : Nat) (s : List UInt8) : Except Nat (List UInt8 × List UInt8) :=
  if s.length < k + 2 then .error 4 else if s[k]? = some 13 ∧ s[k + 1]? = some 10 then .ok (s.take k, s.drop (k + 2)) else .error 3
def bindE {α β : Type} (f : List UInt8 → Except Nat (α × List UInt8)) (g : α → List UInt8 → Except Nat (β × List UInt8)) (s : List UInt8) : Except Nat (β × List UInt8) :=
  match f s with
  | .error e => .error e
  | .ok p => g p.1 p.2
theorem bindE_ok {α β : Type} {f : List UInt8 → Except Nat (α × List UInt8)} {g : α → List UInt8 → Except Nat (β × List UInt8)} {s r : List UInt8} {a : α} (h : f s = .ok (a, r)) : bindE f g s = g a r := by
  unfold bindE; rw [h]
theorem bindE_err {α β : Type} {f : List UInt8 → Except Nat (α × List UInt8)} {g : α → List UInt8 → Except Nat (β × List UInt8)} {s : List UInt8} {e : Nat} (h : f s = .error e) : bindE f g s = .error e := by
  unfold bindE; rw [h]
theorem bindE_inv {α β : Type} {f : List UInt8 → Except Nat (α × List UInt8)} {g : α → List UInt8 → Except Nat (β × List UInt8)} {s : List UInt8} {b : Except Nat (β × List UInt8)} (h : bindE f g s = b) :
    (∃ e, f s = .error e ∧ b = .error e) ∨ ∃ a r, f s = .ok (a, r) ∧ g a r = b := by
  unfold bindE at h
  cases hq : f s with
  | error e => rw [hq] at h; exact .inl ⟨e, rfl, h.symm⟩
  | ok p => rw [hq] at h; exact .inr ⟨p.1, p.2, rfl, h⟩
def wordL : List UInt8 → Except Nat (List UInt8 × List UInt8) := bindE (cntL 36 512) textL
def wordsL : Nat → List UInt8 → Except Nat (List (List UInt8) × List UInt8)
  | 0, s => .ok ([], s)
  | n + 1, s => bindE wordL (fun a => bindE (wordsL n) fun l q => .ok (a :: l, q)) s
def cmdL : List UInt8 → Except Nat (List (List UInt8) × List UInt8) := bindE (cntL 42 40) wordsL
/-- What is told of bytes stays so, whatever comes behind. -/
def Stays {α : Type} (f : List UInt8 → Except Nat (α × List UInt8)) : Prop :=
  ∀ s t, (∀ a r, f s = .ok (a, r) → f (s ++ t) = .ok (a, r ++ t)) ∧ (∀ e, f s = .error e → e ≠ 4 → f (s ++ t) = .error e)
theorem get_app {s t : List UInt8} {i : Nat} (h : i < s.length) : (s ++ t)[i]? = s[i]? := List.getElem?_append_left h
theorem numAt_app {s t : List UInt8} {i : Nat} (h : i - 1 ≤ s.length) : numAt (s ++ t) i = numAt s i := by
  unfold numAt
  rw [List.take_append_of_le_length h]
theorem cntL_stays (sg : UInt8) (most : Nat) : Stays (cntL sg most) := by
  intro s t
  unfold cntL
  cases hq : nlAt s with
  | none =>
    refine ⟨(fun a r h => by cases h), fun e h h4 => ?_⟩
    simp only at h
    injection h with h
    have hl : 16 ≤ s.length := by
      rcases Nat.lt_or_ge s.length 16 with h1 | h1
      · rw [if_pos h1] at h; exact absurd h.symm h4
      · exact h1
    rw [if_neg (by omega)] at h
    rw [nlAt_app0 hq hl]
    simp only [List.length_append]
    rw [if_neg (by omega), h]
  | some i =>
    obtain ⟨h1, h2, h3, h4⟩ := nlAt_some hq
    rw [nlAt_app hq]
    simp only
    have e : LineOk sg (s ++ t) i ↔ LineOk sg s i := by
      unfold LineOk
      rw [get_app (by omega), get_app (by omega), numAt_app (by omega)]
    rw [numAt_app (by omega)]
    by_cases hk : LineOk sg s i
    · rw [if_pos hk, if_pos (e.2 hk)]
      by_cases hm : most < (numAt s i).1.toNat
      · rw [if_pos hm, if_pos hm]
        exact ⟨(fun a r h => by cases h), fun e h _ => h⟩
      · rw [if_neg hm, if_neg hm]
        refine ⟨fun a r h => ?_, (fun e h => by cases h)⟩
        cases h
        rw [List.drop_append_of_le_length (by omega)]
    · rw [if_neg hk, if_neg (fun h => hk (e.1 h))]
      exact ⟨(fun a r h => by cases h), fun e h _ => h⟩
theorem cntL_less {sg : UInt8} {most k : Nat} {s r : List UInt8} (h : cntL sg most s = .ok (k, r)) : r.length + 3 ≤ s.length ∧ k ≤ most := by
  unfold cntL at h
  split at h
  · cases h
  · rename_i i hq
    split at h
    · rename_i hk
      split at h
      · cases h
      · rename_i hm
        cases h
        obtain ⟨h1, h2, _⟩ := nlAt_some hq
        have := hk.1
        rw [List.length_drop]
        omega
    · cases h
theorem textL_stays (k : Nat) : Stays (textL k) := by
  intro s t
  unfold textL
  by_cases h1 : s.length < k + 2
  · rw [if_pos h1]
    exact ⟨(fun a r h => by cases h), fun e h h4 => by cases h; exact absurd rfl h4⟩
  · rw [if_neg h1, if_neg (show ¬ (s ++ t).length < k + 2 by rw [List.length_append]; omega), get_app (by omega), get_app (by omega)]
    split
    · refine ⟨fun a r h => ?_, (fun e h => by cases h)⟩
      cases h
      rw [List.drop_append_of_le_length (by omega), List.take_append_of_le_length (by omega)]
    · exact ⟨(fun a r h => by cases h), fun e h _ => h⟩
theorem textL_less {k : Nat} {s a r : List UInt8} (h : textL k s = .ok (a, r)) : r.length + 2 ≤ s.length := by
  unfold textL at h
  split at h
  · cases h
  · split at h
    · cases h
      rw [List.length_drop]; omega
    · cases h
theorem Stays.bind {α β : Type} {f : List UInt8 → Except Nat (α × List UInt8)} {g : α → List UInt8 → Except Nat (β × List UInt8)} (hf : Stays f) (hg : ∀ a, Stays (g a)) : Stays (bindE f g) := by
  intro s t
  obtain ⟨h1, h2⟩ := hf s t
  cases hq : f s with
  | error e =>
    rw [bindE_err hq]
    refine ⟨(fun a r h => by cases h), fun e' h h4 => ?_⟩
    cases h
    rw [bindE_err (h2 _ hq h4)]
  | ok p =>
    obtain ⟨a, r⟩ := p
    rw [bindE_ok hq, bindE_ok (h1 _ _ hq)]
    exact hg a r t
theorem wordL_stays : Stays wordL := (cntL_stays 36 512).bind textL_stays
theorem wordL_less {s a r : List UInt8} (h : wordL s = .ok (a, r)) : r.length + 5 ≤ s.length := by
  rcases bindE_inv h with ⟨e, _, h⟩ | ⟨k, q, hq, h⟩
  · cases h
  · have := cntL_less hq
    have := textL_less h
    omega
theorem wordsL_stays : ∀ n, Stays (wordsL n)
  | 0 => fun s t => ⟨(fun a r h => by cases h; rfl), (fun e h => by cases h)⟩
  | n + 1 => wordL_stays.bind fun a => (wordsL_stays n).bind fun l s t => ⟨(fun _ _ h => by cases h; rfl), (fun e h => by cases h)⟩
theorem wordsL_less : ∀ (n : Nat) {s : List UInt8} {l : List (List UInt8)} {r : List UInt8}, wordsL n s = .ok (l, r) → r.length ≤ s.length ∧ l.length = n
  | 0, s, l, r, h => by cases h; exact ⟨Nat.le_refl _, rfl⟩
  | n + 1, s, l, r, h => by
    rcases bindE_inv (show bindE _ _ s = _ from h) with ⟨e, _, h⟩ | ⟨a, q, hq, h⟩
    · cases h
    · rcases bindE_inv h with ⟨e, _, h⟩ | ⟨l', r', hr, h⟩
      · cases h
      · cases h
        have := wordL_less hq
        have h2 := wordsL_less n hr
        simp; omega
theorem cmdL_stays : Stays cmdL := (cntL_stays 42 40).bind wordsL_stays
theorem cmdL_less {s : List UInt8} {l : List (List UInt8)} {r : List UInt8} (h : cmdL s = .ok (l, r)) : r.length < s.length ∧ l.length ≤ 40 := by
  rcases bindE_inv h with ⟨e, _, h⟩ | ⟨n, q, hq, h⟩
  · cases h
  · have := cntL_less hq
    have := wordsL_less n h
    omega
theorem cntL_err {sg : UInt8} {most e : Nat} {s : List UInt8} (h : cntL sg most s = .error e) : e = 3 ∨ e = 4 ∨ e = 5 := by
  unfold cntL at h
  split at h
  · injection h with h
    subst h
    split <;> simp
  · split at h
    · split at h
      · cases h; simp
      · cases h
    · cases h; simp
theorem textL_err {k e : Nat} {s : List UInt8} (h : textL k s = .error e) : e = 3 ∨ e = 4 ∨ e = 5 := by
  unfold textL at h
  split at h
  · cases h; simp
  · split at h
    · cases h
    · cases h; simp
theorem wordL_err {e : Nat} {s : List UInt8} (h : wordL s = .error e) : e = 3 ∨ e = 4 ∨ e = 5 := by
  rcases bindE_inv h with ⟨e', hq, h⟩ | ⟨n, q, hq, h⟩
  · cases h; exact cntL_err hq
  · exact textL_err h
theorem wordsL_err : ∀ (n : Nat) {e : Nat} {s : List UInt8}, wordsL n s = .error e → e = 3 ∨ e = 4 ∨ e = 5
  | 0, e, s, h => by cases h
  | n + 1, e, s, h => by
    rcases bindE_inv (show bindE _ _ s = _ from h) with ⟨e', hq, h⟩ | ⟨a, q, hq, h⟩
    · cases h; exact wordL_err hq
    · rcases bindE_inv h with ⟨e', hq, h⟩ | ⟨l', r', hr, h⟩
      · cases h; exact wordsL_err n hq
      · cases h
theorem cmdL_err {e : Nat} {s : List UInt8} (h : cmdL s = .error e) : e = 3 ∨ e = 4 ∨ e = 5 := by
  rcases bindE_inv h with ⟨e', hq, h⟩ | ⟨n, q, hq, h⟩
  · cases h; exact cntL_err hq
  · exact wordsL_err _ h
/-- The commands, what is left, and the fault. -/
def parF : Nat → List UInt8 → List (List (List UInt8)) × List UInt8 × Nat
  | 0, s => ([], s, 0)
  | f + 1, s =>
    match cmdL s with
    | .error e => ([], s, if e = 4 then 0 else e)
    | .ok (ws, r) => ((if ws = [] then (parF f r).1 else ws :: (parF f r).1), (parF f r).2)
theorem parF_fuel : ∀ (f g : Nat) (s : List UInt8), s.length < f → s.length < g → parF f s = parF g s
  | 0, _, s, h, _ => absurd h (by omega)
  | f + 1, 0, s, _, h => absurd h (by omega)
  | f + 1, g + 1, s, hf, hg => by
    simp only [parF]
    cases hq : cmdL s with
    | error e => rfl
    | ok p =>
      obtain ⟨ws, r⟩ := p
      have := (cmdL_less hq).1
      simp only
      rw [parF_fuel f g r (by omega) (by omega)]
def pars (s : List UInt8) : List (List (List UInt8)) × List UInt8 × Nat := parF (s.length + 1) s
theorem pars_err {s : List UInt8} {e : Nat} (h : cmdL s = .error e) : pars s = ([], s, if e = 4 then 0 else e) := by
  unfold pars parF
  rw [h]
theorem pars_ok {s r : List UInt8} {ws : List (List UInt8)} (h : cmdL s = .ok (ws, r)) : pars s = ((if ws = [] then (pars r).1 else ws :: (pars r).1), (pars r).2) := by
  have := (cmdL_less h).1
  conv => lhs; unfold pars parF
  rw [h]
  simp only
  rw [parF_fuel s.length (r.length + 1) r (by omega) (by omega)]
  rfl
/-- Bytes that come behind: without a fault they are parsed behind what was left; a fault stays. -/
theorem pars_app : ∀ (N : Nat) (s t : List UInt8), s.length ≤ N →
    ((pars s).2.2 = 0 → pars (s ++ t) = ((pars s).1 ++ (pars ((pars s).2.1 ++ t)).1, (pars ((pars s).2.1 ++ t)).2)) ∧
    ((pars s).2.2 ≠ 0 → pars (s ++ t) = ((pars s).1, (pars s).2.1 ++ t, (pars s).2.2)) := by
  intro N
  induction N with
  | zero =>
    intro s t hs
    obtain rfl : s = [] := List.eq_nil_of_length_eq_zero (by omega)
    have e : pars [] = ([], [], 0) := by rfl
    rw [e]
    exact ⟨fun _ => rfl, fun h => absurd rfl h⟩
  | succ N ih =>
    intro s t hs
    obtain ⟨h1, h2⟩ := cmdL_stays s t
    cases hq : cmdL s with
    | error e =>
      rw [pars_err hq]
      by_cases h4 : e = 4
      · rw [if_pos h4]
        exact ⟨fun _ => rfl, fun h => absurd rfl h⟩
      · rw [if_neg h4]
        refine ⟨fun h => ?_, fun _ => ?_⟩
        · simp only at h
          have := cmdL_err hq
          omega
        · rw [pars_err (h2 _ hq h4), if_neg h4]
    | ok p =>
      obtain ⟨ws, r⟩ := p
      have hl := (cmdL_less hq).1
      rw [pars_ok hq, pars_ok (h1 _ _ hq)]
      obtain ⟨i1, i2⟩ := ih r t (by omega)
      refine ⟨fun h => ?_, fun h => ?_⟩
      · rw [i1 h]
        simp only
        split <;> rfl
      · rw [i2 h]
theorem pars_len (s : List UInt8) : (pars s).2.1.length ≤ s.length := by
  suffices h : ∀ (N : Nat) (s : List UInt8), s.length ≤ N → (pars s).2.1.length ≤ s.length from h _ s (Nat.le_refl _)
  intro N
  induction N with
  | zero =>
    intro s hs
    obtain rfl : s = [] := List.eq_nil_of_length_eq_zero (by omega)
    exact Nat.le_refl _
  | succ N ih =>
    intro s hs
    cases hq : cmdL s with
    | error e => rw [pars_err hq]; exact Nat.le_refl _
    | ok p =>
      obtain ⟨ws, r⟩ := p
      have hl := (cmdL_less hq).1
      rw [pars_ok hq]
      have := ih r (by omega)
      exact Nat.le_trans this (by omega)
/-- What is left is no whole command. -/
theorem pars_left (s : List UInt8) (h : (pars s).2.2 = 0) : pars (pars s).2.1 = ([], (pars s).2.1, 0) := by
  have h1 := (pars_app _ s [] (Nat.le_refl _)).1 h
  rw [List.append_nil, List.append_nil] at h1
  have h2 : (pars (pars s).2.1).2 = (pars s).2 := (congrArg Prod.snd h1).symm
  have h3 : (pars s).1.length = (pars s).1.length + (pars (pars s).2.1).1.length := by
    conv => lhs; rw [h1]
    simp
  have h4 : (pars (pars s).2.1).1 = [] := List.eq_nil_of_length_eq_zero (by omega)
  calc pars (pars s).2.1 = ((pars (pars s).2.1).1, (pars (pars s).2.1).2) := rfl
    _ = ([], (pars s).2.1, 0) := by rw [h4, h2]; rw [← h]
/-! ### A command's bytes -/
def lineB (sg : UInt8) (n : Nat) : List UInt8 := sg :: (itoa (n : Int) ++ [13, 10])
def textB (a : List UInt8) : List UInt8 := lineB 36 a.length ++ (a ++ [13, 10])
def textsB : List (List UInt8) → List UInt8
  | [] => []
  | a :: l => textB a ++ textsB l
def cmdB (l : List (List UInt8)) : List UInt8 := lineB 42 l.length ++ textsB l
theorem itoa_ge0 {n : Nat} : itoa (n : Int) = decDigits n := by
  unfold itoa
  rw [if_neg (by omega)]
  rfl
theorem cntL_line {sg : UInt8} {most n : Nat} (hn : n ≤ most) (hm : most ≤ 999999999) (hsg : sg ≠ 10) (r : List UInt8) : cntL sg most (lineB sg n ++ r) = .ok (n, r) := by
  have hl9 := decDigits_len 8 n (by omega)
  have hd := decDigits_all n
  have hI := intL_itoa (n := (n : Int)) (by omega) (by omega)
  have hne := decDigits_ne n
  have h1 := List.length_pos_iff.2 hne
  unfold lineB
  rw [itoa_ge0] at hI ⊢
  generalize decDigits n = D at *
  have e : (sg :: (D ++ [13, 10])) ++ r = (sg :: D) ++ (13 :: 10 :: r) := by simp
  have hq : nlAt ((sg :: D) ++ (13 :: 10 :: r)) = some (D.length + 2) := by
    refine nlAt_is (by omega) ?_ fun j hj he => ?_
    · rw [List.getElem?_append_right (by simp)]
      simp
    · by_cases h0 : j < (sg :: D).length
      · rw [List.getElem?_append_left h0] at he
        rcases List.mem_cons.1 (List.mem_of_getElem? he) with h2 | h2
        · exact hsg h2.symm
        · have := hd 10 h2
          simp at this
      · rw [List.getElem?_append_right (by omega)] at he
        have : j - (sg :: D).length = 0 := by simp at h0 ⊢; omega
        rw [this] at he
        simp at he
  rw [e]
  unfold cntL
  rw [hq]
  have hnum : numAt ((sg :: D) ++ (13 :: 10 :: r)) (D.length + 2) = ((n : Int), true) := by
    unfold numAt
    rw [show D.length + 2 - 1 = (sg :: D).length by simp, List.take_left']
    · exact hI
    · rfl
  have hok : LineOk sg ((sg :: D) ++ (13 :: 10 :: r)) (D.length + 2) := by
    refine ⟨by omega, ?_, rfl, ?_, ?_, ?_⟩
    · rw [List.getElem?_append_right (by simp)]
      simp
    · rw [hnum]
    · rw [hnum]; simp
    · rw [hnum]; simp; omega
  simp only
  rw [if_pos hok, hnum]
  simp only [Int.toNat_natCast]
  rw [if_neg (by omega)]
  congr 2
  rw [show D.length + 2 + 1 = (sg :: D).length + 2 by simp, ← List.drop_drop, List.drop_left']
  · rfl
  · rfl
theorem textL_text (a r : List UInt8) : textL a.length (a ++ [13, 10] ++ r) = .ok (a, r) := by
  unfold textL
  rw [if_neg (by simp), if_pos (by constructor <;> simp)]
  congr 2
  · simp
  · rw [← List.drop_drop]
    simp
theorem wordL_text {a : List UInt8} (h : a.length ≤ 512) (r : List UInt8) : wordL (textB a ++ r) = .ok (a, r) := by
  unfold textB
  rw [List.append_assoc]
  exact (bindE_ok (cntL_line h (by decide) (by decide) _)).trans (textL_text a r)
theorem wordsL_texts : ∀ (l : List (List UInt8)) (r : List UInt8), (∀ a ∈ l, a.length ≤ 512) → wordsL l.length (textsB l ++ r) = .ok (l, r)
  | [], r, h => rfl
  | a :: l, r, h => by
    simp only [textsB]
    rw [List.append_assoc]
    show bindE wordL (fun a => bindE (wordsL l.length) fun l q => .ok (a :: l, q)) _ = _
    rw [bindE_ok (wordL_text (h a (by simp)) _), bindE_ok (wordsL_texts l r fun b hb => h b (by simp [hb]))]
theorem cmdL_cmd {l : List (List UInt8)} (h : l.length ≤ 40) (ha : ∀ a ∈ l, a.length ≤ 512) (r : List UInt8) : cmdL (cmdB l ++ r) = .ok (l, r) := by
  unfold cmdB
  rw [List.append_assoc]
  exact (bindE_ok (cntL_line h (by decide) (by decide) _)).trans (wordsL_texts l r ha)
/-! ### The numbers of short lines -/
theorem decDigits_ge (k : Nat) : ∀ u : Nat, 10 ^ k ≤ u → k + 1 ≤ (decDigits u).length := by
  induction k with
  | zero => intro u _; exact List.length_pos_iff.2 (decDigits_ne u)
  | succ k ih =>
    intro u hu
    rw [Nat.pow_succ] at hu
    have : 0 < 10 ^ k := Nat.pow_pos (by decide)
    rw [decDigits_big (by omega), List.length_append]
    have := ih (u / 10) (by omega)
    simp; omega
theorem intL_yes {s : List UInt8} (h : (intL s).2 = true) : itoa (intL s).1 = s ∧ -9223372036854775808 ≤ (intL s).1 ∧ (intL s).1 ≤ 9223372036854775807 := by
  unfold intL at h ⊢
  split
  · rename_i n hn
    rw [hn] at h
    simp only at h
    by_cases e : itoa n = s
    · rw [if_pos e]
      exact ⟨e, atoiAll_bounds hn⟩
    · rw [if_neg e] at h; cases h
  · rename_i hn
    split at h
    · rename_i n hn2
      exact absurd hn2 (hn n)
    · cases h
theorem intL_nine {s : List UInt8} (h : (intL s).2 = true) (h0 : 0 ≤ (intL s).1) : s.length ≤ 9 ↔ (intL s).1 ≤ 999999999 := by
  obtain ⟨e, _, _⟩ := intL_yes h
  generalize (intL s).1 = n at *
  obtain ⟨u, rfl⟩ : ∃ u : Nat, n = (u : Int) := ⟨n.toNat, by omega⟩
  rw [itoa_ge0] at e
  subst e
  constructor
  · intro h9
    rcases Nat.lt_or_ge u (10 ^ 9) with h1 | h1
    · omega
    · have := decDigits_ge 9 u h1
      omega
  · intro h9
    exact decDigits_len 8 u (by omega)
end Go.Proofs.YthjcmgjmdjihnaaDoor

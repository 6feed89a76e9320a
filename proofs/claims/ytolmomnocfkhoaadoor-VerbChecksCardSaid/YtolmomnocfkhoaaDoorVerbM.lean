/-
  What a pattern describes: its parts, the languages of these; a matching that goes back once. Plain mathematics. Own work.
-/
import Derived.Lib.Bytealg
namespace Go.Proofs.YtolmomnocfkhoaaDoor
set_option linter.unusedVariables false
/-- A part of a pattern: its kind (0 among, 1 outside, 2 one, 3 many), and the bytes that it tells. -/
structure Pt where
  k : Nat
  t : List UInt8
deriving DecidableEq
def tellsL : List UInt8 → UInt8 → Bool
  | [], _ => false
  | [a], c => a == c
  | [a, x], c => a == c || x == c
  | a :: x :: b :: r, c => if x = 45 then (decide (a ≤ c) && decide (c ≤ b)) || tellsL r c else a == c || tellsL (x :: b :: r) c
def Pt.takes (p : Pt) (c : UInt8) : Bool :=
  if p.k = 0 then tellsL p.t c else if p.k = 1 then !tellsL p.t c else decide (p.k = 2)
/-- Do parts describe a text? -/
def lang : List Pt → List UInt8 → Bool
  | [], s => s.isEmpty
  | p :: l, [] => if p.k = 3 then lang l [] else false
  | p :: l, c :: s => if p.k = 3 then lang l (c :: s) || lang (p :: l) s else p.takes c && lang l s
termination_by l s => (l.length, s.length)
theorem lang_many (p : Pt) (l : List Pt) (hp : p.k = 3) : ∀ s : List UInt8, lang (p :: l) s = true ↔ ∃ t, t ≤ s.length ∧ lang l (s.drop t) = true
  | [] => by
    rw [lang, if_pos hp]
    constructor
    · intro h; exact ⟨0, by simp, by simpa using h⟩
    · rintro ⟨t, _, h⟩; simpa using h
  | c :: s => by
    rw [lang, if_pos hp, Bool.or_eq_true, lang_many p l hp s]
    constructor
    · rintro (h | ⟨t, ht, h⟩)
      · exact ⟨0, by simp, by simpa using h⟩
      · exact ⟨t + 1, by simp; omega, by simpa using h⟩
    · rintro ⟨t, ht, h⟩
      cases t with
      | zero => left; simpa using h
      | succ t => right; exact ⟨t, by simp at ht; omega, by simpa using h⟩
/-- Parts that are one byte each, taken from a place on. -/
theorem lang_singles : ∀ (q l : List Pt) (s : List UInt8), (∀ p ∈ q, p.k ≠ 3) → lang (q ++ l) s = true → q.length ≤ s.length ∧ lang l (s.drop q.length) = true
  | [], l, s, _, h => ⟨by simp, by simpa using h⟩
  | p :: q, l, [], hq, h => by
    rw [List.cons_append, lang, if_neg (hq p (by simp))] at h
    simp at h
  | p :: q, l, c :: s, hq, h => by
    rw [List.cons_append, lang, if_neg (hq p (by simp)), Bool.and_eq_true] at h
    obtain ⟨h1, h2⟩ := lang_singles q l s (fun x hx => hq x (by simp [hx])) h.2
    exact ⟨by simp; omega, by simpa using h2⟩
/-- What the matching goes by: at part `n` and byte `a`; `b` the part behind the last of any bytes (0: none), tried from byte `t`. -/
structure Inv (l : List Pt) (s : List UInt8) (n a b t : Nat) : Prop where
  nl : n ≤ l.length
  al : a ≤ s.length
  ta : t ≤ a
  bn : b ≤ n
  b0 : b = 0 → t = 0
  sg : 0 < b → n - b = a - t ∧ ∀ j, b ≤ j → j < n → ∀ p, l[j]? = some p → p.k ≠ 3
  eq : lang l s = true ↔ (lang (l.drop n) (s.drop a) = true ∨ 0 < b ∧ ∃ u, t < u ∧ u ≤ s.length ∧ lang (l.drop b) (s.drop u) = true)
theorem inv_start (l : List Pt) (s : List UInt8) : Inv l s 0 0 0 0 :=
  ⟨by omega, by omega, by omega, by omega, fun _ => rfl, fun h => by omega, by simp⟩
theorem drop_cons {α : Type} {l : List α} {n : Nat} {x : α} (h : l[n]? = some x) : l.drop n = x :: l.drop (n + 1) := by
  have hn : n < l.length := by
    rcases Nat.lt_or_ge n l.length with h1 | h1
    · exact h1
    · rw [List.getElem?_eq_none h1] at h; cases h
  rw [List.getElem?_eq_getElem hn] at h
  rw [List.drop_eq_getElem_cons hn]
  simp at h
  rw [h]
theorem lt_of_get {α : Type} {l : List α} {n : Nat} {x : α} (h : l[n]? = some x) : n < l.length := by
  rcases Nat.lt_or_ge n l.length with h1 | h1
  · exact h1
  · rw [List.getElem?_eq_none h1] at h; cases h
/-- The parts from b up to n, and what is from n on. -/
theorem drop_split {l : List Pt} {b n : Nat} (h : b ≤ n) (hn : n ≤ l.length) : l.drop b = (l.drop b).take (n - b) ++ l.drop n := by
  have e : l.drop n = (l.drop b).drop (n - b) := by rw [List.drop_drop]; congr 1; omega
  rw [e, List.take_append_drop]
theorem Inv.many {l : List Pt} {s : List UInt8} {n a b t : Nat} (h : Inv l s n a b t) {p : Pt} (hp : l[n]? = some p) (h3 : p.k = 3) : Inv l s (n + 1) a (n + 1) a := by
  have hn := lt_of_get hp
  have hd := drop_cons hp
  have m := lang_many p (l.drop (n + 1)) h3 (s.drop a)
  refine ⟨hn, h.al, Nat.le_refl _, Nat.le_refl _, fun h => by omega, fun _ => ⟨by omega, fun j h1 h2 => by omega⟩, ?_⟩
  rw [h.eq, hd, m]
  have al := h.al
  constructor
  · rintro (⟨u, hu, hl⟩ | ⟨hb, u, h1, h2, hl⟩)
    · rw [List.drop_drop] at hl
      rw [List.length_drop] at hu
      cases u with
      | zero => left; simpa using hl
      | succ u => right; exact ⟨by omega, a + (u + 1), by omega, by omega, hl⟩
    · obtain ⟨s1, s2⟩ := h.sg hb
      rw [drop_split h.bn h.nl] at hl
      have q := lang_singles _ _ _ (by
        intro x hx
        obtain ⟨j, hj⟩ := List.mem_iff_getElem?.1 hx
        have hj1 := lt_of_get hj
        rw [List.length_take] at hj1
        rw [List.getElem?_take, if_pos (by omega), List.getElem?_drop] at hj
        exact s2 (b + j) (by omega) (by omega) x hj) hl
      obtain ⟨q1, q2⟩ := q
      have e1 : ((l.drop b).take (n - b)).length = n - b := by rw [List.length_take, List.length_drop]; omega
      rw [e1] at q1 q2
      rw [List.length_drop] at q1
      rw [List.drop_drop, hd] at q2
      obtain ⟨v, hv, hl2⟩ := (lang_many p _ h3 _).1 q2
      rw [List.drop_drop] at hl2
      rw [List.length_drop] at hv
      have hge : a ≤ u + (n - b) := by have := h.ta; omega
      rcases Nat.eq_or_lt_of_le (show a ≤ u + (n - b) + v by omega) with e | e
      · left; rw [e]; exact hl2
      · right; exact ⟨by omega, _, e, by omega, hl2⟩
  · rintro (hl | ⟨_, u, h1, h2, hl⟩)
    · exact .inl ⟨0, by omega, by simpa using hl⟩
    · refine .inl ⟨u - a, by rw [List.length_drop]; omega, ?_⟩
      rw [List.drop_drop, show a + (u - a) = u by omega]
      exact hl
theorem Inv.take {l : List Pt} {s : List UInt8} {n a b t : Nat} (h : Inv l s n a b t) {p : Pt} {c : UInt8} (hp : l[n]? = some p) (hc : s[a]? = some c) (h3 : p.k ≠ 3) (ht : p.takes c = true) : Inv l s (n + 1) (a + 1) b t := by
  have hn := lt_of_get hp
  have ha := lt_of_get hc
  refine ⟨hn, ha, by have := h.ta; omega, by have := h.bn; omega, h.b0, fun hb => ?_, ?_⟩
  · obtain ⟨s1, s2⟩ := h.sg hb
    have := h.ta
    have := h.bn
    refine ⟨by omega, fun j h1 h2 q hq => ?_⟩
    rcases Nat.lt_or_ge j n with e | e
    · exact s2 j h1 e q hq
    · obtain rfl : j = n := by omega
      rw [hp] at hq
      cases hq
      exact h3
  · rw [h.eq, drop_cons hp, drop_cons hc, lang, if_neg h3, ht, Bool.true_and]
theorem Inv.stuck {l : List Pt} {s : List UInt8} {n a b t : Nat} (h : Inv l s n a b t) {c : UInt8} (hc : s[a]? = some c) (hno : ∀ p, l[n]? = some p → p.k ≠ 3 ∧ p.takes c = false) : lang (l.drop n) (s.drop a) = false := by
  rw [drop_cons hc]
  cases hp : l[n]? with
  | none =>
    rw [List.getElem?_eq_none_iff] at hp
    rw [List.drop_eq_nil_of_le hp]
    simp [lang]
  | some p =>
    obtain ⟨h3, h4⟩ := hno p hp
    rw [drop_cons hp, lang, if_neg h3, h4, Bool.false_and]
theorem Inv.back {l : List Pt} {s : List UInt8} {n a b t : Nat} (h : Inv l s n a b t) {c : UInt8} (hc : s[a]? = some c) (hno : ∀ p, l[n]? = some p → p.k ≠ 3 ∧ p.takes c = false) (hb : 0 < b) : Inv l s b (t + 1) b (t + 1) := by
  have ha := lt_of_get hc
  have := h.ta
  have := h.bn
  have := h.nl
  refine ⟨by omega, by omega, Nat.le_refl _, Nat.le_refl _, fun e => by omega, fun _ => ⟨by omega, fun j h1 h2 => by omega⟩, ?_⟩
  rw [h.eq, h.stuck hc hno]
  constructor
  · rintro (h | ⟨_, u, h1, h2, hl⟩)
    · cases h
    · rcases Nat.eq_or_lt_of_le (show t + 1 ≤ u by omega) with e | e
      · left; rw [e]; exact hl
      · right; exact ⟨hb, u, e, h2, hl⟩
  · rintro (hl | ⟨_, u, h1, h2, hl⟩)
    · exact .inr ⟨hb, t + 1, by omega, by omega, hl⟩
    · exact .inr ⟨hb, u, by omega, h2, hl⟩
theorem Inv.fail {l : List Pt} {s : List UInt8} {n a t : Nat} (h : Inv l s n a 0 t) {c : UInt8} (hc : s[a]? = some c) (hno : ∀ p, l[n]? = some p → p.k ≠ 3 ∧ p.takes c = false) : lang l s = false := by
  rw [Bool.eq_false_iff]
  intro e
  rcases h.eq.1 e with e | ⟨e, _⟩
  · rw [h.stuck hc hno] at e; cases e
  · omega
/-- At the text's end. -/
theorem lang_nil : ∀ l : List Pt, lang l [] = true ↔ ∀ p ∈ l, p.k = 3
  | [] => by simp [lang]
  | p :: l => by
    rw [lang]
    by_cases h : p.k = 3
    · rw [if_pos h, lang_nil l]; simp [h]
    · rw [if_neg h]; simp [h]
theorem Inv.done {l : List Pt} {s : List UInt8} {n b t : Nat} (h : Inv l s n s.length b t) : lang l s = lang (l.drop n) [] := by
  rw [Bool.eq_iff_iff, h.eq, List.drop_length]
  constructor
  · rintro (e | ⟨hb, u, h1, h2, hl⟩)
    · exact e
    · obtain ⟨s1, s2⟩ := h.sg hb
      rw [drop_split h.bn h.nl] at hl
      have q := lang_singles _ _ _ (by
        intro x hx
        obtain ⟨j, hj⟩ := List.mem_iff_getElem?.1 hx
        have hj1 := lt_of_get hj
        rw [List.length_take] at hj1
        rw [List.getElem?_take, if_pos (by omega), List.getElem?_drop] at hj
        exact s2 (b + j) (by omega) (by omega) x hj) hl
      obtain ⟨q1, _⟩ := q
      have e1 : ((l.drop b).take (n - b)).length = n - b := by rw [List.length_take, List.length_drop]; have := h.nl; omega
      rw [e1, List.length_drop] at q1
      have := h.ta
      omega
  · exact .inl
/-- Skipping parts of any bytes at the end. -/
theorem skip_end {l : List Pt} {n : Nat} {p : Pt} (hp : l[n]? = some p) (h3 : p.k = 3) : lang (l.drop n) [] = lang (l.drop (n + 1)) [] := by
  rw [drop_cons hp, lang, if_pos h3]
theorem end_end {l : List Pt} {n : Nat} (hn : n ≤ l.length) (hno : ∀ p, l[n]? = some p → p.k ≠ 3) : lang (l.drop n) [] = decide (n = l.length) := by
  rcases Nat.eq_or_lt_of_le hn with rfl | h
  · simp [lang]
  · obtain ⟨p, hp⟩ : ∃ p, l[n]? = some p := ⟨_, List.getElem?_eq_getElem h⟩
    rw [drop_cons hp, lang, if_neg (hno p hp)]
    simp; omega
theorem indexByte_lt : ∀ (l : List UInt8) (c : UInt8), Lib.indexByte l c ≠ -1 → Lib.indexByte l c < (l.length : Int)
  | [], c, h => absurd rfl h
  | b :: l, c, h => by
    have ih := indexByte_lt l c
    unfold Lib.indexByte at h ⊢
    split
    · simp
    · rename_i h1
      rw [if_neg h1] at h
      split
      · rename_i h2; rw [if_pos h2] at h; exact absurd rfl h
      · rename_i h2
        have h3 : Lib.indexByte l c ≠ -1 := by simpa using h2
        have := ih h3
        simp; omega
/-- What stands ahead of the first ] behind a first byte, and what is behind it. -/
def classAt (ng : Bool) : List UInt8 → Option (Pt × List UInt8)
  | [] => none
  | a :: t => if Lib.indexByte t 93 = -1 then none else some (⟨if ng then 1 else 0, (a :: t).take ((Lib.indexByte t 93).toNat + 1)⟩, (a :: t).drop ((Lib.indexByte t 93).toNat + 2))
def cutClassL (r : List UInt8) : Option (Pt × List UInt8) :=
  match r with
  | 94 :: t => classAt true t
  | t => classAt false t
theorem cutClassL_yes (t : List UInt8) : cutClassL (94 :: t) = classAt true t := rfl
theorem cutClassL_no {r : List UInt8} (h : r.head? ≠ some 94) : cutClassL r = classAt false r := by
  match r, h with
  | [], _ => rfl
  | a :: t, h =>
    have : a ≠ 94 := fun e => h (by simp [e])
    unfold cutClassL
    split
    · rename_i e; simp at e; exact absurd e.1 this
    · rfl
/-- The part with which a pattern begins, and what is behind it. -/
def cutPartL (c : UInt8) (rest : List UInt8) : Pt × List UInt8 :=
  if c = 42 then (⟨3, []⟩, rest)
  else if c = 63 then (⟨2, []⟩, rest)
  else if c = 91 then match cutClassL rest with
    | some q => q
    | none => (⟨0, [c]⟩, rest)
  else if c = 92 then match rest with
    | d :: r => (⟨0, [d]⟩, r)
    | [] => (⟨0, [c]⟩, rest)
  else (⟨0, [c]⟩, rest)
theorem classAt_len {ng : Bool} : ∀ {t : List UInt8} {q : Pt × List UInt8}, classAt ng t = some q → q.2.length ≤ t.length
  | [], q, h => by cases h
  | a :: t, q, h => by
    simp only [classAt] at h
    split at h
    · cases h
    · injection h with h; subst h; simp; omega
theorem cutClassL_len {r : List UInt8} {q : Pt × List UInt8} (h : cutClassL r = some q) : q.2.length ≤ r.length := by
  unfold cutClassL at h
  split at h
  · have := classAt_len h; simp; omega
  · exact classAt_len h
theorem cutPartL_len (c : UInt8) (rest : List UInt8) : (cutPartL c rest).2.length ≤ rest.length := by
  unfold cutPartL
  split
  · simp
  · split
    · simp
    · split
      · split
        · rename_i q h; exact cutClassL_len h
        · simp
      · split
        · split <;> simp
        · simp
def partsL : List UInt8 → List Pt
  | [] => []
  | c :: rest => (cutPartL c rest).1 :: partsL (cutPartL c rest).2
termination_by l => l.length
decreasing_by
  have := cutPartL_len c rest
  simp; omega
theorem partsL_cons (c : UInt8) (rest : List UInt8) : partsL (c :: rest) = (cutPartL c rest).1 :: partsL (cutPartL c rest).2 := by rw [partsL]
theorem partsL_len : ∀ (n : Nat) (l : List UInt8), l.length ≤ n → (partsL l).length ≤ l.length
  | _, [], _ => by simp [partsL]
  | 0, _ :: _, h => by simp at h
  | n + 1, c :: rest, h => by
    rw [partsL_cons]
    have h1 := cutPartL_len c rest
    have h2 := partsL_len n (cutPartL c rest).2 (by simp at h; omega)
    simp; omega
theorem classAt_ok {ng : Bool} : ∀ {t : List UInt8} {q : Pt × List UInt8}, classAt ng t = some q → q.1.k ≤ 3 ∧ q.1.t.length ≤ t.length
  | [], q, h => by cases h
  | a :: t, q, h => by
    simp only [classAt] at h
    split at h
    · cases h
    · injection h with h
      subst h
      refine ⟨by cases ng <;> simp, ?_⟩
      simp only [List.length_take]
      omega
theorem cutPartL_ok (c : UInt8) (rest : List UInt8) : (cutPartL c rest).1.k ≤ 3 ∧ (cutPartL c rest).1.t.length ≤ rest.length + 1 := by
  unfold cutPartL
  split
  · simp
  · split
    · simp
    · split
      · split
        · rename_i q h
          unfold cutClassL at h
          split at h
          · have := classAt_ok h; simp; omega
          · have := classAt_ok h; omega
        · simp
      · split
        · split <;> simp
        · simp
theorem parts_ok : ∀ (n : Nat) (l : List UInt8), l.length ≤ n → ∀ p ∈ partsL l, p.k ≤ 3 ∧ p.t.length ≤ n
  | _, [], _, p, h => by simp [partsL] at h
  | 0, _ :: _, h, _, _ => by simp at h
  | n + 1, c :: rest, h, p, hp => by
    rw [partsL_cons] at hp
    have h1 := cutPartL_len c rest
    have h2 := cutPartL_ok c rest
    simp at h
    rcases List.mem_cons.1 hp with rfl | hp
    · omega
    · have := parts_ok n (cutPartL c rest).2 (by omega) p hp
      omega
end Go.Proofs.YtolmomnocfkhoaaDoor

/-
  Several own texts in one: TreeM, TreeA, TreeB, TreeC, LenS, TreeD, TreeE, TreeF, TreeG, TreeH, TreeI. Own work.
-/
import Derived.ArgAppend
import Derived.Test.YtbolfkigiachlaaDoorProg
import Derived.Shelf.Small.Bits
import Derived.Shelf.Spec.TrailingZeros
import Derived.Test.YtbolfkigiachlaaDoorGA
import Derived.Test.YtbolfkigiachlaaDoorGC
set_option linter.unusedVariables false
set_option linter.unusedSimpArgs false
/-
  Trees of halves, as lists: whole parts, paths, sides. Own work.
-/
namespace Go.Proofs.YtbolfkigiachlaaDoor.Tr
/-! ### The greatest power of two below a number -/
def halfN (n : Nat) : Nat := 2 ^ Nat.log2 (n - 1)
theorem half_pos (n : Nat) : 0 < halfN n := Nat.pow_pos (by decide)
theorem half_lt {n : Nat} (h : 2 ≤ n) : halfN n < n := by
  have := Nat.log2_self_le (n := n - 1) (by omega)
  unfold halfN
  omega
theorem half_ge {n : Nat} (h : 2 ≤ n) : n ≤ 2 * halfN n := by
  have := Nat.lt_log2_self (n := n - 1)
  unfold halfN
  rw [Nat.pow_succ] at this
  omega
theorem pow_mono_lt {a b : Nat} (h : 2 ^ a < 2 ^ b) : a < b := by
  apply Nat.lt_of_not_le
  intro hle
  have := Nat.pow_le_pow_right (n := 2) (by decide) hle
  omega
theorem half_eq {n k : Nat} (h1 : 2 ^ k < n) (h2 : n ≤ 2 * 2 ^ k) : halfN n = 2 ^ k := by
  have h0 : 0 < 2 ^ k := Nat.pow_pos (by decide)
  have a := half_lt (n := n) (by omega)
  have b := half_ge (n := n) (by omega)
  unfold halfN at *
  have c : Nat.log2 (n - 1) < k + 1 := pow_mono_lt (by rw [Nat.pow_succ]; omega)
  have d : k < Nat.log2 (n - 1) + 1 := pow_mono_lt (by rw [Nat.pow_succ]; omega)
  rw [show Nat.log2 (n - 1) = k by omega]
theorem half_is (n : Nat) : ∃ k, halfN n = 2 ^ k := ⟨_, rfl⟩
/-! ### Trees -/
section
variable {C S : Type} (lf : C → S) (nd : S → S → S) (nn : S)
def rootT (l : List C) : S :=
  if _h : 2 ≤ l.length then nd (rootT (l.take (halfN l.length))) (rootT (l.drop (halfN l.length)))
  else match l with
    | [] => nn
    | c :: _ => lf c
  termination_by l.length
  decreasing_by
    · rw [List.length_take]; have := half_lt _h; omega
    · rw [List.length_drop]; have := half_pos l.length; omega
theorem root_nil : rootT lf nd nn [] = nn := by rw [rootT]; rfl
theorem root_one (c : C) : rootT lf nd nn [c] = lf c := by rw [rootT]; rfl
theorem root_two (l : List C) (h : 2 ≤ l.length) : rootT lf nd nn l = nd (rootT lf nd nn (l.take (halfN l.length))) (rootT lf nd nn (l.drop (halfN l.length))) := by
  conv => lhs; rw [rootT]
  rw [dif_pos h]
/-- The sums of the whole parts, the greatest first. -/
def wholeT (l : List C) : List S :=
  if h : 1 ≤ l.length then rootT lf nd nn (l.take (halfN (l.length + 1))) :: wholeT (l.drop (halfN (l.length + 1)))
  else []
  termination_by l.length
  decreasing_by rw [List.length_drop]; have := half_pos (l.length + 1); omega
theorem whole_nil : wholeT lf nd nn [] = [] := by rw [wholeT]; rfl
theorem whole_cons (l : List C) (h : 1 ≤ l.length) : wholeT lf nd nn l = rootT lf nd nn (l.take (halfN (l.length + 1))) :: wholeT lf nd nn (l.drop (halfN (l.length + 1))) := by
  conv => lhs; rw [wholeT]
  rw [dif_pos h]
def foldW : List S → S
  | [] => nn
  | s :: r => if r.isEmpty then s else nd s (foldW r)
theorem foldW_one (s : S) : foldW nd nn [s] = s := rfl
theorem foldW_cons (s : S) (r : List S) (h : r ≠ []) : foldW nd nn (s :: r) = nd s (foldW nd nn r) := by
  cases r with
  | nil => exact absurd rfl h
  | cons a b => rfl
theorem whole_ne (l : List C) (h : 1 ≤ l.length) : wholeT lf nd nn l ≠ [] := by rw [whole_cons lf nd nn l h]; simp
/-- A list of as many as a power of two is one whole part. -/
theorem whole_pow (l : List C) (k : Nat) (h : l.length = 2 ^ k) : wholeT lf nd nn l = [rootT lf nd nn l] := by
  have h0 : 0 < 2 ^ k := Nat.pow_pos (by decide)
  have hh : halfN (l.length + 1) = 2 ^ k := half_eq (by omega) (by omega)
  rw [whole_cons lf nd nn l (by omega), hh, ← h, List.take_length, List.drop_length, whole_nil]
theorem root_whole : ∀ (n : Nat) (l : List C), l.length = n → rootT lf nd nn l = foldW nd nn (wholeT lf nd nn l) := by
  intro n
  induction n using Nat.strongRecOn with
  | ind n ih =>
    intro l hl
    by_cases h0 : l.length = 0
    · obtain rfl := List.eq_nil_of_length_eq_zero h0
      rw [root_nil, whole_nil]; rfl
    · have hp := half_pos (l.length + 1)
      have hle : halfN (l.length + 1) ≤ l.length := by have := half_lt (n := l.length + 1) (by omega); omega
      have hge := half_ge (n := l.length + 1) (by omega)
      by_cases he : halfN (l.length + 1) = l.length
      · obtain ⟨k, hk⟩ := half_is (l.length + 1)
        rw [whole_pow lf nd nn l k (by omega), foldW_one]
      · have h2 : 2 ≤ l.length := by omega
        have hh : halfN l.length = halfN (l.length + 1) := by
          obtain ⟨k, hk⟩ := half_is (l.length + 1)
          rw [hk]
          exact half_eq (by omega) (by omega)
        rw [whole_cons lf nd nn l (by omega), root_two lf nd nn l h2, hh, foldW_cons nd nn _ _ (whole_ne lf nd nn _ (by rw [List.length_drop]; omega)),
          ← ih (l.drop (halfN (l.length + 1))).length (by rw [List.length_drop]; omega) _ rfl]
theorem fold_step (w : List S) (j : Nat) (h : j + 1 < w.length) : foldW nd nn (w.drop j) = nd w[j] (foldW nd nn (w.drop (j + 1))) := by
  rw [List.drop_eq_getElem_cons (by omega), foldW_cons nd nn]
  intro e
  have := congrArg List.length e
  rw [List.length_drop] at this
  simp at this
  omega
theorem fold_stepP (w : List S) (p : S) (j : Nat) (h : j < w.length) : foldW nd nn (w.drop j ++ [p]) = nd w[j] (foldW nd nn (w.drop (j + 1) ++ [p])) := by
  rw [List.drop_eq_getElem_cons h, List.cons_append, foldW_cons nd nn]
  simp
/-! ### How often two divides a number -/
theorem odd_unique {a b c d : Nat} (h : 2 ^ a * (2 * b + 1) = 2 ^ c * (2 * d + 1)) : a = c := by
  have key : ∀ (a c b d : Nat), a < c → 2 ^ a * (2 * b + 1) ≠ 2 ^ c * (2 * d + 1) := by
    intro a c b d hlt e
    obtain ⟨k, rfl⟩ : ∃ k, c = a + (k + 1) := ⟨c - a - 1, by omega⟩
    rw [Nat.pow_add, Nat.mul_assoc] at e
    have e2 := Nat.eq_of_mul_eq_mul_left (Nat.pow_pos (by decide)) e
    rw [Nat.pow_succ, Nat.mul_comm (2 ^ k) 2, Nat.mul_assoc] at e2
    omega
  rcases Nat.lt_trichotomy a c with h1 | h1 | h1
  · exact absurd h (key _ _ _ _ h1)
  · exact h1
  · exact absurd h.symm (key _ _ _ _ h1)
theorem odd_exists : ∀ n : Nat, 0 < n → ∃ t m, n = 2 ^ t * (2 * m + 1) := by
  intro n
  induction n using Nat.strongRecOn with
  | ind n ih =>
    intro h
    by_cases h2 : n % 2 = 1
    · exact ⟨0, n / 2, by simp; omega⟩
    · obtain ⟨t, m, e⟩ := ih (n / 2) (by omega) (by omega)
      refine ⟨t + 1, m, ?_⟩
      rw [Nat.pow_succ, Nat.mul_comm (2 ^ t) 2, Nat.mul_assoc, ← e]
      omega
theorem add_whole : ∀ (n : Nat) (l : List C) (c : C) (t m : Nat), l.length = n → n + 1 = 2 ^ t * (2 * m + 1) →
    t ≤ (wholeT lf nd nn l).length ∧ wholeT lf nd nn (l ++ [c]) = (wholeT lf nd nn l).take ((wholeT lf nd nn l).length - t) ++ [foldW nd nn ((wholeT lf nd nn l).drop ((wholeT lf nd nn l).length - t) ++ [lf c])] := by
  intro n
  induction n using Nat.strongRecOn with
  | ind n ih =>
    intro l c t m hl ht
    by_cases h0 : n = 0
    · subst h0
      obtain rfl := List.eq_nil_of_length_eq_zero hl
      obtain rfl : t = 0 := (odd_unique (a := 0) (b := 0) (c := t) (d := m) (by simpa using ht)).symm
      rw [whole_nil]
      refine ⟨Nat.zero_le _, ?_⟩
      rw [List.nil_append, whole_pow lf nd nn [c] 0 rfl, root_one]
      rfl
    · obtain ⟨a, ha⟩ := half_is (l.length + 1)
      have hp : 0 < 2 ^ a := Nat.pow_pos (by decide)
      have hle : 2 ^ a ≤ l.length := by have := half_lt (n := l.length + 1) (by omega); omega
      have hge : l.length + 1 ≤ 2 * 2 ^ a := by have := half_ge (n := l.length + 1) (by omega); omega
      have hW := whole_cons lf nd nn l (by omega)
      rw [ha] at hW
      have hl2 : (l.drop (2 ^ a)).length = n - 2 ^ a := by rw [List.length_drop]; omega
      obtain ⟨t2, m2, e2⟩ := odd_exists (n - 2 ^ a + 1) (by omega)
      obtain ⟨i1, i2⟩ := ih (n - 2 ^ a) (by omega) (l.drop (2 ^ a)) c t2 m2 hl2 e2
      generalize hw2 : wholeT lf nd nn (l.drop (2 ^ a)) = w2 at *
      have htake : (l ++ [c]).take (2 ^ a) = l.take (2 ^ a) := by rw [List.take_append_of_le_length hle]
      have hdrop : (l ++ [c]).drop (2 ^ a) = l.drop (2 ^ a) ++ [c] := by rw [List.drop_append_of_le_length hle]
      have hlc : (l ++ [c]).length = n + 1 := by simp [hl]
      by_cases hr : n - 2 ^ a + 1 < 2 ^ a
      · have htt : t = t2 := by
          have hta : t2 < a := by
            apply pow_mono_lt
            have : 2 ^ t2 ≤ 2 ^ t2 * (2 * m2 + 1) := Nat.le_mul_of_pos_right _ (by omega)
            omega
          obtain ⟨q, hq⟩ : ∃ q, a = t2 + (q + 1) := ⟨a - t2 - 1, by omega⟩
          refine odd_unique (b := m) (d := 2 ^ q + m2) ?_
          rw [← ht, show n + 1 = 2 ^ a + (n - 2 ^ a + 1) by omega, e2, hq, Nat.pow_add, ← Nat.mul_add]
          congr 1
          rw [Nat.pow_succ]
          omega
        subst htt
        have hh : halfN ((l ++ [c]).length + 1) = 2 ^ a := by rw [hlc]; exact half_eq (by omega) (by omega)
        have hL := whole_cons lf nd nn (l ++ [c]) (by omega)
        rw [hh, htake, hdrop, i2] at hL
        rw [hL, hW]
        refine ⟨by simp; omega, ?_⟩
        rw [show (rootT lf nd nn (l.take (2 ^ a)) :: w2).length - t = (w2.length - t) + 1 by simp; omega, List.take_succ_cons, List.drop_succ_cons, List.cons_append]
      · have hra : n - 2 ^ a + 1 = 2 ^ a := by omega
        have ht2 : t2 = a := odd_unique (b := m2) (d := 0) (by rw [← e2, hra]; simp)
        have htt : t = a + 1 := by
          refine odd_unique (b := m) (d := 0) ?_
          rw [← ht, Nat.pow_succ]
          omega
        subst ht2
        have hone := whole_pow lf nd nn (l.drop (2 ^ t2) ++ [c]) t2 (by simp; omega)
        rw [i2] at hone
        have hlen : w2.length = t2 := by
          have := congrArg List.length hone
          rw [List.length_append, List.length_take] at this
          simp at this
          omega
        rw [hlen, Nat.sub_self, List.take_zero, List.drop_zero, List.nil_append] at hone
        have hone' := List.cons.inj hone |>.1
        rw [whole_pow lf nd nn (l ++ [c]) (t2 + 1) (by rw [hlc, Nat.pow_succ]; omega), root_two lf nd nn (l ++ [c]) (by omega), show halfN (l ++ [c]).length = 2 ^ t2 from half_eq (by omega) (by omega), htake, hdrop, ← hone']
        rw [hW, htt]
        refine ⟨by simp [hlen], ?_⟩
        rw [show (rootT lf nd nn (l.take (2 ^ t2)) :: w2).length - (t2 + 1) = 0 by simp [hlen], List.take_zero, List.drop_zero, List.nil_append, List.cons_append, foldW_cons nd nn _ _ (by simp)]
end
/-! ### Paths -/
/-- The other parts, from a leaf up: where each begins and ends. -/
def othersF : Nat → Nat → Nat → Nat → List (Nat × Nat)
  | 0, _, _, _ => []
  | f + 1, a, b, i => if 2 ≤ b - a then (if i < a + halfN (b - a) then othersF f a (a + halfN (b - a)) i ++ [(a + halfN (b - a), b)] else othersF f (a + halfN (b - a)) b i ++ [(a, a + halfN (b - a))]) else []
theorem others_fuel : ∀ (n a b i f g : Nat), b - a ≤ n → n ≤ f → n ≤ g → othersF f a b i = othersF g a b i := by
  intro n
  induction n using Nat.strongRecOn with
  | ind n ih =>
    intro a b i f g hn hf hg
    by_cases h2 : 2 ≤ b - a
    · obtain ⟨f, rfl⟩ : ∃ f', f = f' + 1 := ⟨f - 1, by omega⟩
      obtain ⟨g, rfl⟩ : ∃ g', g = g' + 1 := ⟨g - 1, by omega⟩
      have := half_lt h2
      have := half_pos (b - a)
      unfold othersF
      rw [if_pos h2, if_pos h2]
      rw [ih (n - 1) (by omega) a (a + halfN (b - a)) i f g (by omega) (by omega) (by omega), ih (n - 1) (by omega) (a + halfN (b - a)) b i f g (by omega) (by omega) (by omega)]
    · have z : ∀ f, othersF f a b i = [] := fun f => by cases f <;> simp [othersF, h2]
      rw [z, z]
def others (a b i : Nat) : List (Nat × Nat) := othersF (b - a) a b i
theorem others_one {a b i : Nat} (h : ¬ 2 ≤ b - a) : others a b i = [] := by
  unfold others
  cases h' : b - a with
  | zero => rfl
  | succ n => unfold othersF; rw [if_neg h]
theorem others_lo {a b i : Nat} (h : 2 ≤ b - a) (hi : i < a + halfN (b - a)) : others a b i = others a (a + halfN (b - a)) i ++ [(a + halfN (b - a), b)] := by
  have h1 := half_lt h
  have h3 := half_pos (b - a)
  unfold others
  obtain ⟨f, hf⟩ : ∃ f, b - a = f + 1 := ⟨b - a - 1, by omega⟩
  conv => lhs; rw [hf]; unfold othersF
  rw [if_pos h, if_pos hi, others_fuel (a + halfN (b - a) - a) a (a + halfN (b - a)) i f (a + halfN (b - a) - a) (Nat.le_refl _) (by omega) (Nat.le_refl _)]
theorem others_hi {a b i : Nat} (h : 2 ≤ b - a) (hi : ¬ i < a + halfN (b - a)) : others a b i = others (a + halfN (b - a)) b i ++ [(a, a + halfN (b - a))] := by
  have h1 := half_lt h
  have h3 := half_pos (b - a)
  unfold others
  obtain ⟨f, hf⟩ : ∃ f, b - a = f + 1 := ⟨b - a - 1, by omega⟩
  conv => lhs; rw [hf]; unfold othersF
  rw [if_pos h, if_neg hi, others_fuel (b - (a + halfN (b - a))) (a + halfN (b - a)) b i f (b - (a + halfN (b - a))) (Nat.le_refl _) (by omega) (Nat.le_refl _)]
theorem others_in : ∀ (n a b i : Nat), b - a = n → ∀ p ∈ others a b i, a ≤ p.1 ∧ p.1 < p.2 ∧ p.2 ≤ b := by
  intro n
  induction n using Nat.strongRecOn with
  | ind n ih =>
    intro a b i hn p hp
    by_cases h2 : 2 ≤ b - a
    · have h1 := half_lt h2
      have h3 := half_pos (b - a)
      by_cases hi : i < a + halfN (b - a)
      · rw [others_lo h2 hi] at hp
        rcases List.mem_append.1 hp with hp | hp
        · have := ih _ (by omega) a _ i rfl p hp
          omega
        · obtain rfl := List.mem_singleton.1 hp
          simp only
          omega
      · rw [others_hi h2 hi] at hp
        rcases List.mem_append.1 hp with hp | hp
        · have := ih _ (by omega) _ b i rfl p hp
          omega
        · obtain rfl := List.mem_singleton.1 hp
          simp only
          omega
    · rw [others_one h2] at hp
      cases hp
def shift (d : Nat) (p : Nat × Nat) : Nat × Nat := (p.1 + d, p.2 + d)
theorem others_shift : ∀ (n a b i d : Nat), b - a = n → others (a + d) (b + d) (i + d) = (others a b i).map (shift d) := by
  intro n
  induction n using Nat.strongRecOn with
  | ind n ih =>
    intro a b i d hn
    have hd : b + d - (a + d) = b - a := by omega
    by_cases h2 : 2 ≤ b - a
    · have h1 := half_lt h2
      have h3 := half_pos (b - a)
      have e1 : a + d + halfN (b - a) = (a + halfN (b - a)) + d := by omega
      by_cases hi : i < a + halfN (b - a)
      · rw [others_lo h2 hi, others_lo (a := a + d) (b := b + d) (i := i + d) (by omega) (by rw [hd]; omega), hd, e1, ih _ (by omega) a _ i d rfl, List.map_append]
        rfl
      · rw [others_hi h2 hi, others_hi (a := a + d) (b := b + d) (i := i + d) (by omega) (by rw [hd]; omega), hd, e1, ih _ (by omega) _ b i d rfl, List.map_append]
        rfl
    · rw [others_one h2, others_one (by omega)]
      rfl
theorem others_many : ∀ (n a b i : Nat), b - a = n → ∀ k, n ≤ 2 ^ k → (others a b i).length ≤ k := by
  intro n
  induction n using Nat.strongRecOn with
  | ind n ih =>
    intro a b i hn k hk
    by_cases h2 : 2 ≤ b - a
    · have h1 := half_lt h2
      have h3 := half_pos (b - a)
      have h4 := half_ge h2
      obtain ⟨k, rfl⟩ : ∃ k', k = k' + 1 := by
        cases k with
        | zero => simp at hk; omega
        | succ k => exact ⟨k, rfl⟩
      have hkk : halfN (b - a) ≤ 2 ^ k := by
        obtain ⟨q, hq⟩ := half_is (b - a)
        rw [hq] at h1 ⊢
        have : q < k + 1 := pow_mono_lt (by omega)
        exact Nat.pow_le_pow_right (by decide) (by omega)
      by_cases hi : i < a + halfN (b - a)
      · rw [others_lo h2 hi, List.length_append]
        have := ih _ (by omega) a (a + halfN (b - a)) i rfl k (by omega)
        simp; omega
      · rw [others_hi h2 hi, List.length_append]
        have := ih _ (by omega) (a + halfN (b - a)) b i rfl k (by omega)
        simp; omega
    · rw [others_one h2]
      exact Nat.zero_le _
/-- Is the other part ahead of the place? -/
def aheadB (i : Nat) (p : Nat × Nat) : Bool := decide (p.2 ≤ i)
def sidesT (n i : Nat) : List Bool := (others 0 n i).map (aheadB i)
theorem sides_one {n i : Nat} (h : ¬ 2 ≤ n) : sidesT n i = [] := by unfold sidesT; rw [others_one (by omega)]; rfl
theorem sides_lo {n i : Nat} (h : 2 ≤ n) (hi : i < halfN n) : sidesT n i = sidesT (halfN n) i ++ [false] := by
  have h1 := half_lt h
  unfold sidesT
  rw [others_lo (a := 0) (b := n) (by omega) (by simpa using hi), List.map_append]
  simp only [Nat.sub_zero, Nat.zero_add, List.map_cons, List.map_nil, aheadB]
  rw [show decide (n ≤ i) = false by simp; omega]
theorem sides_hi {n i : Nat} (h : 2 ≤ n) (hi : ¬ i < halfN n) : sidesT n i = sidesT (n - halfN n) (i - halfN n) ++ [true] := by
  have h1 := half_lt h
  have e := others_shift _ 0 (n - halfN n) (i - halfN n) (halfN n) rfl
  rw [show 0 + halfN n = halfN n by omega, show n - halfN n + halfN n = n by omega, show i - halfN n + halfN n = i by omega] at e
  unfold sidesT
  rw [others_hi (a := 0) (b := n) (by omega) (by simpa using hi), List.map_append]
  simp only [Nat.sub_zero, Nat.zero_add, List.map_cons, List.map_nil]
  rw [e, List.map_map]
  congr 1
  · apply List.map_congr_left
    intro p _
    simp only [aheadB, shift, Function.comp]
    apply decide_eq_decide.2
    omega
  · simp [aheadB]; omega
theorem sides_many {n i k : Nat} (h : n ≤ 2 ^ k) : (sidesT n i).length ≤ k := by unfold sidesT; rw [List.length_map]; exact others_many n 0 n i (by omega) k h
section
variable {C S : Type} (lf : C → S) (nd : S → S → S) (nn : S)
def seg (l : List C) (p : Nat × Nat) : List C := (l.take p.2).drop p.1
def pathT (l : List C) (i : Nat) : List S := (others 0 l.length i).map fun p => rootT lf nd nn (seg l p)
theorem path_one {l : List C} {i : Nat} (h : ¬ 2 ≤ l.length) : pathT lf nd nn l i = [] := by unfold pathT; rw [others_one (by omega)]; rfl
theorem path_lo {l : List C} {i : Nat} (h : 2 ≤ l.length) (hi : i < halfN l.length) : pathT lf nd nn l i = pathT lf nd nn (l.take (halfN l.length)) i ++ [rootT lf nd nn (l.drop (halfN l.length))] := by
  have h1 := half_lt h
  unfold pathT
  rw [others_lo (a := 0) (b := l.length) (by omega) (by simpa using hi), List.map_append]
  simp only [Nat.sub_zero, Nat.zero_add, List.map_cons, List.map_nil, List.length_take, Nat.min_eq_left (Nat.le_of_lt h1)]
  congr 1
  · apply List.map_congr_left
    intro p hp
    have := (others_in _ 0 _ i rfl p hp).2.2
    simp only [seg, List.take_take, Nat.min_eq_left this]
  · simp [seg]
theorem path_hi {l : List C} {i : Nat} (h : 2 ≤ l.length) (hi : ¬ i < halfN l.length) : pathT lf nd nn l i = pathT lf nd nn (l.drop (halfN l.length)) (i - halfN l.length) ++ [rootT lf nd nn (l.take (halfN l.length))] := by
  have h1 := half_lt h
  have e := others_shift _ 0 (l.length - halfN l.length) (i - halfN l.length) (halfN l.length) rfl
  rw [show 0 + halfN l.length = halfN l.length by omega, show l.length - halfN l.length + halfN l.length = l.length by omega, show i - halfN l.length + halfN l.length = i by omega] at e
  unfold pathT
  rw [others_hi (a := 0) (b := l.length) (by omega) (by simpa using hi), List.map_append]
  simp only [Nat.sub_zero, Nat.zero_add, List.map_cons, List.map_nil, List.length_drop]
  rw [e, List.map_map]
  congr 1
  apply List.map_congr_left
  intro p _
  simp only [seg, shift, Function.comp]
  rw [List.take_drop, List.drop_drop, Nat.add_comm (halfN l.length) p.2, Nat.add_comm (halfN l.length) p.1]
theorem path_len (l : List C) (i : Nat) : (pathT lf nd nn l i).length = (sidesT l.length i).length := by unfold pathT sidesT; rw [List.length_map, List.length_map]
/-- The sum of a part, by the sum of the other one, that may stand ahead. -/
def stepT (b : Bool) (x q : S) : S := if b then nd q x else nd x q
def upT : S → List Bool → List S → S
  | x, b :: bs, q :: qs => upT (stepT nd b x q) bs qs
  | x, _, _ => x
theorem up_app : ∀ (s : List Bool) (p : List S) (x : S) (b : Bool) (q : S), s.length = p.length → upT nd x (s ++ [b]) (p ++ [q]) = stepT nd b (upT nd x s p) q := by
  intro s
  induction s with
  | nil => intro p x b q h; cases p with
    | nil => rfl
    | cons _ _ => simp at h
  | cons a s ih => intro p x b q h; cases p with
    | nil => simp at h
    | cons r p => exact ih p _ b q (by simpa using h)
theorem up_take (x : S) (s : List Bool) (p : List S) (k : Nat) (h1 : k < s.length) (h2 : k < p.length) : upT nd x (s.take (k + 1)) (p.take (k + 1)) = stepT nd s[k] (upT nd x (s.take k) (p.take k)) p[k] := by
  rw [List.take_succ_eq_append_getElem h1, List.take_succ_eq_append_getElem h2]
  exact up_app nd _ _ _ _ _ (by rw [List.length_take, List.length_take]; omega)
theorem back_up : ∀ (n : Nat) (l : List C) (i : Nat) (c : C), l.length = n → l[i]? = some c → upT nd (lf c) (sidesT l.length i) (pathT lf nd nn l i) = rootT lf nd nn l := by
  intro n
  induction n using Nat.strongRecOn with
  | ind n ih =>
    intro l i c hn hc
    have hil := (List.getElem?_eq_some_iff.1 hc).1
    by_cases h2 : 2 ≤ l.length
    · have h1 := half_lt h2
      have h3 := half_pos l.length
      rw [root_two lf nd nn l h2]
      by_cases hi : i < halfN l.length
      · have hl1 : (l.take (halfN l.length)).length = halfN l.length := by rw [List.length_take]; omega
        have := ih (l.take (halfN l.length)).length (by omega) (l.take (halfN l.length)) i c rfl (by rw [List.getElem?_take_of_lt hi]; exact hc)
        have hpl := path_len lf nd nn (l.take (halfN l.length)) i
        rw [hl1] at this hpl
        rw [sides_lo h2 hi, path_lo lf nd nn h2 hi, up_app nd _ _ _ _ _ hpl.symm, this]
        rfl
      · have hl1 : (l.drop (halfN l.length)).length = l.length - halfN l.length := by rw [List.length_drop]
        have := ih (l.drop (halfN l.length)).length (by omega) (l.drop (halfN l.length)) (i - halfN l.length) c rfl (by rw [List.getElem?_drop, show halfN l.length + (i - halfN l.length) = i by omega]; exact hc)
        have hpl := path_len lf nd nn (l.drop (halfN l.length)) (i - halfN l.length)
        rw [hl1] at this hpl
        rw [sides_hi h2 hi, path_hi lf nd nn h2 hi, up_app nd _ _ _ _ _ hpl.symm, this]
        rfl
    · rw [sides_one h2, path_one lf nd nn h2]
      match l, h2, hil, hc with
      | [], _, hil, _ => simp at hil
      | [d], _, hil, hc =>
        have h0 : i = 0 := by simp at hil; omega
        subst h0
        obtain rfl : d = c := by simpa using hc
        rw [root_one]; rfl
      | _ :: _ :: _, h2, _, _ => simp at h2
end
end Go.Proofs.YtbolfkigiachlaaDoor.Tr

/-
  Trees: the sum of a kind and parts, of a chunk, of two sums: contracts. Own work.
-/
namespace Go.Proofs.YtbolfkigiachlaaDoor
open Go.RowKit Tr
def leafS (xs : List Int) : List Int := sumS (0 :: xs)
def nodeS (a b : List Int) : List Int := sumS (1 :: (a ++ b))
def noneS : List Int := sumS [2]
theorem leafS_len (xs : List Int) : (leafS xs).length = 32 := sumS_len _
theorem nodeS_len (a b : List Int) : (nodeS a b).length = 32 := sumS_len _
theorem noneS_len : noneS.length = 32 := sumS_len _
theorem leafS_by (xs : List Int) : IsBy (leafS xs) := sumS_by _
theorem nodeS_by (a b : List Int) : IsBy (nodeS a b) := sumS_by _
theorem noneS_by : IsBy noneS := sumS_by _
theorem by_cons {k : Int} {xs : List Int} (hk : 0 ≤ k ∧ k < 256) (h : IsBy xs) : IsBy (k :: xs) := by
  intro x hx
  rcases List.mem_cons.1 hx with rfl | hx
  · exact hk
  · exact h x hx
theorem sumLen2 (a b : List Int) : sumLen [a, b] 2 = a.length + b.length := by simp [sumLen]
theorem st_build2T {P : Program} {o : Oper} {a : Act} {w : World} {K : Act → World → Prop} {Q : Exit → Act → World → Prop} (t : TypeId) (x y : Operand) (ho : o.op = .buildSlice t 2 #[(0, x), (1, y)]) (e : TypeId) (i : TypeInfo) (z u v : Value) (ht : P.underlying t = some (.slice e)) (hi : P.info? e = some i) (hz : i.zero = some z) (hsz : i.size = 1) (hzc : z.cells = #[z]) (hx : a.eval x = u) (hy : a.eval y = v) (hu : u.cells = #[u]) (hv : v.cells = #[v])
    (hk : ∀ g w', Row w' e g [u, v] → w.heap.size ≤ g → g < w'.heap.size → Below w.heap.size w w' → K (a.put o.dst (.slice (some ⟨g, 0, none⟩) 2 2)) w') : o.wp P a w K Q :=
  st_build2 t x y ho e i z u v ht hi hz hsz hzc hx hy hu hv (hk _ _ (by unfold Row; exact heap_alloc_new _ _) (Nat.le_refl _) (by simp) ((Below.refl _ _).alloc (Nat.le_refl _) _))
set_option maxRecDepth 100000 in
set_option maxHeartbeats 2000000 in
theorem tsum_any (kd : Int) (l : List (List Int)) (C : Option Addr) (k f : Nat) (w : World) (hT : Tabs w) (hx : Bss w w.heap.size C k l) (hkd : 0 ≤ kd ∧ kd < 256) (hby : IsBy l.flatten) (hk : k ≤ 1000000) (hM : l.flatten.length ≤ 100000000) :
    Calls Tryd.prog 31 #[.int .u8 kd, .slice C k f] w fun e w' => e = .returned (.agg (bv (sumS (kd :: l.flatten))).toArray) ∧ Below w.heap.size w w' := by
  obtain ⟨isl, hsi, hsz0, hss⟩ := sl_info
  obtain ⟨i8, h8i, h8z, h8s, h8b⟩ := u8_info
  have hsl := sumS_len (kd :: l.flatten)
  have zf := hide (size32b hsl)
  have lf := hide (show (bv (List.replicate 32 0)).length = (bv (sumS (kd :: l.flatten))).length by rw [bv_len, bv_len, hsl, List.length_replicate])
  have hJ := fun w hx => join_any C k f l w hx hk (by have := sumLen_le l k; rw [show sumLen l l.length = l.flatten.length by unfold sumLen; rw [List.take_length]] at this; omega)
  have hJ2 := fun g c w hx => join_any (some ⟨g, 0, none⟩) 2 c [[kd], l.flatten] w hx (by decide) (by rw [sumLen2]; simp only [List.length_cons, List.length_nil]; omega)
  rw [show [[kd], l.flatten].flatten = kd :: l.flatten by simp] at hJ2
  have hS := fun A m c w hT hb hc hm => sum_any (kd :: l.flatten) A m c w hT hb (by_cons hkd hby) hc hm
  generalize sumS (kd :: l.flatten) = FS at *
  generalize hxs : l.flatten = xs at *
  have hlen : (kd :: xs).length = xs.length + 1 := rfl
  clear hsl hxs hby hk
  go_enter Tryd.func31, Tryd.ntmps31
  go_wp2_with (first
    | (with_reducible refine wl_alloc rfl 23 _ (bv (List.replicate 32 0)) rfl zero32b rfl ?_; intro g2 w2 r2 p2 l2 b2)
    | (with_reducible refine wl_build1 rfl 22 (.tmp 5) rfl 5 i8 (.int .u8 0) (.int .u8 kd) Tryd.underlying22 h8i h8z h8s rfl rfl rfl ?_; intro g3 w3 r3 p3 l3 b3))
  have B3 := b2.trans (b3.mono b2.size)
  have r2a := r2.later b3
  have hk1 : Bs w3 w3.heap.size (some ⟨g3, 0, none⟩) 1 [kd] := Bs.row (t := 5) r3 rfl
  clear r2 r3 b2 b3 l2 l3 p3
  refine (hJ w3 ((hx.below B3).up B3.size)).mono ?_
  rintro e w4 ⟨A4, n4, c4, rfl, h4, hc4, hM4, b4⟩
  have B4 := B3.trans (b4.mono B3.size)
  have r2b := r2a.later b4
  have hk2 := hk1.later b4
  clear hM4 hc4 r2a b4 B3 hk1 hJ
  go_wp2_with (first
    | (with_reducible refine wl_build2 rfl 28 (.tmp 6) (.tmp 8) rfl 22 isl (.slice none 0 0) (.slice (some ⟨g3, 0, none⟩) 1 1) (.slice A4 n4 c4) Tryd.underlying28 hsi hsz0 hss rfl rfl rfl rfl rfl ?_; intro g8 w5 r8 p8 l8 b5))
  have B5 := B4.trans (b5.mono B4.size)
  have r2c := r2b.later b5
  have hbs := r8.bss2 (hk2.later b5) (h4.later b5)
  clear r2b r8 h4 hk2 b5 B4
  refine (hJ2 g8 2 w5 hbs).mono ?_
  rintro e w6 ⟨A6, m6, c6, rfl, h6, hc6, hM6, b6⟩
  have B6 := B5.trans (b6.mono B5.size)
  have r2d := r2c.later b6
  have hm6 : m6 ≤ 4611686018427387904 := by have := h6.1; rw [hlen] at this; omega
  clear hM6 r2c b6 B5 hbs hJ2 hlen hM
  go_wp2_with fail
  refine (hS A6 m6 c6 w6 (hT.later B6) h6 hc6 hm6).mono ?_
  rintro e w7 ⟨rfl, b7⟩
  have B7 := B6.trans (b7.mono B6.size)
  have r2e := r2d.later b7
  clear hm6 r2d hS
  go_wp2_with (first
    | (with_reducible refine wl_store_row rfl 23 (.tmp 4) (.tmp 11) g2 23 _ (bv FS) rfl rfl rfl r2e zf.out lf.out (bv_one _) ?_; intro w8 r8 o8))
  refine bodyPost_ret (v := .agg (bv FS).toArray) ?_ rfl ⟨rfl, ?_⟩
  · exact results_cell_row Tryd.results31 _ _ g2 23 _ (0, 0) _ rfl r8 Tryd.underlying23 rfl zf.out
  · exact B7.trans (o8.below p2)
set_option maxRecDepth 100000 in
set_option maxHeartbeats 2000000 in
theorem leaf_any (xs : List Int) (A : Option Addr) (m c : Nat) (w : World) (hT : Tabs w) (hx : Bs w w.heap.size A m xs) (hby : IsBy xs) (hM : m ≤ 100000000) :
    Calls Tryd.prog 11 #[.slice A m c] w fun e w' => e = .returned (.agg (bv (leafS xs)).toArray) ∧ Below w.heap.size w w' := by
  obtain ⟨isl, hsi, hsz0, hss⟩ := sl_info
  have hsl := leafS_len xs
  have zf := hide (size32b hsl)
  have lf := hide (show (bv (List.replicate 32 0)).length = (bv (leafS xs)).length by rw [bv_len, bv_len, hsl, List.length_replicate])
  have hxl := hx.1
  have hS := fun g c w hT hx => tsum_any 0 [xs] (some ⟨g, 0, none⟩) 1 c w hT hx (by decide) (by simpa using hby) (by decide) (by simp; omega)
  rw [show [xs].flatten = xs by simp, show sumS (0 :: xs) = leafS xs from rfl] at hS
  generalize leafS xs = FS at *
  clear hsl hxl hM
  go_enter Tryd.func11, Tryd.ntmps11
  go_wp2_with (first
    | (with_reducible refine wl_alloc rfl 23 _ (bv (List.replicate 32 0)) rfl zero32b rfl ?_; intro g2 w2 r2 p2 l2 b2)
    | (with_reducible refine wl_build1 rfl 28 (.tmp 3) rfl 22 isl (.slice none 0 0) (.slice A m c) Tryd.underlying28 hsi hsz0 hss rfl rfl rfl ?_; intro g3 w3 r3 p3 l3 b3))
  have B3 := b2.trans (b3.mono b2.size)
  have r2a := r2.later b3
  have hbs := Row.bss1 r3 (hx.later B3)
  clear r2 r3 b2 b3 l2 l3 p3
  refine (hS g3 1 w3 (hT.later B3) hbs).mono ?_
  rintro e w7 ⟨rfl, b7⟩
  have B7 := B3.trans (b7.mono B3.size)
  have r2e := r2a.later b7
  clear r2a hS hbs
  go_wp2_with (first
    | (with_reducible refine wl_store_row rfl 23 (.tmp 2) (.tmp 5) g2 23 _ (bv FS) rfl rfl rfl r2e zf.out lf.out (bv_one _) ?_; intro w8 r8 o8))
  refine bodyPost_ret (v := .agg (bv FS).toArray) ?_ rfl ⟨rfl, ?_⟩
  · exact results_cell_row Tryd.results11 _ _ g2 23 _ (0, 0) _ rfl r8 Tryd.underlying23 rfl zf.out
  · exact B7.trans (o8.below p2)
def FNo (xa xb : List Int) (opn : Nat) (v : Value) (w : World) : Prop :=
  match opn with
  | 2 => BsF 2 [xa, xb] v w
  | _ => True
theorem FNo_mono (xa xb : List Int) : ∀ j v w w', FNo xa xb j v w → Below w.heap.size w w' → FNo xa xb j v w' := by
  intro j v w w' h hb
  unfold FNo at h ⊢
  split at h
  · exact h.later hb
  · trivial

def SNo (FS : List Int) (g2 g3 g4 : Nat) (opn : Nat) (v : Value) : Prop :=
  match opn with
  | 0 => v = .slice (some ⟨g2, 0, none⟩) 32 32
  | 1 => v = .slice (some ⟨g3, 0, none⟩) 32 32
  | 3 => v = .agg (bv FS).toArray
  | _ => True

set_option maxRecDepth 100000 in
set_option maxHeartbeats 2000000 in
theorem node_any (xa xb : List Int) (w : World) (hT : Tabs w) (ha : xa.length = 32) (hb : xb.length = 32) (hab : IsBy xa) (hbb : IsBy xb) :
    Calls Tryd.prog 13 #[.agg (bv xa).toArray, .agg (bv xb).toArray] w fun e w' => e = .returned (.agg (bv (nodeS xa xb)).toArray) ∧ Below w.heap.size w w' := by
  obtain ⟨isl, hsi, hsz0, hss⟩ := sl_info
  have hsl := nodeS_len xa xb
  have zf := hide (size32b hsl)
  have lf := hide (show (bv (List.replicate 32 0)).length = (bv (nodeS xa xb)).length by rw [bv_len, bv_len, hsl, List.length_replicate])
  have HSm := fun C c w hT hx => tsum_any 1 [xa, xb] C 2 c w hT hx (by decide) (by simpa using hab.app hbb) (by decide) (by simp; omega)
  rw [show [xa, xb].flatten = xa ++ xb by simp, show sumS (1 :: (xa ++ xb)) = nodeS xa xb from rfl] at HSm
  generalize nodeS xa xb = FS at *
  clear hsl hab hbb
  go_enter Tryd.func13, Tryd.ntmps13
  go_wp2_with (first
    | (with_reducible refine wl_box (o := ⟨some 2, _, _, _, _, _⟩) rfl 23 _ (.agg (bv xa).toArray) (bv xa) rfl rfl rfl ?_; intro g2 w2 r2 p2 l2 b2)
    | (with_reducible refine wl_box (o := ⟨some 3, _, _, _, _, _⟩) rfl 23 _ (.agg (bv xb).toArray) (bv xb) rfl rfl rfl ?_; intro g3 w3 r3 p3 l3 b3; have r2a := r2.later b3)
    | (with_reducible refine wl_alloc rfl 23 _ (bv (List.replicate 32 0)) rfl zero32b rfl ?_; intro g4 w4 r4 p4 l4 b4; have r2b := r2a.later b4; have r3b := r3.later b4))
  have B3 := b2.trans (b3.mono b2.size)
  have B4 := B3.trans (b4.mono B3.size)
  have q4 : w.heap.size ≤ g4 := Nat.le_trans B3.size p4
  have hT4 := hT.later B4
  clear r2 r2a r3 b2 b3 b4 B3 hT l2 l3 p2 p3 p4
  have hT := hT4
  have r2 := r2b
  have r3 := r3b
  clear hT4 r2b r3b
  rename_i K1 hK1
  refine wp_region_vals [2, 3, 4] (SNo FS g2 g3 g4) (JG g4 23 w4 [2, 3, 4] (FNo xa xb) 2 (bv FS)) (by kernel_rfl) (by kernel_rfl) (by kernel_rfl) (by kernel_rfl) (by kernel_rfl) (JG.start _) ?obs ?he
  case obs =>
    refine ⟨?_, ?_, ?_, ?_, ?_, trivial⟩
    · exact .inl ⟨by kernel_rfl, fun L a1 w1 n h => ⟨_, rfl, run_sliceAll 23 (.tmp 2) 32 5 g2 rfl Tryd.underlying23 Tryd.sizeOf5 (h.var n 2 (by kernel_rfl))⟩⟩
    · exact .inl ⟨by kernel_rfl, fun L a1 w1 n h => ⟨_, rfl, run_sliceAll 23 (.tmp 3) 32 5 g3 rfl Tryd.underlying23 Tryd.sizeOf5 (h.var n 3 (by kernel_rfl))⟩⟩
    · refine .inr fun L a1 w1 n h K hK => ?_
      have no : L.getD 4 false = false := n.later (by kernel_rfl)
      have hK := JG.cont hK no rfl (by decide)
      have h := JG.down h no rfl
      have e0 : a1.eval (.tmp 5) = .slice (some ⟨g2, 0, none⟩) 32 32 := h.dep n 0 5 (by kernel_rfl) rfl
      have e1 : a1.eval (.tmp 6) = .slice (some ⟨g3, 0, none⟩) 32 32 := h.dep n 1 6 (by kernel_rfl) rfl
      refine st_build2T 28 (.tmp 5) (.tmp 6) rfl 22 isl (.slice none 0 0) _ _ Tryd.underlying28 hsi hsz0 hss rfl e0 e1 rfl rfl ?_
      intro g7 w3 r7 a7 l7 b7
      exact JF.few (FNo_mono xa xb) h hK 7 rfl _ trivial ⟨_, _, rfl, r7.bss2 ((Bs.row (r2.later h.inv.1) ha).later b7) ((Bs.row (r3.later h.inv.1) hb).later b7)⟩ b7
    · refine .inr fun L a1 w1 n h K hK => ?_
      have no : L.getD 4 false = false := n.later (by kernel_rfl)
      have hK := JG.cont hK no rfl (by decide)
      have h := JG.down h no rfl
      obtain ⟨A15, c15, v15, q15⟩ := JF.get h n 2 7 (by kernel_rfl) (by kernel_rfl) rfl
      have e1 : a1.eval (.tmp 7) = .slice A15 2 c15 := v15
      refine JF.call (FNo_mono xa xb) h hK 8 rfl 31 _ _ #[.int .u8 1, .slice A15 2 c15] rfl Tryd.call31 ?_ (HSm A15 c15 w1 (hT.later h.inv.1) q15) ?_
      · simp only [List.map_toArray, List.map_cons, List.map_nil, e1]; rfl
      · rintro e w3 ⟨rfl, b9⟩
        exact ⟨_, rfl, rfl, trivial, b9⟩
    · refine .inr fun L a1 w1 n h K hK => ?_
      have no : L.getD 4 false = false := n.not_yet
      have h0 := (h.inv.1 ((bits_at rfl).trans no)).1
      refine st_store_row 23 (.tmp 4) (.tmp 8) g4 23 _ (bv FS) rfl (h.var n 4 (by kernel_rfl)) (h.dep n 3 8 (by kernel_rfl) rfl) (r4.later h0) (zf.out) (lf.out) (bv_one _) ?_
      intro w3 r3 o3
      exact JG.store h hK no rfl trivial r3 o3
  case he =>
    intro V w9 hV hJ2
    obtain ⟨bu, r9⟩ := hJ2.2 rfl
    clear hV hJ2
    simp only [putOps, List.setIfInBounds_toArray, List.set_cons_succ, List.set_cons_zero]
    refine hK1 _ _ ?_
    go_wp2_with fail
    refine bodyPost_ret (v := .agg (bv FS).toArray) ?_ rfl ⟨rfl, ?_⟩
    · exact results_cell_row Tryd.results13 _ _ g4 23 _ (0, 0) _ rfl r9 Tryd.underlying23 rfl zf.out
    · exact B4.trans (bu.below q4 B4.size)
end Go.Proofs.YtbolfkigiachlaaDoor

/-
  Trees, the document's answer: texts of leaves and nodes, and their sums: contracts. Own work.
-/
namespace Go.Proofs.YtbolfkigiachlaaDoor
open Go.RowKit Tr
/-- One byte. -/
def kindL (k : Int) : List Int := [k]
set_option maxRecDepth 100000 in
set_option maxHeartbeats 1000000 in
theorem leafText_any (xs : List Int) (A : Option Addr) (m c : Nat) (w : World) (hx : Bs w w.heap.size A m xs) (hM : m ≤ 100000000) :
    Calls Tryd.prog 27 #[.slice A m c] w (RetBs (0 :: xs) w) := by
  obtain ⟨i8, h8i, h8z, h8s, h8b⟩ := u8_info
  have hB := fun g w h1 h2 => both_any (some ⟨g, 0, none⟩) A 1 m 1 c [0] xs w h1 h2 (by omega)
  rw [show [(0 : Int)] ++ xs = 0 :: xs from rfl] at hB
  generalize hys : 0 :: xs = ys at *
  go_enter Tryd.func27, Tryd.ntmps27
  go_wp2_with (first
    | (with_reducible refine wl_build1 rfl 22 (.const (.int .u8 0)) rfl 5 i8 (.int .u8 0) (.int .u8 0) Tryd.underlying22 h8i h8z h8s rfl rfl rfl ?_; intro g3 w3 r3 p3 l3 b3))
  have hk1 : Bs w3 w3.heap.size (some ⟨g3, 0, none⟩) 1 [0] := Bs.row (t := 5) r3 rfl
  refine (hB g3 w3 hk1 (hx.later b3)).mono ?_
  rintro e w4 ⟨A4, n4, c4, rfl, h4, hc4, hM4, b4⟩
  clear hk1 r3 hB
  go_wp2_with fail
  go_ret
  exact ⟨A4, n4, c4, rfl, h4, hc4, hM4, b3.trans (b4.mono b3.size)⟩
def FNt (X0 X1 X2 : List Int) (opn : Nat) (v : Value) (w : World) : Prop :=
  match opn with
  | 0 => SlF X0 v w
  | 2 => SlF X1 v w
  | 4 => SlF X2 v w
  | 5 => SlF X2 v w
  | _ => True
theorem FNt_mono (X0 X1 X2 : List Int) : ∀ j v w w', FNt X0 X1 X2 j v w → Below w.heap.size w w' → FNt X0 X1 X2 j v w' := by
  intro j v w w' h hb
  unfold FNt at h ⊢
  split at h
  · exact h.later hb
  · exact h.later hb
  · exact h.later hb
  · exact h.later hb
  · trivial

def SNt (g2 g3 : Nat) (opn : Nat) (v : Value) : Prop :=
  match opn with
  | 1 => v = .slice (some ⟨g2, 0, none⟩) 32 32
  | 3 => v = .slice (some ⟨g3, 0, none⟩) 32 32
  | _ => True

set_option maxRecDepth 100000 in
set_option maxHeartbeats 2000000 in
theorem nodeText_any (xa xb : List Int) (w : World) (ha : xa.length = 32) (hb : xb.length = 32) :
    Calls Tryd.prog 30 #[.agg (bv xa).toArray, .agg (bv xb).toArray] w (RetBs (1 :: (xa ++ xb)) w) := by
  obtain ⟨i8, h8i, h8z, h8s, h8b⟩ := u8_info
  have HB1 : ∀ (g2 : Nat) A c w, Bs w w.heap.size A (kindL 1).length (kindL 1) → Row w 23 g2 (bv xa) → Calls Tryd.prog 39 #[.slice A (kindL 1).length c, .slice (some ⟨g2, 0, none⟩) 32 32] w (RetBs (kindL 1 ++ xa) w) := fun g2 A c w h1 h2 => both_any A _ _ 32 c 32 _ xa w h1 (Bs.row h2 ha) (by decide)
  have HB2 : ∀ (g3 : Nat) A c w, Bs w w.heap.size A (kindL 1 ++ xa).length (kindL 1 ++ xa) → Row w 23 g3 (bv xb) → Calls Tryd.prog 39 #[.slice A (kindL 1 ++ xa).length c, .slice (some ⟨g3, 0, none⟩) 32 32] w (RetBs (1 :: (xa ++ xb)) w) := fun g3 A c w h1 h2 => both_any A _ _ 32 c 32 _ xb w h1 (Bs.row h2 hb) (by rw [List.length_append, ha]; decide)
  have hX0 : kindL 1 = [1] := rfl
  have HX0 := hide hX0
  generalize kindL 1 ++ xa = X1 at *
  generalize 1 :: (xa ++ xb) = X2 at *
  generalize kindL 1 = X0 at *
  clear hX0
  go_enter Tryd.func30, Tryd.ntmps30
  go_wp2_with (first
    | (with_reducible refine wl_box (o := ⟨some 2, _, _, _, _, _⟩) rfl 23 _ (.agg (bv xa).toArray) (bv xa) rfl rfl rfl ?_; intro g2 w2 r2 p2 l2 b2)
    | (with_reducible refine wl_box (o := ⟨some 3, _, _, _, _, _⟩) rfl 23 _ (.agg (bv xb).toArray) (bv xb) rfl rfl rfl ?_; intro g3 w3 r3 p3 l3 b3; have r2a := r2.later b3))
  have B3 := b2.trans (b3.mono b2.size)
  clear r2 b2 b3 l2 l3 p2 p3
  have r2 := r2a
  clear r2a
  replace HB1 := HB1 g2
  replace HB2 := HB2 g3
  rename_i K1 hK1
  refine wp_region_vals [0, 2, 4, 5] (SNt g2 g3) (JF w3 [0, 2, 4, 5] (FNt X0 X1 X2)) (by kernel_rfl) (by kernel_rfl) (by kernel_rfl) (by kernel_rfl) (by kernel_rfl) (JF.start _) ?obs ?he
  case obs =>
    refine ⟨?_, ?_, ?_, ?_, ?_, ?_, trivial⟩
    · refine .inr fun L a1 w1 n h K hK => ?_
      refine st_build1 22 (.const (.int .u8 1)) rfl 5 i8 (.int .u8 0) (.int .u8 1) Tryd.underlying22 h8i h8z h8s rfl rfl rfl ?_
      intro g7 w3 r7 a7 l7 b7
      have hk7 : Bs w3 w3.heap.size (some ⟨g7, 0, none⟩) 1 [1] := Bs.row (t := 5) r7 rfl
      exact JF.few (FNt_mono X0 X1 X2) h hK 5 rfl _ trivial ⟨some ⟨g7, 0, none⟩, 1, by rw [HX0.out]; rfl, by rw [HX0.out]; exact hk7, by rw [HX0.out]; exact Nat.le_refl _, by decide⟩ b7
    · exact .inl ⟨by kernel_rfl, fun L a1 w1 n h => ⟨_, rfl, run_sliceAll 23 (.tmp 2) 32 5 g2 rfl Tryd.underlying23 Tryd.sizeOf5 (h.var n 2 (by kernel_rfl))⟩⟩
    · refine .inr fun L a1 w1 n h K hK => ?_
      obtain ⟨A1, c1, v1, q1, l1, _⟩ := JF.get h n 0 5 (by kernel_rfl) (by kernel_rfl) rfl
      have e0 : a1.eval (.tmp 5) = .slice A1 X0.length c1 := v1
      have e1 : a1.eval (.tmp 6) = .slice (some ⟨g2, 0, none⟩) 32 32 := h.dep n 1 6 (by kernel_rfl) rfl
      refine JF.call (FNt_mono X0 X1 X2) h hK 7 rfl 39 _ _ #[.slice A1 X0.length c1, .slice (some ⟨g2, 0, none⟩) 32 32] rfl Tryd.call39 ?_ (HB1 A1 c1 w1 q1 (r2.later h.inv.1)) ?_
      · simp only [List.map_toArray, List.map_cons, List.map_nil, e0, e1]
      · rintro e w3 h9
        obtain ⟨v9, rfl, f9, b9⟩ := SlF.of_ret h9
        exact ⟨_, rfl, trivial, f9, b9⟩
    · exact .inl ⟨by kernel_rfl, fun L a1 w1 n h => ⟨_, rfl, run_sliceAll 23 (.tmp 3) 32 5 g3 rfl Tryd.underlying23 Tryd.sizeOf5 (h.var n 3 (by kernel_rfl))⟩⟩
    · refine .inr fun L a1 w1 n h K hK => ?_
      obtain ⟨A1, c1, v1, q1, l1, _⟩ := JF.get h n 2 7 (by kernel_rfl) (by kernel_rfl) rfl
      have e0 : a1.eval (.tmp 7) = .slice A1 X1.length c1 := v1
      have e1 : a1.eval (.tmp 8) = .slice (some ⟨g3, 0, none⟩) 32 32 := h.dep n 3 8 (by kernel_rfl) rfl
      refine JF.call (FNt_mono X0 X1 X2) h hK 9 rfl 39 _ _ #[.slice A1 X1.length c1, .slice (some ⟨g3, 0, none⟩) 32 32] rfl Tryd.call39 ?_ (HB2 A1 c1 w1 q1 (r3.later h.inv.1)) ?_
      · simp only [List.map_toArray, List.map_cons, List.map_nil, e0, e1]
      · rintro e w3 h9
        obtain ⟨v9, rfl, f9, b9⟩ := SlF.of_ret h9
        exact ⟨_, rfl, trivial, f9, b9⟩
    · refine .inr fun L a1 w1 n h K hK => ?_
      obtain ⟨A9, c9, v9, h9⟩ := JF.get h n 4 9 (by kernel_rfl) (by kernel_rfl) rfl
      exact JF.run (FNt_mono X0 X1 X2) h hK 4 rfl (.slice A9 X2.length c9) (run_assign (.tmp 9) rfl v9) trivial ⟨A9, c9, rfl, h9⟩
  case he =>
    intro V w7 hV hJ
    obtain ⟨A9, c9, v9, h9, l9, m9⟩ := JF.last hJ 5 4 rfl rfl
    have hb7 := hJ.1
    clear hV hJ
    simp only [putOps, List.setIfInBounds_toArray, List.set_cons_succ, List.set_cons_zero]
    rw [v9]
    refine hK1 _ _ ?_
    clear hK1 v9 HB1 HB2
    go_wp2_with fail
    go_ret
    exact ⟨A9, _, c9, rfl, h9, l9, m9, B3.trans (hb7.mono B3.size)⟩
set_option maxRecDepth 100000 in
set_option maxHeartbeats 1000000 in
theorem rleaf_any (xs : List Int) (A : Option Addr) (m c : Nat) (w : World) (hx : Bs w w.heap.size A m xs) (hby : IsBy xs) (hM : m ≤ 50000000) :
    Calls Tryd.prog 12 #[.slice A m c] w fun e w' => e = .returned (.agg (bv (leafS xs)).toArray) ∧ Below w.heap.size w w' := by
  have hsl := leafS_len xs
  have zf := hide (size32b hsl)
  have lf := hide (show (bv (List.replicate 32 0)).length = (bv (leafS xs)).length by rw [bv_len, bv_len, hsl, List.length_replicate])
  have hTx := fun w h => leafText_any xs A m c w h (by omega)
  have hS := fun A m c w hb hc hm => rsum_any (0 :: xs) A m c w hb (by_cons (by decide) hby) hc hm
  rw [show sumS (0 :: xs) = leafS xs from rfl] at hS
  have hxl := hx.1
  have hlen : (0 :: xs).length = xs.length + 1 := rfl
  generalize leafS xs = FS at *
  generalize 0 :: xs = ys at *
  clear hsl hby
  go_enter Tryd.func12, Tryd.ntmps12
  go_wp2_with (first
    | (with_reducible refine wl_alloc rfl 23 _ (bv (List.replicate 32 0)) rfl zero32b rfl ?_; intro g2 w2 r2 p2 l2 b2))
  refine (hTx w2 (hx.later b2)).mono ?_
  rintro e w4 ⟨A4, n4, c4, rfl, h4, hc4, hM4, b4⟩
  have hn4 : n4 ≤ 100000000 := by have := h4.1; omega
  have B4 := b2.trans (b4.mono b2.size)
  have r2a := r2.later b4
  clear hM4 r2 hTx hlen
  go_wp2_with fail
  refine (hS A4 n4 c4 w4 h4 hc4 hn4).mono ?_
  rintro e w7 ⟨rfl, b7⟩
  have B7 := B4.trans (b7.mono B4.size)
  have r2e := r2a.later b7
  clear r2a hS h4 hn4
  go_wp2_with (first
    | (with_reducible refine wl_store_row rfl 23 (.tmp 2) (.tmp 5) g2 23 _ (bv FS) rfl rfl rfl r2e zf.out lf.out (bv_one _) ?_; intro w8 r8 o8))
  refine bodyPost_ret (v := .agg (bv FS).toArray) ?_ rfl ⟨rfl, ?_⟩
  · exact results_cell_row Tryd.results12 _ _ g2 23 _ (0, 0) _ rfl r8 Tryd.underlying23 rfl zf.out
  · exact B7.trans (o8.below p2)
set_option maxRecDepth 100000 in
set_option maxHeartbeats 1000000 in
theorem rnode_any (xa xb : List Int) (w : World) (ha : xa.length = 32) (hb : xb.length = 32) (hab : IsBy xa) (hbb : IsBy xb) :
    Calls Tryd.prog 14 #[.agg (bv xa).toArray, .agg (bv xb).toArray] w fun e w' => e = .returned (.agg (bv (nodeS xa xb)).toArray) ∧ Below w.heap.size w w' := by
  have hsl := nodeS_len xa xb
  have zf := hide (size32b hsl)
  have lf := hide (show (bv (List.replicate 32 0)).length = (bv (nodeS xa xb)).length by rw [bv_len, bv_len, hsl, List.length_replicate])
  have za := hide (size32b ha)
  have zb := hide (size32b hb)
  have hTx := fun w => nodeText_any xa xb w ha hb
  have hS := fun A m c w hb hc hm => rsum_any (1 :: (xa ++ xb)) A m c w hb (by_cons (by decide) (hab.app hbb)) hc hm
  rw [show sumS (1 :: (xa ++ xb)) = nodeS xa xb from rfl] at hS
  have hlen : (1 :: (xa ++ xb)).length = 65 := by simp; omega
  generalize nodeS xa xb = FS at *
  generalize 1 :: (xa ++ xb) = ys at *
  clear hsl hab hbb ha hb
  go_enter Tryd.func14, Tryd.ntmps14
  go_wp2_with (first
    | (with_reducible refine wl_box (o := ⟨some 2, _, _, _, _, _⟩) rfl 23 _ (.agg (bv xa).toArray) (bv xa) rfl rfl rfl ?_; intro g2 w2 r2 p2 l2 b2)
    | (with_reducible refine wl_box (o := ⟨some 3, _, _, _, _, _⟩) rfl 23 _ (.agg (bv xb).toArray) (bv xb) rfl rfl rfl ?_; intro g3 w3 r3 p3 l3 b3; have r2a := r2.later b3)
    | (with_reducible refine wl_alloc rfl 23 _ (bv (List.replicate 32 0)) rfl zero32b rfl ?_; intro g4 w4 r4 p4 l4 b4; have r2b := r2a.later b4; have r3b := r3.later b4)
    | (with_reducible refine wl_load_row (o := ⟨some 5, _, _, _, _, _⟩) rfl 23 (.tmp 2) g2 23 (bv xa) _ rfl rfl r2b Tryd.underlying23 rfl za.out ?_)
    | (with_reducible refine wl_load_row (o := ⟨some 6, _, _, _, _, _⟩) rfl 23 (.tmp 3) g3 23 (bv xb) _ rfl rfl r3b Tryd.underlying23 rfl zb.out ?_))
  have B3 := b2.trans (b3.mono b2.size)
  have B4 := B3.trans (b4.mono B3.size)
  have q4 : w.heap.size ≤ g4 := Nat.le_trans B3.size p4
  refine (hTx w4).mono ?_
  rintro e w5 ⟨A5, n5, c5, rfl, h5, hc5, hM5, b5⟩
  have hn5 : n5 ≤ 100000000 := by have := h5.1; omega
  have B5 := B4.trans (b5.mono B4.size)
  have r4a := r4.later b5
  clear hM5 r4 hTx hlen r2 r2a r2b r3 r3b
  go_wp2_with fail
  refine (hS A5 n5 c5 w5 h5 hc5 hn5).mono ?_
  rintro e w7 ⟨rfl, b7⟩
  have B7 := B5.trans (b7.mono B5.size)
  have r4e := r4a.later b7
  clear r4a hS h5 hn5
  go_wp2_with (first
    | (with_reducible refine wl_store_row rfl 23 (.tmp 4) (.tmp 8) g4 23 _ (bv FS) rfl rfl rfl r4e zf.out lf.out (bv_one _) ?_; intro w8 r8 o8))
  refine bodyPost_ret (v := .agg (bv FS).toArray) ?_ rfl ⟨rfl, ?_⟩
  · exact results_cell_row Tryd.results14 _ _ g4 23 _ (0, 0) _ rfl r8 Tryd.underlying23 rfl zf.out
  · exact B7.trans (o8.below q4)
end Go.Proofs.YtbolfkigiachlaaDoor

/-
  Lists of sums in memory: 32 bytes each, one behind the other; one that is built, read, appended to a list that has no room. Plain theorems over whatever program. Own work.
-/
namespace Go.Proofs.YtbolfkigiachlaaDoor
open Go.RowKit Tr
theorem setAll : ∀ (L : List Value) (k : Nat) (C : Array Value), ((L.zipIdx k).foldl (fun cs x => cs.setIfInBounds x.2 x.1) C).size = C.size ∧ ∀ j, ((L.zipIdx k).foldl (fun cs x => cs.setIfInBounds x.2 x.1) C)[j]? = if k ≤ j ∧ j < k + L.length ∧ j < C.size then L[j - k]? else C[j]? := by
  intro L
  induction L with
  | nil => intro k C; exact ⟨rfl, fun j => by rw [if_neg (by simp; omega)]; rfl⟩
  | cons v r ih =>
    intro k C
    obtain ⟨h1, h2⟩ := ih (k + 1) (C.setIfInBounds k v)
    simp only [List.zipIdx_cons, List.foldl_cons]
    refine ⟨by rw [h1, Array.size_setIfInBounds], fun j => ?_⟩
    rw [h2, Array.size_setIfInBounds, Array.getElem?_setIfInBounds]
    by_cases hc : k + 1 ≤ j ∧ j < k + 1 + r.length ∧ j < C.size
    · rw [if_pos hc, if_pos ⟨by omega, by rw [List.length_cons]; omega, hc.2.2⟩]
      obtain ⟨d, hd⟩ : ∃ d, j - k = d + 1 := ⟨j - k - 1, by omega⟩
      rw [hd, List.getElem?_cons_succ, show j - (k + 1) = d by omega]
    · rw [if_neg hc]
      by_cases hj : k = j
      · subst hj
        rw [if_pos rfl]
        by_cases hs : k < C.size
        · rw [if_pos hs, if_pos ⟨Nat.le_refl _, by rw [List.length_cons]; omega, hs⟩, Nat.sub_self]; rfl
        · rw [if_neg hs, if_neg (by omega)]; exact (Array.getElem?_eq_none (by omega)).symm
      · rw [if_neg hj, if_neg (by rw [List.length_cons]; omega)]
theorem fill_one (z M : Array Value) (hl : z.size = M.size) (h0 : 0 < M.size) : Instr.fill (fun i => some (i * M.size, M.size)) ((Array.range (1 * M.size)).map (z[· % z.size]!)) [(0, .agg M)] = some M := by
  have h : ((Array.range (1 * M.size)).map (z[· % z.size]!)).size = M.size := by simp
  generalize (Array.range (1 * M.size)).map (z[· % z.size]!) = C at *
  simp only [Instr.fill, Value.cells, Nat.zero_mul, Nat.zero_add]
  have key : M.zipIdx.foldl (fun cs x => cs.setIfInBounds x.2 x.1) C = M := by
    obtain ⟨h1, h2⟩ := setAll M.toList 0 C
    have e : M.zipIdx.foldl (fun cs x => cs.setIfInBounds x.2 x.1) C = (M.toList.zipIdx 0).foldl (fun cs x => cs.setIfInBounds x.2 x.1) C := by rw [← Array.foldl_toList, Array.toList_zipIdx]
    rw [e]
    apply Array.ext_getElem?
    intro j
    rw [h2]
    by_cases hj : j < M.size
    · rw [if_pos ⟨Nat.zero_le _, by simpa using hj, by omega⟩]; simp
    · rw [if_neg (by omega), Array.getElem?_eq_none (by omega), Array.getElem?_eq_none (by omega)]
  simp [h]
  simpa using key
theorem st_build1A {P : Program} {o : Oper} {a : Act} {w : World} {K : Act → World → Prop} {Q : Exit → Act → World → Prop} (t : TypeId) (x : Operand) (ho : o.op = .buildSlice t 1 #[(0, x)]) (e : TypeId) (i : TypeInfo) (z : Value) (M : List Value) (n : Nat) (ht : P.underlying t = some (.slice e)) (hi : P.info? e = some i) (hz : i.zero = some z) (hzs : z.cells.size = n) (hsz : i.size = n) (hl : M.length = n) (h0 : 0 < n) (hn : n ≤ 1000) (hx : a.eval x = .agg M.toArray)
    (hk : ∀ g w', Row w' e g M → w.heap.size ≤ g → g < w'.heap.size → Below w.heap.size w w' → K (a.put o.dst (.slice (some ⟨g, 0, none⟩) 1 1)) w') : o.wp P a w K Q := by
  have hzz : ∀ w, (zeroValue e).run P w = .ok z w := fun w => by simp [zeroValue, typeInfo, hi, hz]
  have hss : ∀ w, (sizeOf e).run P w = .ok n w := fun w => by simp [sizeOf, typeInfo, hi, hsz]
  have hM : M.toArray.size = n := by simpa using hl
  have hf := fill_one z.cells M.toArray (by rw [hzs, hM]) (by omega)
  rw [hM] at hf
  have hrun : (Instr.buildSlice t 1 #[(0, .agg M.toArray)]).run P w = .ok (.slice (some ⟨w.heap.size, 0, none⟩) 1 1) (w.alloc (.cells M.toArray e)) := by
    have h1 : ¬ (2 ^ 24 < 1 * n) := by omega
    have h2 : ¬ (1 * n = 0) := by omega
    simp only [Instr.buildSlice, run_underlying ht, Sem.run_bind, Sem.run_pure, Result.andThen_ok, hss, gt_iff_lt, h1, if_false, h2, hzz, hf, newRow]
    simp
  unfold Oper.wp execOp
  simp only [ho, List.map_toArray, List.map_cons, List.map_nil, hx, hrun, Sem.run_bind, Result.andThen_ok, Sem.run_pure]
  exact hk _ _ (by unfold Row; exact heap_alloc_new _ _) (Nat.le_refl _) (by simp) ((Below.refl _ _).alloc (Nat.le_refl _) _)
/-- Bytes that a row of lists has. -/
theorem owns_bs {w : World} {base e size n N : Nat} {v : Value} {xs : List Int} (h : w.ownsRow base e size v n (bv xs)) (hN : N = n * size) :
    ∃ A c, v = .slice A n c ∧ Bs w w.heap.size A N xs ∧ n ≤ c ∧ c ≤ maxLen ∧ (∀ x, A = some x → base ≤ x.block) := by
  subst hN
  have hl : xs.length = n * size := by have := h.1; rw [bv_len] at this; omega
  have hlt := h.lt
  rcases h.2 with ⟨rfl, rfl⟩ | ⟨g, cap, cur, rfl, hb, hg, hnc, hcm, hcs, htake⟩
  · exact ⟨none, 0, rfl, ⟨hl, fun h0 => absurd h0 (by omega)⟩, Nat.le_refl _, by decide, fun x hx => by cases hx⟩
  · refine ⟨some ⟨g, 0, none⟩, cap, rfl, ⟨hl, fun _ => ⟨g, 0, rfl, (hlt g rfl).2, fun j hj => ?_⟩⟩, hnc, hcm, fun x hx => by obtain rfl := Option.some.inj hx; exact hb⟩
    have := h.cells (g := g) rfl j (.int .u8 (xs.getD j 0)) (by simp [bv, List.getD, List.getElem?_eq_getElem (show j < xs.length by omega)])
    rw [addr_plain, Nat.zero_add] at this
    rw [Nat.zero_add]
    exact this
/-- 'append(s, x)' where s has no room: a new row. -/
theorem st_append_new {P : Program} {o : Oper} {a : Act} {w : World} {K : Act → World → Prop} {Q : Exit → Act → World → Prop} (s x : Operand) (t : TypeId) (ho : o.op = .call { callee := .builtin .append, args := #[s, x], argTypes := #[t, t] })
    (e : TypeId) (i : TypeInfo) (z : Value) (ht : P.underlying t = some (.slice e)) (hi : P.info? e = some i) (hz : i.zero = some z) (hsize : i.size = 32) (hby : i.bytes = 32) (hzs : z.cells.size = 32)
    (A : Option Addr) (n N : Nat) (hN : N = n * 32) (hs : a.eval s = .slice A n n) (xs : List Int) (B : Nat) (hb : Bs w B A N xs) (g c : Nat) (hx : a.eval x = .slice (some ⟨g, 0, none⟩) 1 c) (ys : List Int) (hy : ys.length = 32) (hg : Row w e g (bv ys)) (hn : n ≤ 1000000)
    (hk : ∀ A' c' w', Bs w' w'.heap.size A' (N + 32) (xs ++ ys) → n + 1 ≤ c' → c' ≤ maxLen → (∀ x, A' = some x → w.heap.size ≤ x.block) → Below w.heap.size w w' → K (a.put o.dst (.slice A' (n + 1) c')) w') : o.wp P a w K Q := by
  have key : ∃ v' w', (Builtin.append_ #[t, t] o.type #[.slice A n n, .slice (some ⟨g, 0, none⟩) 1 c]).run P w = .ok v' w' ∧ w'.ownsRow w.heap.size e 32 v' (n + 1) (bv (xs ++ ys)) ∧ w.grownBy w' none := by
    rcases A with _ | ad
    · have h0 : n = 0 := by
        rcases Nat.eq_zero_or_pos n with h0 | h0
        · exact h0
        · obtain ⟨_, _, h, _⟩ := hb.2 (by omega); cases h
      subst h0
      obtain rfl : xs = [] := List.eq_nil_of_length_eq_zero (by have := hb.1; omega)
      obtain ⟨v', w', h1, h2, h3, _⟩ := run_append_own (P := P) w w.heap.size t o.type e i z 32 32 ht hi hz hsize hby hzs (by decide) (.slice none 0 0) 0 [] (World.ownsRow_nil _ _ _ _) ⟨g, 0, none⟩ 1 c (bv ys) (by rw [bv_len, hy]) (row_src hg) (bv_one ys) (by decide) (by decide) (Nat.le_refl _)
      exact ⟨v', w', h1, h2, h3⟩
    · have hsrc : ∀ j u, (bv xs)[j]? = some u → w.cell? (ad.add j) = some u := by
        rcases Nat.eq_zero_or_pos N with h0 | h0
        · intro j u hu
          have hxl := hb.1
          obtain rfl : xs = [] := List.eq_nil_of_length_eq_zero (by omega)
          simp [bv] at hu
        · exact hb.cells rfl
      have := run_append_arg_grows (P := P) w t o.type e i z 32 32 ht hi hz hsize hby hzs (by decide) ad n n (bv xs) (by rw [bv_len, hb.1, hN]) hsrc ⟨g, 0, none⟩ 1 c (bv ys) (by rw [bv_len, hy]) (row_src hg) (by omega) (by simp only [maxLen]; omega) (by omega)
      rw [show bv xs ++ bv ys = bv (xs ++ ys) by simp [bv]] at this
      exact this
  obtain ⟨v', w', hrun, h2, h3⟩ := key
  obtain ⟨A', c', rfl, h4, h5, h6, h7⟩ := owns_bs (N := N + 32) h2 (by omega)
  unfold Oper.wp execOp
  simp only [ho, resolve, invoke, builtin, Sem.run_bind, Sem.run_pure, Result.andThen_ok, List.map_toArray, List.map_cons, List.map_nil, hs, hx, hrun]
  exact hk A' c' w' h4 h5 h6 h7 ⟨h3.os, h3.tape, h3.output, h3.size, fun k hk => h3.block k hk (by simp)⟩
/-- The cells of one sum. -/
theorem flat_at {ss : List (List Int)} (h : ∀ s ∈ ss, s.length = 32) (i : Nat) (s : List Int) (hs : ss[i]? = some s) (j : Nat) (hj : j < 32) : ss.flatten.getD (32 * i + j) 0 = s.getD j 0 := by
  induction ss generalizing i with
  | nil => simp at hs
  | cons a r ih =>
    have ha := h a (by simp)
    cases i with
    | zero =>
      obtain rfl : a = s := by simpa using hs
      rw [List.flatten_cons, Nat.mul_zero, Nat.zero_add]
      simp only [List.getD]
      rw [List.getElem?_append_left (by omega)]
    | succ i =>
      rw [List.flatten_cons]
      simp only [List.getD]
      rw [List.getElem?_append_right (by omega), ha, show 32 * (i + 1) + j - 32 = 32 * i + j by omega]
      exact ih (fun s hs => h s (List.mem_cons_of_mem _ hs)) i (by simpa using hs)
theorem flat_len {ss : List (List Int)} (h : ∀ s ∈ ss, s.length = 32) : ss.flatten.length = 32 * ss.length := by
  induction ss with
  | nil => rfl
  | cons a r ih => rw [List.flatten_cons, List.length_append, h a (by simp), ih (fun s hs => h s (List.mem_cons_of_mem _ hs)), List.length_cons]; omega
theorem flat_take {ss : List (List Int)} (h : ∀ s ∈ ss, s.length = 32) (k : Nat) (hk : k ≤ ss.length) : (ss.take k).flatten = ss.flatten.take (32 * k) := by
  induction ss generalizing k with
  | nil => simp
  | cons a r ih =>
    have ha := h a (by simp)
    cases k with
    | zero => simp
    | succ k =>
      rw [List.take_succ_cons, List.flatten_cons, List.flatten_cons, ih (fun s hs => h s (List.mem_cons_of_mem _ hs)) k (by simpa using hk), List.take_append, List.take_of_length_le (show a.length ≤ 32 * (k + 1) by omega), ha, show 32 * (k + 1) - 32 = 32 * k by omega]
/-- A list of sums, below block B. -/
structure Sms (w : World) (B : Nat) (A : Option Addr) (ss : List (List Int)) : Prop where
  bs : Bs w B A (32 * ss.length) ss.flatten
  len : ∀ s ∈ ss, s.length = 32
  byt : ∀ s ∈ ss, IsBy s
theorem Sms.cells {w : World} {B : Nat} {A : Option Addr} {ss : List (List Int)} (h : Sms w B A ss) {i : Nat} {s : List Int} (hs : ss[i]? = some s) :
    ∃ b o, A = some ⟨b, o, none⟩ ∧ b < B ∧ ∀ j v, (bv s)[j]? = some v → w.cell? ⟨b, o + i * 32 + j, none⟩ = some v := by
  have hi := (List.getElem?_eq_some_iff.1 hs).1
  have hsl := h.len s (List.mem_of_getElem? hs)
  obtain ⟨b, o, rfl, hb, hc⟩ := h.bs.2 (by omega)
  refine ⟨b, o, rfl, hb, fun j v hv => ?_⟩
  have hj : j < 32 := by have := (List.getElem?_eq_some_iff.1 hv).1; rw [bv_len, hsl] at this; exact this
  have := hc (32 * i + j) (by omega)
  rw [flat_at h.len i s hs j hj] at this
  rw [Nat.mul_comm i 32, Nat.add_assoc, this]
  simp [bv, List.getD, List.getElem?_eq_getElem (show j < s.length by omega)] at hv ⊢
  exact hv
theorem Sms.later {w w' : World} {A : Option Addr} {ss : List (List Int)} (h : Sms w w.heap.size A ss) (hb : Below w.heap.size w w') : Sms w' w'.heap.size A ss := ⟨h.bs.later hb, h.len, h.byt⟩
theorem Sms.below {w w' : World} {B : Nat} {A : Option Addr} {ss : List (List Int)} (h : Sms w B A ss) (hb : Below B w w') : Sms w' B A ss := ⟨h.bs.below hb, h.len, h.byt⟩
theorem Sms.up {w : World} {B B' : Nat} {A : Option Addr} {ss : List (List Int)} (h : Sms w B A ss) (hB : B ≤ B') : Sms w B' A ss := ⟨h.bs.up hB, h.len, h.byt⟩
theorem Sms.nil_ {w : World} {B : Nat} {A : Option Addr} : Sms w B A [] := ⟨Bs.nil_, fun _ h => (by cases h), fun _ h => (by cases h)⟩
theorem Sms.take {w : World} {B : Nat} {A : Option Addr} {ss : List (List Int)} (h : Sms w B A ss) (k : Nat) (hk : k ≤ ss.length) : Sms w B A (ss.take k) := by
  refine ⟨?_, fun s hs => h.len s (List.mem_of_mem_take hs), fun s hs => h.byt s (List.mem_of_mem_take hs)⟩
  rw [flat_take h.len k hk, List.length_take, Nat.min_eq_left hk]
  exact h.bs.take (by omega)
/-- The sums of trees. -/
abbrev rtS : List (List Int) → List Int := rootT leafS nodeS noneS
abbrev whS : List (List Int) → List (List Int) := wholeT leafS nodeS noneS
abbrev fdS : List (List Int) → List Int := foldW nodeS noneS
theorem root_any3 (P : List Int → Prop) (h1 : ∀ xs, P (leafS xs)) (h2 : ∀ a b, P (nodeS a b)) (h3 : P noneS) (l : List (List Int)) : P (rtS l) := by
  unfold rtS
  by_cases h : 2 ≤ l.length
  · rw [root_two _ _ _ l h]; exact h2 _ _
  · match l, h with
    | [], _ => rw [root_nil]; exact h3
    | [c], _ => rw [root_one]; exact h1 c
    | _ :: _ :: _, h => simp at h
theorem rtS_len (l : List (List Int)) : (rtS l).length = 32 := root_any3 (fun s => s.length = 32) leafS_len nodeS_len noneS_len l
theorem rtS_by (l : List (List Int)) : IsBy (rtS l) := root_any3 IsBy leafS_by nodeS_by noneS_by l
theorem whole_all (P : List Int → Prop) (h : ∀ l, P (rtS l)) : ∀ (n : Nat) (l : List (List Int)), l.length = n → ∀ s ∈ whS l, P s := by
  intro n
  induction n using Nat.strongRecOn with
  | ind n ih =>
    intro l hl s hs
    by_cases h1 : 1 ≤ l.length
    · unfold whS at hs
      rw [whole_cons _ _ _ l h1] at hs
      rcases List.mem_cons.1 hs with rfl | hs
      · exact h _
      · have := half_pos (l.length + 1)
        exact ih _ (by rw [← hl]; exact Nat.sub_lt h1 this) (l.drop (halfN (l.length + 1))) (by rw [List.length_drop]) s hs
    · obtain rfl := List.eq_nil_of_length_eq_zero (show l.length = 0 by omega)
      unfold whS at hs
      rw [whole_nil] at hs
      cases hs
theorem whS_len (l : List (List Int)) : ∀ s ∈ whS l, s.length = 32 := whole_all _ rtS_len _ l rfl
theorem whS_by (l : List (List Int)) : ∀ s ∈ whS l, IsBy s := whole_all _ rtS_by _ l rfl
theorem whS_few (l : List (List Int)) : (whS l).length ≤ l.length := by
  have key : ∀ (n : Nat) (l : List (List Int)), l.length = n → (whS l).length ≤ n := by
    intro n
    induction n using Nat.strongRecOn with
    | ind n ih =>
      intro l hl
      by_cases h1 : 1 ≤ l.length
      · unfold whS
        rw [whole_cons _ _ _ l h1, List.length_cons]
        have := half_pos (l.length + 1)
        have := ih (l.length - halfN (l.length + 1)) (by omega) (l.drop (halfN (l.length + 1))) (by rw [List.length_drop])
        unfold whS at this
        omega
      · obtain rfl := List.eq_nil_of_length_eq_zero (show l.length = 0 by omega)
        unfold whS
        rw [whole_nil]
        exact Nat.zero_le _
  exact key _ l rfl
end Go.Proofs.YtbolfkigiachlaaDoor

/-
  The shelf's function 125, in the numbers of this seat (made by lay.sh).
-/
namespace Go.Proofs.YtbolfkigiachlaaDoor
open Go.Shelf
def lenSL_ren : Go.Shelf.Ren := ⟨fun | 125 => 57 | 128 => 61 | 129 => 62 | n => n, fun | 46 => 61 | 3 => 3 | 51 => 64 | 53 => 70 | 4 => 4 | 5 => 5 | 9 => 9 | n => n, fun | n => n⟩
theorem lenSL : Go.Proofs.Lays.n125 Tryd.prog lenSL_ren := {
  mixed := by kernel_rfl
  f125 := Tryd.func57.trans (congrArg some (by kernel_rfl))
  f128 := Tryd.func61.trans (congrArg some (by kernel_rfl))
  f129 := Tryd.func62.trans (congrArg some (by kernel_rfl))
  t3 := Tryd.underlying3
  a3 := Tryd.isAgg3
  z3 := Tryd.sizeOf3
  v3 := Tryd.zeroValue3
  t4 := Tryd.underlying4
  a4 := Tryd.isAgg4
  z4 := Tryd.sizeOf4
  v4 := Tryd.zeroValue4
  t5 := Tryd.underlying5
  a5 := Tryd.isAgg5
  z5 := Tryd.sizeOf5
  v5 := Tryd.zeroValue5
  t9 := Tryd.underlying9
  a9 := Tryd.isAgg9
  z9 := Tryd.sizeOf9
  v9 := Tryd.zeroValue9
  t46 := Tryd.underlying61
  a46 := Tryd.isAgg61
  z46 := Tryd.sizeOf61
  v46 := Tryd.zeroValue61
  t51 := Tryd.underlying64
  a51 := Tryd.isAgg64
  z51 := Tryd.sizeOf64
  v51 := Tryd.zeroValue64
  t53 := Tryd.underlying70
  a53 := Tryd.isAgg70
  z53 := Tryd.sizeOf70
  v53 := Tryd.zeroValue70 }
end Go.Proofs.YtbolfkigiachlaaDoor

/-
  Trees: numbers: how often two divides one, how many bits one has, the first part of so many, the half. Own work.
-/
namespace Go.Proofs.YtbolfkigiachlaaDoor
open Go.RowKit Tr
/-- The tables of sha, and that of math/bits. -/
def Tb4 (w : World) : Prop := Tabs w ∧ 1 < w.heap.size ∧ ∀ j, j < 64 → w.cell? ⟨1, j, none⟩ = some (.int .u8 (Lib.deBruijn64tab.getD j 0 : Nat))
theorem Tb4.later {w w' : World} (h : Tb4 w) (hb : Below w.heap.size w w') : Tb4 w' :=
  ⟨h.1.later hb, Nat.lt_of_lt_of_le h.2.1 hb.size, fun j hj => (hb.cell (p := ⟨1, j, none⟩) h.2.1).trans (h.2.2 j hj)⟩
theorem ctz_odd {x t m : Nat} (h : x = 2 ^ t * (2 * m + 1)) (hx : x < 2 ^ 64) : Lib.ctz 64 x = t ∧ x ≠ 0 := by
  have hp : 0 < 2 ^ t := Nat.pow_pos (by decide)
  have hx0 : x ≠ 0 := by rw [h]; exact Nat.ne_of_gt (Nat.mul_pos hp (by omega))
  refine ⟨?_, hx0⟩
  unfold Lib.ctz
  rw [if_neg hx0]
  obtain ⟨m', hm', _⟩ := Lib.ctzFrom_spec 64 x (by omega) hx
  exact odd_unique (b := m') (d := m) (by rw [← hm', h])
set_option maxRecDepth 100000 in
set_option maxHeartbeats 1000000 in
theorem tz64_core (x k idx : Nat) (w : World) (hx0 : ((x : Int) == 0) = false)
    (key : IntKind.u64.wrap (bits BinOp.and IntKind.u64 (x : Int) (IntKind.u64.wrap (-(x : Int))) * 285870213051353865) / 288230376151711744 = (idx : Int))
    (hi : idx < 64) (hk : k < 64) (hcell : w.cell? ⟨1, idx, none⟩ = some (.int .u8 k)) :
    Calls Tryd.prog 48 #[.int .u64 x] w fun e w' => e = .returned (.int .i64 k) ∧ w' = w := by
  go_enter Tryd.func48, Tryd.ntmps48
  go_wp2_with (simp only [key])
  go_ret
  exact ⟨rfl, rfl⟩
theorem tz64_any (x t m : Nat) (w : World) (hT : Tb4 w) (h : x = 2 ^ t * (2 * m + 1)) (hx : x < 9223372036854775808) :
    Calls Tryd.prog 48 #[.int .u64 x] w fun e w' => e = .returned (.int .i64 t) ∧ w' = w := by
  obtain ⟨hc, hx0⟩ := ctz_odd h (by omega)
  obtain ⟨hlow, hk⟩ := Lib.lowest_bit 64 x hx0 (by omega)
  obtain ⟨hi, htab⟩ := Lib.deBruijn64_at _ hk
  have hcell := hT.2.2 _ hi
  rw [htab] at hcell
  have := tz64_core x _ _ w (by simp; omega) (tz64_key x _ (by omega) hx0 hlow) hi hk hcell
  rw [hc] at this
  exact this
set_option maxRecDepth 100000 in
theorem tz_any (x t m : Nat) (w : World) (hT : Tb4 w) (h : x = 2 ^ t * (2 * m + 1)) (hx : x < 9223372036854775808) :
    Calls Tryd.prog 37 #[.int .u64 x] w fun e w' => e = .returned (.int .i64 t) ∧ w = w' := by
  have H := tz64_any x t m w hT h hx
  clear h
  go_enter Tryd.func37, Tryd.ntmps37
  go_wp2_with fail
  refine H.mono ?_
  rintro e w' ⟨rfl, rfl⟩
  go_wp2_with fail
  go_ret
  exact ⟨rfl, rfl⟩
theorem bitLen_log : ∀ (f x : Nat), 0 < x → x < 2 ^ f → Lib.bitLenAux f x = Nat.log2 x + 1 := by
  intro f
  induction f with
  | zero => intro x h0 h; simp at h; omega
  | succ f ih =>
    intro x h0 h
    unfold Lib.bitLenAux
    rw [if_neg (by omega), Nat.log2_def]
    by_cases h2 : 2 ≤ x
    · rw [if_pos h2, ih (x / 2) (by omega) (by rw [Nat.pow_succ] at h; omega)]; omega
    · rw [if_neg h2]
      obtain rfl : x = 1 := by omega
      cases f with
      | zero => rfl
      | succ f => rfl
theorem len_nat (x : Nat) (w : World) (h0 : 0 < x) (h1 : x < 9223372036854775808) :
    Calls Tryd.prog 57 #[.int .u64 x] w fun e w' => e = .returned (.int .i64 ((Nat.log2 x + 1 : Nat) : Int)) ∧ w = w' := by
  have := Any.bits_Len lenSL (x : Int) w (by omega) (by omega)
  rw [Int.toNat_natCast, show Lib.bitLen x = Nat.log2 x + 1 from bitLen_log 64 x h0 (by omega)] at this
  exact this.mono fun e w' h => ⟨h.1, h.2.symm⟩
theorem half_bound {n : Nat} (h2 : 2 ≤ n) (hn : n < 9223372036854775808) : halfN n ≤ 4611686018427387904 ∧ Nat.log2 (n - 1) ≤ 62 := by
  have h1 := half_lt h2
  obtain ⟨k, hk⟩ := half_is n
  have hk63 : k < 63 := pow_mono_lt (by rw [← hk]; exact Nat.lt_trans h1 hn)
  have hl : Nat.log2 (n - 1) < 63 := pow_mono_lt (by show halfN n < 2 ^ 63; exact Nat.lt_trans h1 hn)
  refine ⟨?_, by omega⟩
  rw [hk]
  exact Nat.pow_le_pow_right (by decide) (show k ≤ 62 by omega)
set_option maxRecDepth 100000 in
set_option maxHeartbeats 1000000 in
theorem firstPart_any (n : Nat) (w : World) (h2 : 2 ≤ n) (hn : n < 9223372036854775808) :
    Calls Tryd.prog 46 #[.int .i64 n] w fun e w' => e = .returned (.int .i64 (halfN n)) ∧ w = w' := by
  obtain ⟨hb1, hb2⟩ := half_bound h2 hn
  have hL := len_nat (n - 1) w (by omega) (by omega)
  have hz : 2 ^ Nat.log2 (n - 1) = halfN n := rfl
  have e0 : (n : Int) - 1 = ((n - 1 : Nat) : Int) := by omega
  have hn1 : n - 1 < 9223372036854775808 := by omega
  have hnn : (n : Int) < 9223372036854775808 := by omega
  generalize Nat.log2 (n - 1) = q at *
  generalize halfN n = z at *
  have HZ := hide hz
  have E0 := hide e0
  have hb3 : z < 9223372036854775808 := by omega
  clear hz e0
  go_enter Tryd.func46, Tryd.ntmps46
  go_wp2_with fail
  rw [E0.out]
  refine hL.mono ?_
  rintro e w' ⟨rfl, rfl⟩
  rw [show ((q + 1 : Nat) : Int) = (q : Int) + 1 by omega]
  have hw : wrap64 ((2 : Int) ^ q) = (z : Int) := by
    rw [show (2 : Int) ^ q = ((2 ^ q : Nat) : Int) from (Int.natCast_pow 2 q).symm, HZ.out]
    unfold wrap64; omega
  go_wp2_with fail
  go_ret
  exact ⟨congrArg (fun y => Ending.returned (Value.int .i64 y)) hw, rfl⟩
set_option maxRecDepth 100000 in
set_option maxHeartbeats 2000000 in
theorem half_any (n : Nat) (w : World) (h2 : 2 ≤ n) (hn : n < 9223372036854775808) :
    Calls Tryd.prog 32 #[.int .i64 n] w fun e w' => e = .returned (.int .i64 (halfN n)) ∧ w = w' := by
  go_enter Tryd.func32, Tryd.ntmps32
  go_wp2_with fail
  go_loopw [3, 4] (fun kv iv wr => ∃ j K : Nat, j ≤ 62 ∧ iv = .int .i64 j ∧ kv = .int .i64 K ∧ Hid (K = 2 ^ j) ∧ K < n ∧ K ≤ 4611686018427387904 ∧ w = wr) (fun _ iv _ => 62 - (intOf iv).toNat)
  case atStart => exact ⟨0, 1, by omega, rfl, rfl, hide rfl, by omega, by omega, rfl⟩
  case round =>
    obtain ⟨j, K, hj, rfl, rfl, hK, hKn, hKb, rfl⟩ := hrel
    by_cases h62 : j < 62
    · by_cases hlt : K < n - K
      · have hd1 : decide ((j : Int) < 62) = true := by simp; omega
        have hd2 : decide ((K : Int) < (n : Int) - (K : Int)) = true := by simp; omega
        have hn' : (n : Int) < 9223372036854775808 := by omega
        have hK2 : K ≤ 2305843009213693952 := by
          rw [hK.out]
          exact Nat.pow_le_pow_right (by decide) (show j ≤ 61 by omega)
        go_wp2_with fail
        go_roundw
        case rel => exact ⟨j + 1, 2 * K, by omega, by go_num, by go_num, hide (by rw [hK.out, Nat.pow_succ, Nat.mul_comm]), by omega, by omega, trivial⟩
        case measure => simp [intOf]; omega
      · have hd1 : decide ((j : Int) < 62) = true := by simp; omega
        have hd2 : decide ((K : Int) < (n : Int) - (K : Int)) = false := by simp; omega
        have hn' : (n : Int) < 9223372036854775808 := by omega
        have hfin : halfN n = K := by rw [hK.out]; exact half_eq (by rw [← hK.out]; exact hKn) (by rw [← hK.out]; omega)
        have HF := hide hfin
        clear hfin
        go_wp2_with fail
        go_ret
        exact ⟨by rw [HF.out]; rfl, rfl⟩
    · have hd1 : decide ((j : Int) < 62) = false := by simp; omega
      have hfin : halfN n = K := by
        rw [hK.out]
        obtain rfl : j = 62 := by omega
        exact half_eq (by rw [← hK.out]; exact hKn) (by omega)
      have HF := hide hfin
      clear hfin
      go_wp2_with fail
      go_ret
      exact ⟨by rw [HF.out]; rfl, rfl⟩
end Go.Proofs.YtbolfkigiachlaaDoor

/-
  Trees: a Builder in memory; New, Len, Root: contracts. Own work.
-/
namespace Go.Proofs.YtbolfkigiachlaaDoor
open Go.RowKit Tr
/-- A Builder of the chunks l, at gb. -/
def BuildAt (w : World) (gb : Nat) (l : List (List Int)) : Prop :=
  ∃ A c, Row w 47 gb [.bool true, .int .i64 (l.length : Int), .slice A (whS l).length c] ∧ Sms w w.heap.size A (whS l) ∧ (whS l).length ≤ c ∧ Off gb (32 * (whS l).length) A
theorem BuildAt.later {w w' : World} {gb : Nat} {l : List (List Int)} (h : BuildAt w gb l) (hb : Below w.heap.size w w') : BuildAt w' gb l := by
  obtain ⟨A, c, h1, h2, h3, h4⟩ := h
  exact ⟨A, c, h1.later hb, h2.later hb, h3, h4⟩
theorem BuildAt.lt {w : World} {gb : Nat} {l : List (List Int)} (h : BuildAt w gb l) : gb < w.heap.size := by
  obtain ⟨A, c, h1, h2, h3, h4⟩ := h
  exact h1.lt
/-- No Builder: nil, or one that New did not make. -/
def NoBuild (w : World) (p : Option Addr) : Prop := p = none ∨ ∃ gb, p = some ⟨gb, 0, none⟩ ∧ Row w 47 gb [.bool false, .int .i64 0, .slice none 0 0]
theorem builtB : Tryd.prog.built 47 [(0, .bool true)] = some [Value.bool true, .int .i64 0, .slice none 0 0].toArray := by kernel_rfl
theorem size32c {M : List Int} (h : M.length = 32) : (Tryd.prog.info? 23).map (·.size) = some (bv M).length := size32b h
theorem Sms.keepOff {w w' : World} {g B : Nat} {A : Option Addr} {ss : List (List Int)} (h : Sms w B A ss) (hw : But g w w') (ho : Off g (32 * ss.length) A) (hB : B ≤ w.heap.size) : Sms w' B A ss := ⟨h.bs.keepOff hw ho hB, h.len, h.byt⟩
theorem Sms.but {w w' : World} {g B : Nat} {A : Option Addr} {ss : List (List Int)} (h : Sms w B A ss) (hw : But g w w') (hg : B ≤ g) (hB : B ≤ w.heap.size) : Sms w' B A ss := h.keepOff hw (Off.of h.bs hg) hB
theorem Tb4.but {g : Nat} {w w' : World} (h : Tb4 w) (hb : But g w w') (hg : 3 + 1 ≤ g) : Tb4 w' := by
  refine ⟨h.1.below (hb.below hg h.1.1) (Nat.le_refl _), Nat.lt_of_lt_of_le h.2.1 hb.size, fun j hj => ?_⟩
  rw [World.cell?_of_block (w := w) (a := ⟨1, j, none⟩) (hb.block _ h.2.1 (by show 1 ≠ g; omega))]
  exact h.2.2 j hj
set_option maxRecDepth 100000 in
theorem bNew_any (w : World) : Calls Tryd.prog 23 #[] w fun e w' => ∃ g, e = .returned (.pointer (some ⟨g, 0, none⟩)) ∧ w.heap.size ≤ g ∧ BuildAt w' g [] ∧ Below w.heap.size w w' := by
  have bB := builtB
  go_enter Tryd.func23, Tryd.ntmps23
  go_wp2_with (first
    | ((with_reducible refine wl_build rfl 47 [(0, .const (.bool true))] rfl _ ?hv _ bB ?hk); case hv => rfl)
    | (with_reducible refine wl_box rfl 47 (.tmp 1) _ [.bool true, .int .i64 0, .slice none 0 0] rfl rfl rfl ?_; intro g3 w3 r3 a3 l3 b3))
  go_ret
  refine ⟨g3, rfl, a3, ⟨none, 0, ?_, ?_, ?_, fun _ x hx => by cases hx⟩, b3⟩
  · unfold whS; rw [whole_nil]; exact r3
  · unfold whS; rw [whole_nil]; exact Sms.nil_
  · unfold whS; rw [whole_nil]; exact Nat.le_refl _
set_option maxRecDepth 100000 in
theorem bLen_any (w : World) (gb : Nat) (l : List (List Int)) (h : BuildAt w gb l) : Calls Tryd.prog 24 #[.pointer (some ⟨gb, 0, none⟩)] w fun e w' => e = .returned (.int .i64 (l.length : Int)) ∧ w = w' := by
  obtain ⟨A, c, h1, _⟩ := h
  have c1 := h1.cell (j := 1) rfl
  clear h1
  go_enter Tryd.func24, Tryd.ntmps24
  go_wp2_with fail
  go_ret
  exact ⟨rfl, rfl⟩
set_option maxRecDepth 100000 in
theorem bLen_no (w : World) (p : Option Addr) (h : NoBuild w p) : Calls Tryd.prog 24 #[.pointer p] w fun e w' => e = .returned (.int .i64 0) ∧ w = w' := by
  rcases h with rfl | ⟨gb, rfl, h1⟩
  · go_enter Tryd.func24, Tryd.ntmps24
    go_wp2_with fail
    go_ret
    exact ⟨rfl, rfl⟩
  · have c1 := h1.cell (j := 1) rfl
    clear h1
    go_enter Tryd.func24, Tryd.ntmps24
    go_wp2_with fail
    go_ret
    exact ⟨rfl, rfl⟩
set_option maxRecDepth 100000 in
theorem bAdd_no (w : World) (p : Option Addr) (v : Value) (h : NoBuild w p) : Calls Tryd.prog 26 #[.pointer p, v] w fun e w' => e = .returned (.tuple #[]) ∧ w = w' := by
  rcases h with rfl | ⟨gb, rfl, h1⟩
  · go_enter Tryd.func26, Tryd.ntmps26
    go_wp2_with fail
    exact bodyPost_ret (results_none rfl _ _ _) rfl ⟨rfl, rfl⟩
  · have c0 := h1.cell (j := 0) rfl
    clear h1
    go_enter Tryd.func26, Tryd.ntmps26
    go_wp2_with fail
    exact bodyPost_ret (results_none rfl _ _ _) rfl ⟨rfl, rfl⟩
theorem none_any (w : World) (hT : Tabs w) : Calls Tryd.prog 31 #[.int .u8 2, .slice none 0 0] w fun e w' => e = .returned (.agg (bv noneS).toArray) ∧ Below w.heap.size w w' :=
  tsum_any 2 [] none 0 0 w hT ⟨rfl, fun h => absurd h (by omega)⟩ (by decide) (fun x hx => by simp at hx) (by decide) (by decide)
set_option maxRecDepth 100000 in
set_option maxHeartbeats 1000000 in
theorem bRoot_none (w : World) (p : Option Addr) (hT : Tabs w) (hL : Calls Tryd.prog 24 #[.pointer p] w fun e w' => e = .returned (.int .i64 0) ∧ w = w')
    (hL2 : ∀ w1, Below w.heap.size w w1 → Calls Tryd.prog 24 #[.pointer p] w1 fun e w' => e = .returned (.int .i64 0) ∧ w1 = w') :
    Calls Tryd.prog 25 #[.pointer p] w fun e w' => e = .returned (.agg (bv noneS).toArray) ∧ Below w.heap.size w w' := by
  have hsl := noneS_len
  have zf := hide (size32b hsl)
  have lf := hide (show (bv (List.replicate 32 0)).length = (bv noneS).length by rw [bv_len, bv_len, hsl, List.length_replicate])
  have hN := fun w hT => none_any w hT
  generalize noneS = FS at *
  clear hL hsl
  go_enter Tryd.func25, Tryd.ntmps25
  go_wp2_with (first
    | (with_reducible refine wl_alloc rfl 23 _ (bv (List.replicate 32 0)) rfl zero32b rfl ?_; intro g2 w2 r2 p2 l2 b2))
  refine (hL2 w2 b2).mono ?_
  rintro e w3 ⟨rfl, rfl⟩
  go_wp2_with fail
  refine (hN w2 (hT.later b2)).mono ?_
  rintro e w7 ⟨rfl, b7⟩
  have B7 := b2.trans (b7.mono b2.size)
  have r2e := r2.later b7
  clear r2 hL2 hN
  go_wp2_with (first
    | (with_reducible refine wl_store_row rfl 23 (.tmp 2) (.tmp 9) g2 23 _ (bv FS) rfl rfl rfl r2e zf.out lf.out (bv_one _) ?_; intro w8 r8 o8))
  refine bodyPost_ret (v := .agg (bv FS).toArray) ?_ rfl ⟨rfl, ?_⟩
  · exact results_cell_row Tryd.results25 _ _ g2 23 _ (0, 0) _ rfl r8 Tryd.underlying23 rfl zf.out
  · exact B7.trans (o8.below p2)
end Go.Proofs.YtbolfkigiachlaaDoor

/-
  Trees: a Builder's Root: contract. Own work.
-/
namespace Go.Proofs.YtbolfkigiachlaaDoor
open Go.RowKit Tr
/-- An element of a slice of elements of several cells. -/
theorem run_indexSlN {P : Program} {w : World} {a : Act} {o : Oper} (t : TypeId) (x y : Operand) (e : TypeId) (z : Nat) (b off len cap i : Nat)
    (ho : o.op = .indexAddr t x y) (hu : P.underlying t = some (.slice e)) (hs : ∀ w, (sizeOf e).run P w = .ok z w) (hx : a.eval x = .slice (some ⟨b, off, none⟩) len cap) (hy : a.eval y = .int .i64 i) (hi : i < len) :
    (execOp a.eval o).run P w = .ok (.value (.pointer (some ⟨b, off + i * z, none⟩))) w := by
  unfold execOp
  simp only [ho, hx, hy]
  go_simp
/-- An array or a struct, out of cells that are known. -/
theorem run_loadM {P : Program} {w : World} {a : Act} {o : Oper} (ty : TypeId) (x : Operand) (g off : Nat) (M : List Value) (d : TypeDesc) (ho : o.op = .load ty x) (hx : a.eval x = .pointer (some ⟨g, off, none⟩)) (h : ∀ j v, M[j]? = some v → w.cell? ⟨g, off + j, none⟩ = some v)
    (hu : P.underlying ty = some d) (hd : (match d with | .struct _ | .array _ _ => true | _ => false) = true) (hi : (P.info? ty).map (·.size) = some M.length) : (execOp a.eval o).run P w = .ok (.value (.agg M.toArray)) w := by
  unfold execOp
  simp only [ho, hx, Instr.loadAt, Instr.sureAddr, Sem.run_bind, Sem.run_pure, Result.andThen_ok, run_loadVar_cells ty g off M d h hu hd hi]
theorem fold_stepQ (W : List (List Int)) (j : Nat) (s : List Int) (hs : W[j]? = some s) (h : j + 1 < W.length) : fdS (W.drop j) = nodeS s (fdS (W.drop (j + 1))) := by
  have := fold_step nodeS noneS W j h
  rw [(List.getElem?_eq_some_iff.1 hs).2] at this
  exact this
theorem fold_all (P : List Int → Prop) (h2 : ∀ a b, P (nodeS a b)) (h3 : P noneS) (W : List (List Int)) (h : ∀ s ∈ W, P s) : P (fdS W) := by
  unfold fdS
  cases W with
  | nil => exact h3
  | cons s r =>
    cases r with
    | nil => exact h s (by simp)
    | cons a b => rw [foldW_cons _ _ _ _ (by simp)]; exact h2 _ _
def SBr (sj cur nxt : List Int) (gb g4 b o c M i : Nat) (opn : Nat) (v : Value) : Prop :=
  match opn with
  | 0 | 1 => v = .pointer (some ⟨gb, 0, none⟩)
  | 2 => v = .pointer (some ⟨gb, 2, none⟩)
  | 3 => v = .slice (some ⟨b, o, none⟩) (M + 1) c
  | 4 => v = .int .i64 (M : Int)
  | 5 => v = .int .i64 ((M : Int) - 1)
  | 6 => v = .int .i64 (i : Int)
  | 7 => v = .int .i64 ((M - 1 - i : Nat) : Int)
  | 8 => v = .pointer (some ⟨b, o + (M - 1 - i) * 32, none⟩)
  | 9 => v = .agg (bv sj).toArray
  | 10 => v = .agg (bv cur).toArray
  | 11 => v = .agg (bv nxt).toArray
  | _ => True

set_option maxRecDepth 100000 in
set_option maxHeartbeats 4000000 in
theorem bRoot_any (w : World) (gb : Nat) (l : List (List Int)) (hT : Tabs w) (h : BuildAt w gb l) (hl : 1 ≤ l.length) (hl2 : l.length ≤ 1000000) :
    Calls Tryd.prog 25 #[.pointer (some ⟨gb, 0, none⟩)] w fun e w' => e = .returned (.agg (bv (rtS l)).toArray) ∧ Below w.heap.size w w' := by
  have hLen := fun w h => bLen_any w gb l h
  have hroot : rtS l = fdS (whS l) := root_whole _ _ _ _ l rfl
  have hfl := rtS_len l
  have hne : whS l ≠ [] := whole_ne _ _ _ l hl
  obtain ⟨A, c, hrow, hSm, hWc, hOff⟩ := h
  have hB : ∀ w1, Below w.heap.size w w1 → BuildAt w1 gb l := fun w1 b => (show BuildAt w gb l from ⟨A, c, hrow, hSm, hWc, hOff⟩).later b
  obtain ⟨M, hM⟩ : ∃ M, (whS l).length = M + 1 := ⟨(whS l).length - 1, by have := List.length_pos_iff.2 hne; omega⟩
  have hMb : (M : Int) ≤ 1000000 := by have := whS_few l; omega
  rw [hM] at hrow hWc
  have hq0 : ((l.length : Int) == 0) = false := beq_eq_false_iff_ne.2 (by omega)
  rw [hroot] at hfl ⊢
  have hWs : ∀ s ∈ whS l, s.length = 32 := hSm.len
  have hWb : ∀ s ∈ whS l, IsBy s := hSm.byt
  clear hroot hne hOff
  generalize whS l = W at *
  have zf := hide (size32b hfl)
  have lf := hide (show (bv (List.replicate 32 0)).length = (bv (fdS W)).length by rw [bv_len, bv_len, hfl, List.length_replicate])
  obtain ⟨b, o, rfl, hbB, _⟩ := hSm.cells (i := M) (s := W[M]'(by omega)) (List.getElem?_eq_getElem _)
  clear hfl
  go_enter Tryd.func25, Tryd.ntmps25
  go_wp2_with (first
    | (with_reducible refine wl_alloc rfl 23 _ (bv (List.replicate 32 0)) rfl zero32b rfl ?_; intro g2 w2 r2 p2 l2 b2))
  refine (hLen w2 (hB w2 b2)).mono ?_
  rintro e w3 ⟨rfl, rfl⟩
  have rB2 := hrow.later b2
  have c2 := rB2.cell (j := 2) rfl
  have hSm2 := (hSm.below b2)
  obtain ⟨b', o', hbo, _, hcM⟩ := hSm2.cells (i := M) (s := W[M]'(by omega)) (List.getElem?_eq_getElem _)
  injection hbo with hbo
  injection hbo with hb1 ho1 _
  subst hb1
  subst ho1
  have hsM : (W[M]'(by omega)).length = 32 := hWs _ (List.getElem_mem _)
  have zM := hide (size32b hsM)
  have lM := hide (show (bv (List.replicate 32 0)).length = (bv (W[M]'(by omega))).length by rw [bv_len, bv_len, hsM, List.length_replicate])
  have hf0 : W[M]'(by omega) = fdS (W.drop (M - 0)) := by
    rw [Nat.sub_zero, List.drop_eq_getElem_cons (show M < W.length by omega), List.drop_of_length_le (by omega)]
    rfl
  have HF0 := hide hf0
  clear hf0 hB hLen hsM
  generalize W[M]'(by omega) = sM at *
  go_wp2_with (first
    | (with_reducible refine wl_load_cells rfl 23 (.tmp 21) b (o + M * 32) (bv sM) _ rfl rfl hcM Tryd.underlying23 rfl zM.out ?_)
    | (with_reducible refine wl_alloc rfl 23 _ (bv (List.replicate 32 0)) rfl zero32b rfl ?_; intro g4 w4 r4 p4 l4 b4)
    | (with_reducible refine wl_store_row rfl 23 (.tmp 4) (.tmp 22) g4 23 _ (bv sM) rfl rfl rfl r4 zM.out lM.out (bv_one _) ?_; intro w5 r5 o5))
  have B4 := b2.trans (b4.mono b2.size)
  have q4 : w.heap.size ≤ g4 := Nat.le_trans b2.size p4
  have h24 : g2 ≠ g4 := by have := r2.lt; omega
  have r2a := (r2.later b4).only o5 h24
  have B5 := B4.trans (o5.below q4)
  rw [HF0.out] at r5
  clear r2 r4 b4 o5 B4 c2 hcM zM lM HF0 rB2 hSm2
  go_wp2_with fail
  go_loopw [24] (fun iv wr => ∃ i : Nat, i ≤ M ∧ iv = .int .i64 i ∧ Row wr 23 g4 (bv (fdS (W.drop (M - i)))) ∧ Row wr 23 g2 (bv (List.replicate 32 0)) ∧ Below w.heap.size w wr) (fun iv _ => M - (intOf iv).toNat)
  case atStart => exact ⟨0, Nat.zero_le _, rfl, r5, r2a, B5⟩
  case round =>
    clear r5 r2a B5
    obtain ⟨i, hi, rfl, r4, r2, br⟩ := hrel
    have hcl32 : (fdS (W.drop (M - i))).length = 32 := fold_all (fun s => s.length = 32) nodeS_len noneS_len _ fun s hs => hWs s (List.mem_of_mem_drop hs)
    have hcby : IsBy (fdS (W.drop (M - i))) := fold_all IsBy nodeS_by noneS_by _ fun s hs => hWb s (List.mem_of_mem_drop hs)
    have zc := hide (size32b hcl32)
    by_cases hlt : i < M
    · obtain ⟨sj, hsj⟩ : ∃ s, W[M - 1 - i]? = some s := ⟨_, List.getElem?_eq_getElem (by omega)⟩
      have hmem := List.mem_of_getElem? hsj
      have hj32 := hWs sj hmem
      have hjby := hWb sj hmem
      have hstep : fdS (W.drop (M - (i + 1))) = nodeS sj (fdS (W.drop (M - i))) := by
        have := fold_stepQ W (M - 1 - i) sj hsj (by omega)
        rw [show M - 1 - i + 1 = M - i by omega, show M - 1 - i = M - (i + 1) by omega] at this
        exact this
      have HST := hide hstep
      have hnl := nodeS_len sj (fdS (W.drop (M - i)))
      have zj := hide (size32b hj32)
      have zn := hide (size32b hnl)
      have ln := hide (show (bv (fdS (W.drop (M - i)))).length = (bv (nodeS sj (fdS (W.drop (M - i))))).length by rw [bv_len, bv_len, hnl, hcl32])
      have HN := fun w hT => node_any sj (fdS (W.drop (M - i))) w hT hj32 hcl32 hjby hcby
      have hSr := hSm.below br
      obtain ⟨b', o', hbo, _, hcM⟩ := hSr.cells (i := M - 1 - i) (s := sj) hsj
      injection hbo with hbo
      injection hbo with hb1 ho1 _
      subst hb1
      subst ho1
      have hcl : ∀ w1, But g4 wr w1 → ∀ j v, (bv sj)[j]? = some v → w1.cell? ⟨b, o + (M - 1 - i) * 32 + j, none⟩ = some v := fun w1 hb j v hv => (hb.cellB q4 br.size (show (⟨b, o + (M - 1 - i) * 32 + j, none⟩ : Addr).block < w.heap.size from hbB)).trans (hcM j v hv)
      have rB := hrow.later br
      have hb4 : gb ≠ g4 := by have := hrow.lt; omega
      have hTr := hT.later br
      have hg4 : 3 + 1 ≤ g4 := Nat.le_trans hT.1 q4
      have hd1 : decide ((i : Int) < (M : Int)) = true := by simp; omega
      have hQ0 : (M : Int) - 1 - (i : Int) = ((M - 1 - i : Nat) : Int) := by omega
      have HQ := hide hQ0
      have hq : M - 1 - i < M + 1 := by omega
      have hiI : (i : Int) < (M : Int) := by omega
      clear hstep hnl hj32 hjby hSr hcM hQ0 hmem hsj hcl32 hcby
      generalize nodeS sj (fdS (W.drop (M - i))) = nxt at *
      generalize fdS (W.drop (M - i)) = cur at *
      go_wp2_with fail
      replace hT := hTr
      refine wp_region_vals [11, 12] (SBr sj cur nxt gb g4 b o c M i) (JB g4 23 wr 1 (bv cur) (bv nxt)) (by kernel_rfl) (by kernel_rfl) (by kernel_rfl) (by kernel_rfl) (by kernel_rfl) (JB.start r4 rfl) ?obs ?he
      case obs =>
        refine ⟨?_, ?_, ?_, ?_, ?_, ?_, ?_, ?_, ?_, ?_, ?_, ?_, ?_, trivial⟩
        · exact .inl ⟨by kernel_rfl, fun L a1 w1 n' h => ⟨_, rfl, run_move (.tmp 0) rfl (h.var n' 0 (by kernel_rfl))⟩⟩
        · refine .inl ⟨by kernel_rfl, fun L a1 w1 n' h => ⟨.pointer (some ⟨gb, 0, none⟩), rfl, ?_⟩⟩
          have e0 : a1.eval (.tmp 27) = _ := h.dep n' 0 27 (by kernel_rfl) rfl
          unfold execOp
          simp only [e0]
          go_simp
        · refine .inl ⟨by kernel_rfl, fun L a1 w1 n' h => ⟨.pointer (some ⟨gb, 2, none⟩), rfl, ?_⟩⟩
          have e0 : a1.eval (.tmp 28) = _ := h.dep n' 1 28 (by kernel_rfl) rfl
          unfold execOp
          simp only [e0]
          go_simp
        · exact .inl ⟨by kernel_rfl, fun L a1 w1 n' h => ⟨_, rfl, run_loadA 31 (.tmp 29) ⟨gb, 2, none⟩ rfl Tryd.isAgg31 (h.dep n' 2 29 (by kernel_rfl) rfl) ((rB.but h.inv.2.2 hb4).cell (j := 2) rfl)⟩⟩
        · exact .inl ⟨by kernel_rfl, fun L a1 w1 n' h => ⟨_, rfl, run_move (.tmp 3) rfl (h.var n' 3 (by kernel_rfl))⟩⟩
        · refine .inl ⟨by kernel_rfl, fun L a1 w1 n' h => ⟨.int .i64 ((M : Int) - 1), rfl, ?_⟩⟩
          have e0 : a1.eval (.tmp 31) = _ := h.dep n' 4 31 (by kernel_rfl) rfl
          unfold execOp
          simp only [e0]
          go_simp
          rw [IntWalk.i64_in _ (by omega)]
        · exact .inl ⟨by kernel_rfl, fun L a1 w1 n' h => ⟨_, rfl, run_move (.tmp 5) rfl (h.var n' 5 (by kernel_rfl))⟩⟩
        · refine .inl ⟨by kernel_rfl, fun L a1 w1 n' h => ⟨.int .i64 ((M - 1 - i : Nat) : Int), rfl, ?_⟩⟩
          have e0 : a1.eval (.tmp 32) = _ := h.dep n' 5 32 (by kernel_rfl) rfl
          have e1 : a1.eval (.tmp 33) = _ := h.dep n' 6 33 (by kernel_rfl) rfl
          unfold execOp
          simp only [e0, e1]
          go_simp
          rw [IntWalk.i64_in _ (by omega), HQ.out]
        · exact .inl ⟨by kernel_rfl, fun L a1 w1 n' h => ⟨_, rfl, run_indexSlN 31 (.tmp 30) (.tmp 34) 23 32 b o (M + 1) c (M - 1 - i) rfl Tryd.underlying31 Tryd.sizeOf23 (h.dep n' 3 30 (by kernel_rfl) rfl) (h.dep n' 7 34 (by kernel_rfl) rfl) hq⟩⟩
        · exact .inl ⟨by kernel_rfl, fun L a1 w1 n' h => ⟨_, rfl, run_loadM 23 (.tmp 35) b (o + (M - 1 - i) * 32) (bv sj) _ rfl (h.dep n' 8 35 (by kernel_rfl) rfl) (hcl w1 h.inv.2.2) Tryd.underlying23 rfl zj.out⟩⟩
        · exact .inl ⟨by kernel_rfl, fun L a1 w1 n' h => ⟨_, rfl, run_loadRow 23 (.tmp 4) g4 23 _ _ rfl (h.var n' 4 (by kernel_rfl)) (h.inv.1 (n'.later (by kernel_rfl))) Tryd.underlying23 rfl (zc.out)⟩⟩
        · refine .inr fun L a1 w1 n' h K hK => ?_
          have e0 : a1.eval (.tmp 36) = .agg (bv sj).toArray := h.dep n' 9 36 (by kernel_rfl) rfl
          have e1 : a1.eval (.tmp 37) = .agg (bv cur).toArray := h.dep n' 10 37 (by kernel_rfl) rfl
          refine st_call 13 _ _ #[.agg (bv sj).toArray, .agg (bv cur).toArray] rfl Tryd.call13 ?_ (HN w1 (hT.below (h.inv.2.2.below hg4 hT.1) (Nat.le_refl _))) ?_
          · simp only [List.map_toArray, List.map_cons, List.map_nil, e0, e1]
          · rintro e w3 ⟨rfl, b9⟩
            exact ⟨_, rfl, hK _ w3 rfl (JB.callX h.inv b9 rfl)⟩
        · refine .inr fun L a1 w1 n' h K hK => ?_
          have no : L.getD 12 false = false := n'.not_yet
          refine st_store_row 23 (.tmp 4) (.tmp 38) g4 23 (bv cur) (bv nxt) rfl (h.var n' 4 (by kernel_rfl)) (h.dep n' 11 38 (by kernel_rfl) rfl) (h.inv.1 no) (zn.out) ln.out (bv_one _) ?_
          intro w3 r3 o3
          exact hK undef w3 trivial (JB.store h.inv o3 r3 rfl)
      case he =>
        intro V w7 hV hJ
        have r7 := hJ.2.1 rfl
        have bu := hJ.2.2
        clear hV hJ
        simp only [putOps, List.setIfInBounds_toArray, List.set_cons_succ, List.set_cons_zero, Nat.reduceAdd]
        go_wp2
        go_roundw
        case rel => exact ⟨i + 1, by omega, by go_num, by rw [HST.out]; exact r7, r2.but bu h24, br.trans (bu.below q4 br.size)⟩
        case measure => simp [intOf]; omega
    · have hiM : i = M := by omega
      have hd1 : decide ((i : Int) < (M : Int)) = false := by simp; omega
      rw [hiM, Nat.sub_self, List.drop_zero] at r4 zc
      have hd2 : decide ((M : Int) < (M : Int)) = false := by simp
      clear hlt
      go_wp2_with (first
        | (with_reducible refine wl_load_row rfl 23 (.tmp 4) g4 23 (bv (fdS W)) _ rfl rfl r4 Tryd.underlying23 rfl zc.out ?_)
        | (with_reducible refine wl_store_row rfl 23 (.tmp 2) (.tmp 40) g2 23 _ (bv (fdS W)) rfl rfl rfl r2 zf.out lf.out (bv_one _) ?_; intro w8 r8 o8))
      refine bodyPost_ret (v := .agg (bv (fdS W)).toArray) ?_ rfl ⟨rfl, ?_⟩
      · exact results_cell_row Tryd.results25 _ _ g2 23 _ (0, 0) _ rfl r8 Tryd.underlying23 rfl zf.out
      · exact br.trans (o8.below p2)
end Go.Proofs.YtbolfkigiachlaaDoor

/-
  Trees: a chunk that is added to a Builder: contract. Own work.
-/
namespace Go.Proofs.YtbolfkigiachlaaDoor
open Go.RowKit Tr
/-- 'x[:n:n]' of a slice. -/
theorem run_sliceMax {P : Program} (w : World) (T e z : Nat) (hu : P.underlying T = some (.slice e)) (hs : ∀ w, (sizeOf e).run P w = .ok z w) (A : Option Addr) (len cap n : Nat) (kd kd' : IntKind) (h1 : n ≤ cap) :
    (Instr.sliceAt T (.slice A len cap) none (some (.int kd n)) (some (.int kd' n))).run P w = .ok (.slice A n n) w := by
  have h3 : (0 : Int) ≤ n := by omega
  cases A with
  | none => simp [Instr.sliceAt, Instr.slice, underlying, hu, Instr.sliceBounds, Instr.sliceBound, asIntOf, h1, h3, hs]
  | some a => simp [Instr.sliceAt, Instr.slice, underlying, hu, Instr.sliceBounds, Instr.sliceBound, asIntOf, h1, h3, hs, addr_add0]
theorem run_sliceMaxO {P : Program} {w : World} {a : Act} {o : Oper} (T : Nat) (x y z : Operand) (ho : o.op = .slice T x none (some y) (some z)) (e sz : Nat) (hu : P.underlying T = some (.slice e)) (hs : ∀ w, (sizeOf e).run P w = .ok sz w) (A : Option Addr) (len cap n : Nat) (kd kd' : IntKind)
    (hx : a.eval x = .slice A len cap) (hy : a.eval y = .int kd n) (hz : a.eval z = .int kd' n) (h1 : n ≤ cap) : (execOp a.eval o).run P w = .ok (.value (.slice A n n)) w := by
  unfold execOp
  simp only [ho, hx, hy, hz, Option.map_some, Option.map_none, Sem.run_bind, run_sliceMax w T e sz hu hs A len cap n kd kd' h1, Result.andThen_ok, Sem.run_pure]
set_option maxRecDepth 100000 in
theorem clip_any (A : Option Addr) (n c : Nat) (w : World) (h : n ≤ c) : Calls Tryd.prog 38 #[.slice A n c] w fun e w' => e = .returned (.slice A n n) ∧ w = w' := by
  go_enter Tryd.func38, Tryd.ntmps38
  go_wp2_with (first
    | (with_reducible refine wl_run (o := ⟨some 8, _, _, _, _, _⟩) rfl _ (run_sliceMaxO 31 (.tmp 3) (.tmp 5) (.tmp 7) rfl 23 32 Tryd.underlying31 Tryd.sizeOf23 A n c n .i64 .i64 rfl rfl rfl h) ?_))
  go_ret
  exact ⟨rfl, rfl⟩
theorem run_lenSl {P : Program} {w : World} {a : Act} {o : Oper} (T e : Nat) (hu : P.underlying T = some (.slice e)) (x : Operand) {A : Option Addr} {n c : Nat} (ho : o.op = .call { callee := .builtin .len, args := #[x], argTypes := #[T] }) (hx : a.eval x = .slice A n c) : (execOp a.eval o).run P w = .ok (.value (.int .i64 (n : Int))) w := by
  unfold execOp
  simp only [ho, resolve, invoke, builtin, List.map_toArray, List.map_cons, List.map_nil, hx]
  simp [Builtin.len_, run_underlying hu, goInt]
theorem But.transN {g g' : Nat} {a b c : World} (h : But g a b) (k : But g' b c) (hg : a.heap.size ≤ g') : But g a c :=
  ⟨k.os.trans h.os, k.tape.trans h.tape, k.output.trans h.output, Nat.le_trans h.size k.size, fun i hi hne => (k.block i (Nat.lt_of_lt_of_le hi h.size) (by omega)).trans (h.block i hi hne)⟩
theorem But.transN2 {g : Nat} {a b c d : World} (h : But g a b) (k : Below b.heap.size b c) (o : Only g c d) (hs : a.heap.size ≤ b.heap.size) : But g a d := (h.trans (But.of k g)).trans (But.only o)
theorem s32_info_ : (Tryd.prog.info? 23).map (fun i => (i.zero, i.size, i.bytes)) = some (some (.agg (bv (List.replicate 32 0)).toArray), 32, 32) := by kernel_rfl
theorem s32_info : ∃ i, Tryd.prog.info? 23 = some i ∧ i.zero = some (.agg (bv (List.replicate 32 0)).toArray) ∧ i.size = 32 ∧ i.bytes = 32 := by
  obtain ⟨i, h0, h1, h2, h3⟩ := info_parts s32_info_
  exact ⟨i, h0, h1, h2, h3⟩
/-- What the region that lays one sum more keeps: Q behind the last store. -/
def JAd (w0 : World) (k : Nat) (fl p : List Int) (Q : World → Prop) (bs : List Bool) (vs : List Value) (w : World) : Prop :=
  (bs.getD 3 false = false → Below w0.heap.size w0 w) ∧
  (bs.getD 1 false = true → bs.getD 3 false = false → ∃ g, vs.getD 1 undef = .slice (some ⟨g, 0, none⟩) 1 1 ∧ Row w 23 g (bv p)) ∧
  (bs.getD 2 false = true → bs.getD 3 false = false → ∃ A' c', vs.getD 2 undef = .slice A' (k + 1) c' ∧ Bs w w.heap.size A' (32 * k + 32) (fl ++ p) ∧ k + 1 ≤ c' ∧ ∀ x, A' = some x → w0.heap.size ≤ x.block) ∧
  (bs.getD 3 false = true → Q w)
theorem JAd.start (w0 : World) (k : Nat) (fl p : List Int) (Q : World → Prop) (vs : List Value) : JAd w0 k fl p Q [false, false, false, false] vs w0.drew :=
  ⟨fun _ => (Below.refl _ _).drew, fun h => absurd (show false = true from h) (by decide), fun h => absurd (show false = true from h) (by decide), fun h => absurd (show false = true from h) (by decide)⟩
def SAd2 (lf : List Int) (A' A : Option Addr) (gb m cc N c : Nat) (opn : Nat) (v : Value) : Prop :=
  match opn with
  | 0 => v = .slice A' m cc
  | 1 => v = .agg (bv lf).toArray
  | 2 | 3 => v = .pointer (some ⟨gb, 0, none⟩)
  | 4 => v = .pointer (some ⟨gb, 2, none⟩)
  | 5 => v = .slice A N c
  | 6 | 9 => v = .int .i64 (N : Int)
  | _ => True

def SAd6 (sj cur nxt : List Int) (gb g4 b o c N K : Nat) (opn : Nat) (v : Value) : Prop :=
  match opn with
  | 0 | 1 => v = .pointer (some ⟨gb, 0, none⟩)
  | 2 => v = .pointer (some ⟨gb, 2, none⟩)
  | 3 => v = .slice (some ⟨b, o, none⟩) N c
  | 4 => v = .int .i64 (K : Int)
  | 5 => v = .pointer (some ⟨b, o + K * 32, none⟩)
  | 6 => v = .agg (bv sj).toArray
  | 7 => v = .agg (bv cur).toArray
  | 8 => v = .agg (bv nxt).toArray
  | _ => True

def SAd8 (p : List Int) (A : Option Addr) (gb g4 c N k : Nat) (opn : Nat) (v : Value) : Prop :=
  match opn with
  | 0 | 1 | 2 | 11 => v = .pointer (some ⟨gb, 0, none⟩)
  | 3 | 12 => v = .pointer (some ⟨gb, 2, none⟩)
  | 4 => v = .slice A N c
  | 5 => v = .int .i64 (k : Int)
  | 6 => v = .slice A k c
  | 7 => v = .slice A k k
  | 8 => v = .agg (bv p).toArray
  | _ => True

theorem szSs : (Tryd.prog.info? 31).map (·.size) = some 1 := by kernel_rfl
theorem szInt : (Tryd.prog.info? 3).map (·.size) = some 1 := by kernel_rfl
set_option maxRecDepth 100000 in
set_option maxHeartbeats 8000000 in
theorem bAdd_any (w : World) (gb : Nat) (l : List (List Int)) (xs : List Int) (A' : Option Addr) (m cc : Nat) (hT : Tb4 w) (h : BuildAt w gb l) (hx : Bs w w.heap.size A' m xs) (hby : IsBy xs) (hm : m ≤ 100000000) (hl : l.length ≤ 1000000) (hg : 3 + 1 ≤ gb) (ho : Off gb m A') :
    Calls Tryd.prog 26 #[.pointer (some ⟨gb, 0, none⟩), .slice A' m cc] w fun e w' => e = .returned (.tuple #[]) ∧ BuildAt w' gb (l ++ [xs]) ∧ But gb w w' := by
  obtain ⟨i32, hi32, hz32, hs32, hb32⟩ := s32_info
  have zs32c : (Value.agg (bv (List.replicate 32 0)).toArray).cells.size = 32 := by simp [Value.cells, bv]
  obtain ⟨t, mm, htm⟩ := odd_exists (l.length + 1) (by omega)
  obtain ⟨htN, hadd⟩ := add_whole leafS nodeS noneS l.length l xs t mm rfl htm
  obtain ⟨A, c, hrow, hSm, hWc, hOff⟩ := h
  have hWs : ∀ s ∈ whS l, s.length = 32 := hSm.len
  have hWb : ∀ s ∈ whS l, IsBy s := hSm.byt
  have hfew := whS_few l
  have htN' : t ≤ (whS l).length := htN
  clear htN
  have hLfl := leafS_len xs
  have hLfb := leafS_by xs
  have HLf := fun w hT hx => leaf_any xs A' m cc w hT hx hby hm
  have hfin : whS (l ++ [xs]) = (whS l).take ((whS l).length - t) ++ [fdS ((whS l).drop ((whS l).length - t) ++ [leafS xs])] := hadd
  have hlen1 : (l ++ [xs]).length = l.length + 1 := by simp
  have HTZ := fun w hT => tz_any (l.length + 1) t mm w hT htm (by omega)
  have zl := hide (size32b hLfl)
  have ll := hide (show (bv (List.replicate 32 0)).length = (bv (leafS xs)).length by rw [bv_len, bv_len, hLfl, List.length_replicate])
  clear htm hadd hby hm
  generalize hW' : whS (l ++ [xs]) = W' at *
  generalize whS l = W at *
  generalize leafS xs = lf at *
  obtain ⟨N, hN⟩ : ∃ N, W.length = N := ⟨_, rfl⟩
  rw [hN] at hrow hWc hOff hfew hfin htN'
  have HF := hide hfin
  have HW' := hide hW'
  clear hW'
  have HL1 := hide hlen1
  clear hfin hlen1
  have c0 := hrow.cell (j := 0) rfl
  have c1 := hrow.cell (j := 1) rfl
  have hlI : (l.length : Int) ≤ 1000000 := by omega
  have h13 : 1 < ([Value.bool true, .int .i64 (l.length : Int), .slice A N c] : List Value).length := by simp
  go_enter Tryd.func26, Tryd.ntmps26
  go_wp2_with (first
    | (with_reducible refine wl_store rfl 3 (.tmp 21) (.tmp 19) gb 1 47 _ (.int .i64 ((l.length : Int) + 1)) rfl szInt rfl rfl hrow h13 rfl ?_; intro w1 r1 o1))
  have r1' : Row w1 47 gb [.bool true, .int .i64 ((l.length : Int) + 1), .slice A N c] := r1
  clear r1 c0 c1 h13
  have r1 := r1'
  have but1 : But gb w w1 := But.only o1
  have hT4 := hT.but but1 hg
  have hT1 := hT4.1
  have hx1 : Bs w1 w1.heap.size A' m xs := (hx.keepOff but1 ho (Nat.le_refl _)).up but1.size
  have hSm1 : Sms w1 w.heap.size A W := hSm.keepOff but1 (by rw [hN]; exact hOff) (Nat.le_refl _)
  have hgw : gb < w.heap.size := hrow.lt
  have s1 := but1.size
  clear r1' o1 hrow
  refine wp_region_vals [1, 7, 8] (SAd2 lf A' A gb m cc N c) (JA w1 23 (bv (List.replicate 32 0)) (bv lf) 1 2) (by kernel_rfl) (by kernel_rfl) (by kernel_rfl) (by kernel_rfl) (by kernel_rfl) ⟨(Below.refl _ _).drew, fun h => by cases h⟩ ?obsA ?heA
  case obsA =>
    refine ⟨?_, ?_, ?_, ?_, ?_, ?_, ?_, ?_, ?_, ?_, trivial⟩
    · exact .inl ⟨by kernel_rfl, fun L a1 w1 n' h => ⟨_, rfl, run_move (.tmp 1) rfl (h.var n' 1 (by kernel_rfl))⟩⟩
    · refine .inr fun L a1 w1 n' h K hK => ?_
      have e0 : a1.eval (.tmp 22) = .slice A' m cc := h.dep n' 0 22 (by kernel_rfl) rfl
      refine st_call 11 _ _ #[.slice A' m cc] rfl Tryd.call11 ?_ (HLf w1 (hT1.later h.inv.1) (hx1.later h.inv.1)) ?_
      · simp only [List.map_toArray, List.map_cons, List.map_nil, e0]
      · rintro e w3 ⟨rfl, b9⟩
        exact ⟨_, rfl, hK _ w3 rfl (JA.grow h.inv b9 rfl rfl rfl)⟩
    · exact .inl ⟨by kernel_rfl, fun L a1 w1 n' h => ⟨_, rfl, run_move (.tmp 0) rfl (h.var n' 0 (by kernel_rfl))⟩⟩
    · refine .inl ⟨by kernel_rfl, fun L a1 w1 n' h => ⟨.pointer (some ⟨gb, 0, none⟩), rfl, ?_⟩⟩
      have e0 : a1.eval (.tmp 24) = _ := h.dep n' 2 24 (by kernel_rfl) rfl
      unfold execOp
      simp only [e0]
      go_simp
    · refine .inl ⟨by kernel_rfl, fun L a1 w1 n' h => ⟨.pointer (some ⟨gb, 2, none⟩), rfl, ?_⟩⟩
      have e0 : a1.eval (.tmp 25) = _ := h.dep n' 3 25 (by kernel_rfl) rfl
      unfold execOp
      simp only [e0]
      go_simp
    · exact .inl ⟨by kernel_rfl, fun L a1 w1 n' h => ⟨_, rfl, run_loadA 31 (.tmp 26) ⟨gb, 2, none⟩ rfl Tryd.isAgg31 (h.dep n' 4 26 (by kernel_rfl) rfl) ((Row.later r1 h.inv.1).cell (j := 2) rfl)⟩⟩
    · exact .inl ⟨by kernel_rfl, fun L a1 w1 n' h => ⟨_, rfl, run_lenSl 31 23 Tryd.underlying31 (.tmp 27) rfl (h.dep n' 5 27 (by kernel_rfl) rfl)⟩⟩
    · refine .inr fun L a1 w1 n' h K hK => ?_
      have no : L.getD 8 false = false := n'.later (by kernel_rfl)
      refine st_alloc 23 _ _ rfl zero32b rfl ?_
      intro g7 w3 r7 a7 l7 b7
      exact hK _ _ trivial (JA.made h.inv b7 r7 a7 rfl no)
    · refine .inr fun L a1 w1 n' h K hK => ?_
      have yes : L.getD 7 false = true := n'.dep (by kernel_rfl)
      have no : L.getD 8 false = false := n'.not_yet
      obtain ⟨g7, p7, n7, r7⟩ := h.inv.2 yes
      have r7' : Row w1 23 g7 (bif L.getD 8 false then bv lf else _) := r7
      rw [no, cond_false] at r7'
      refine st_store_row 23 (.tmp 4) (.tmp 23) g7 23 _ (bv lf) rfl p7 (h.dep n' 1 23 (by kernel_rfl) rfl) r7' (zl.out) (ll.out) (bv_one _) ?_
      intro w3 r3 o3
      exact hK undef w3 trivial (JA.filled h.inv o3 n7 r3 p7 rfl)
    · exact .inl ⟨by kernel_rfl, fun L a1 w1 n' h => ⟨_, rfl, run_assign (.tmp 28) rfl (h.dep n' 6 28 (by kernel_rfl) rfl)⟩⟩
  case heA =>
    intro V w2 hV hJ
    obtain ⟨b2, hJ2⟩ := hJ
    obtain ⟨g4, p7, n7, r7⟩ := hJ2 rfl
    have hp : V 7 = .pointer (some ⟨g4, 0, none⟩) := p7
    have hp9 : V 9 = .int .i64 (N : Int) := hV 9 5 rfl
    have r4 : Row w2 23 g4 (bv lf) := r7
    clear hJ2 p7 r7 hV
    simp only [putOps, List.setIfInBounds_toArray, List.set_cons_succ, List.set_cons_zero, Nat.reduceAdd, Act.put]
    rw [hp, hp9]
    have rB := r1.later b2
    have hT2 := hT4.later b2
    have but2 : But gb w w2 := but1.trans (But.of b2 gb)
    have hSm2 : Sms w2 w.heap.size A W := hSm1.below (b2.mono s1)
    have c1 := rB.cell (j := 1) rfl
    have q4 : w.heap.size ≤ g4 := Nat.le_trans s1 n7
    clear hp hp9 HLf hx1 hSm1 r1 hT4 hT1 b2 but1
    go_wp2_with fail
    rw [show (l.length : Int) + 1 = ((l.length + 1 : Nat) : Int) by omega]
    refine (HTZ w2 hT2).mono ?_
    rintro e w3 ⟨rfl, rfl⟩
    rw [show ((l.length + 1 : Nat) : Int) = (l.length : Int) + 1 by omega]
    have hcur0 : lf = fdS (W.drop (N - 0) ++ [lf]) := by
      rw [Nat.sub_zero, List.drop_of_length_le (by omega)]
      rfl
    have r4' : Row w2 23 g4 (bv (fdS (W.drop (N - 0) ++ [lf]))) := by rw [← hcur0]; exact r4
    have r4'lt := r4.lt
    clear r4 hcur0 c1 HTZ
    go_wp2_with fail
    go_loopw [5, 35] (fun lv iv wr => ∃ i : Nat, i ≤ t ∧ iv = .int .i64 i ∧ lv = .int .i64 ((N - i : Nat) : Int) ∧ Row wr 23 g4 (bv (fdS (W.drop (N - i) ++ [lf]))) ∧ Row wr 47 gb [.bool true, .int .i64 ((l.length : Int) + 1), .slice A N c] ∧ But gb w wr ∧ w2.heap.size ≤ wr.heap.size) (fun _ iv _ => t - (intOf iv).toNat)
    case atStart => exact ⟨0, Nat.zero_le _, rfl, rfl, r4', rB, but2, Nat.le_refl _⟩
    case round =>
      clear r4' rB but2
      obtain ⟨i, hi, rfl, rfl, r4, rB, butr, hsr⟩ := hrel
      have hg4w : g4 < w2.heap.size := r4'lt
      have hp32 : (fdS (W.drop (N - i) ++ [lf])).length = 32 := fold_all (fun s => s.length = 32) nodeS_len noneS_len _ fun s hs => by
        rcases List.mem_append.1 hs with hs | hs
        · exact hWs s (List.mem_of_mem_drop hs)
        · obtain rfl := List.mem_singleton.1 hs; exact hLfl
      have hpby : IsBy (fdS (W.drop (N - i) ++ [lf])) := fold_all IsBy nodeS_by noneS_by _ fun s hs => by
        rcases List.mem_append.1 hs with hs | hs
        · exact hWb s (List.mem_of_mem_drop hs)
        · obtain rfl := List.mem_singleton.1 hs; exact hLfb
      have zc := hide (size32b hp32)
      have hsw : w.heap.size ≤ wr.heap.size := butr.size
      have hb4 : gb ≠ g4 := by omega
      have hSr : Sms wr w.heap.size A W := hSm.keepOff butr (by rw [hN]; exact hOff) (Nat.le_refl _)
      have hTr := hT.but butr hg
      by_cases hlt : i < t
      · have hK : N - (i + 1) < N := by omega
        obtain ⟨sj, hsj⟩ : ∃ s, W[N - (i + 1)]? = some s := ⟨_, List.getElem?_eq_getElem (by omega)⟩
        have hmem := List.mem_of_getElem? hsj
        have hj32 := hWs sj hmem
        have hjby := hWb sj hmem
        have hstep : fdS (W.drop (N - (i + 1)) ++ [lf]) = nodeS sj (fdS (W.drop (N - i) ++ [lf])) := by
          have := fold_stepP nodeS noneS W lf (N - (i + 1)) (by omega)
          rw [(List.getElem?_eq_some_iff.1 hsj).2, show N - (i + 1) + 1 = N - i by omega] at this
          exact this
        have HST := hide hstep
        have hnl := nodeS_len sj (fdS (W.drop (N - i) ++ [lf]))
        have zj := hide (size32b hj32)
        have zn := hide (size32b hnl)
        have ln := hide (show (bv (fdS (W.drop (N - i) ++ [lf]))).length = (bv (nodeS sj (fdS (W.drop (N - i) ++ [lf])))).length by rw [bv_len, bv_len, hnl, hp32])
        have HN := fun w hT => node_any sj (fdS (W.drop (N - i) ++ [lf])) w hT hj32 hp32 hjby hpby
        obtain ⟨b, o, rfl, hbB, hcM⟩ := hSr.cells hsj
        have hcl : ∀ w1, But g4 wr w1 → ∀ j v, (bv sj)[j]? = some v → w1.cell? ⟨b, o + (N - (i + 1)) * 32 + j, none⟩ = some v := fun w1 hb j v hv => (hb.cellB q4 hsw (show (⟨b, o + (N - (i + 1)) * 32 + j, none⟩ : Addr).block < w.heap.size from hbB)).trans (hcM j v hv)
        have hT := hTr.1
        have hg4 : 3 + 1 ≤ g4 := by have := hgw; omega
        have hd1 : decide ((i : Int) < (t : Int)) = true := by simp; omega
        have hQ0 : ((N - i : Nat) : Int) - 1 = ((N - (i + 1) : Nat) : Int) := by omega
        have HQ := hide hQ0
        have hq : N - (i + 1) < N := by omega
        have hNI : ((N - i : Nat) : Int) ≤ 1000000 := by omega
        obtain ⟨K, hKd⟩ : ∃ K, K = N - (i + 1) := ⟨_, rfl⟩
        have HKd := hide hKd
        rw [← hKd] at hcl hq HQ
        clear hstep hnl hj32 hjby hcM hQ0 hmem hsj hp32 hpby hKd
        generalize nodeS sj (fdS (W.drop (N - i) ++ [lf])) = nxt at *
        generalize fdS (W.drop (N - i) ++ [lf]) = cur at *
        go_wp2_with fail
        rw [HQ.out]
        refine wp_region_vals [8, 9] (SAd6 sj cur nxt gb g4 b o c N K) (JB g4 23 wr 1 (bv cur) (bv nxt)) (by kernel_rfl) (by kernel_rfl) (by kernel_rfl) (by kernel_rfl) (by kernel_rfl) (JB.start r4 rfl) ?obsB ?heB
        case obsB =>
          refine ⟨?_, ?_, ?_, ?_, ?_, ?_, ?_, ?_, ?_, ?_, trivial⟩
          · exact .inl ⟨by kernel_rfl, fun L a1 w1 n' h => ⟨_, rfl, run_move (.tmp 0) rfl (h.var n' 0 (by kernel_rfl))⟩⟩
          · refine .inl ⟨by kernel_rfl, fun L a1 w1 n' h => ⟨.pointer (some ⟨gb, 0, none⟩), rfl, ?_⟩⟩
            have e0 : a1.eval (.tmp 39) = _ := h.dep n' 0 39 (by kernel_rfl) rfl
            unfold execOp
            simp only [e0]
            go_simp
          · refine .inl ⟨by kernel_rfl, fun L a1 w1 n' h => ⟨.pointer (some ⟨gb, 2, none⟩), rfl, ?_⟩⟩
            have e0 : a1.eval (.tmp 40) = _ := h.dep n' 1 40 (by kernel_rfl) rfl
            unfold execOp
            simp only [e0]
            go_simp
          · exact .inl ⟨by kernel_rfl, fun L a1 w1 n' h => ⟨_, rfl, run_loadA 31 (.tmp 41) ⟨gb, 2, none⟩ rfl Tryd.isAgg31 (h.dep n' 2 41 (by kernel_rfl) rfl) ((rB.but h.inv.2.2 hb4).cell (j := 2) rfl)⟩⟩
          · exact .inl ⟨by kernel_rfl, fun L a1 w1 n' h => ⟨_, rfl, run_move (.tmp 5) rfl (h.var n' 5 (by kernel_rfl))⟩⟩
          · exact .inl ⟨by kernel_rfl, fun L a1 w1 n' h => ⟨_, rfl, run_indexSlN 31 (.tmp 42) (.tmp 43) 23 32 b o N c K rfl Tryd.underlying31 Tryd.sizeOf23 (h.dep n' 3 42 (by kernel_rfl) rfl) (h.dep n' 4 43 (by kernel_rfl) rfl) hq⟩⟩
          · exact .inl ⟨by kernel_rfl, fun L a1 w1 n' h => ⟨_, rfl, run_loadM 23 (.tmp 44) b (o + K * 32) (bv sj) _ rfl (h.dep n' 5 44 (by kernel_rfl) rfl) (hcl w1 h.inv.2.2) Tryd.underlying23 rfl zj.out⟩⟩
          · exact .inl ⟨by kernel_rfl, fun L a1 w1 n' h => ⟨_, rfl, run_loadRow 23 (.tmp 4) g4 23 _ _ rfl (h.var n' 4 (by kernel_rfl)) (h.inv.1 (n'.later (by kernel_rfl))) Tryd.underlying23 rfl (zc.out)⟩⟩
          · refine .inr fun L a1 w1 n' h K hK => ?_
            have e0 : a1.eval (.tmp 45) = .agg (bv sj).toArray := h.dep n' 6 45 (by kernel_rfl) rfl
            have e1 : a1.eval (.tmp 46) = .agg (bv cur).toArray := h.dep n' 7 46 (by kernel_rfl) rfl
            refine st_call 13 _ _ #[.agg (bv sj).toArray, .agg (bv cur).toArray] rfl Tryd.call13 ?_ (HN w1 (hT.below (h.inv.2.2.below hg4 hT.1) (Nat.le_refl _))) ?_
            · simp only [List.map_toArray, List.map_cons, List.map_nil, e0, e1]
            · rintro e w3 ⟨rfl, b9⟩
              exact ⟨_, rfl, hK _ w3 rfl (JB.callX h.inv b9 rfl)⟩
          · refine .inr fun L a1 w1 n' h K hK => ?_
            have no : L.getD 9 false = false := n'.not_yet
            refine st_store_row 23 (.tmp 4) (.tmp 47) g4 23 (bv cur) (bv nxt) rfl (h.var n' 4 (by kernel_rfl)) (h.dep n' 8 47 (by kernel_rfl) rfl) (h.inv.1 no) (zn.out) ln.out (bv_one _) ?_
            intro w3 r3 o3
            exact hK undef w3 trivial (JB.store h.inv o3 r3 rfl)
        case heB =>
          intro V w7 hV hJ
          have r7 := hJ.2.1 rfl
          have bu := hJ.2.2
          clear hV hJ
          simp only [putOps, List.setIfInBounds_toArray, List.set_cons_succ, List.set_cons_zero, Nat.reduceAdd]
          go_wp2
          go_roundw
          case rel => exact ⟨i + 1, by omega, by go_num, by rw [HKd.out], by rw [HST.out]; exact r7, rB.but bu hb4, butr.transN bu q4, Nat.le_trans hsr bu.size⟩
          case measure => simp [intOf]; omega
      · have hit : i = t := by omega
        have hd1 : decide ((i : Int) < (t : Int)) = false := by simp; omega
        subst hit
        have hkc : N - i ≤ c := by omega
        have hkN : N - i ≤ N := by omega
        have hk6 : N - i ≤ 1000000 := by omega
        have hSk := hSr.take (N - i) (by rw [hN]; exact hkN)
        have hkl : (W.take (N - i)).length = N - i := by rw [List.length_take, hN]; omega
        have hfl := hSk.bs.up hsw
        rw [hkl] at hfl
        have hlpp : (bv (fdS (W.drop (N - i) ++ [lf]))).length = 32 := by rw [bv_len, hp32]
        have lp := hide hlpp
        have lpp := hide hp32
        have zp := zc
        have HQ : ∀ (w1 w3 : World) (A9 : Option Addr) (c9 : Nat), Below wr.heap.size wr w1 → Bs w1 w1.heap.size A9 (32 * (N - i) + 32) ((W.take (N - i)).flatten ++ fdS (W.drop (N - i) ++ [lf])) → (N - i) + 1 ≤ c9 → (∀ x, A9 = some x → wr.heap.size ≤ x.block) → Row w3 47 gb ([Value.bool true, .int .i64 ((l.length : Int) + 1), .slice A N c].set 2 (.slice A9 ((N - i) + 1) c9)) → Only gb w1 w3 → BuildAt w3 gb (l ++ [xs]) ∧ But gb w w3 := by
          intro w1 w3 A9 c9 b1 h9 hc9 ho9 r3 o3
          have hlen : (W.take (N - i) ++ [fdS (W.drop (N - i) ++ [lf])]).length = (N - i) + 1 := by rw [List.length_append, hkl]; rfl
          have hoff9 : ∀ n, Off gb n A9 := fun n _ x hx => by have := ho9 x hx; omega
          have h3 := (h9.keepOff (But.only o3) (hoff9 _) (Nat.le_refl _)).up (But.only o3).size
          refine ⟨⟨A9, c9, ?_, ?_, ?_, ?_⟩, butr.transN2 b1 o3 hsw⟩
          · rw [HW'.out, HF.out, hlen, HL1.out]
            exact r3
          · rw [HW'.out, HF.out]
            refine ⟨?_, fun s hs => ?_, fun s hs => ?_⟩
            · rw [hlen, List.flatten_append, List.flatten_singleton, Nat.mul_add]
              exact h3
            · rcases List.mem_append.1 hs with hs | hs
              · exact hWs s (List.mem_of_mem_take hs)
              · obtain rfl := List.mem_singleton.1 hs; exact hp32
            · rcases List.mem_append.1 hs with hs | hs
              · exact hWb s (List.mem_of_mem_take hs)
              · obtain rfl := List.mem_singleton.1 hs; exact hpby
          · rw [HW'.out, HF.out, hlen]; exact hc9
          · exact hoff9 _
        clear hSk hkl hp32 hpby hlpp zc HF HW' HL1 hWs hWb hSr hSm
        generalize fdS (W.drop (N - i) ++ [lf]) = p at *
        generalize (W.take (N - i)).flatten = fl at *
        generalize N - i = k at *
        have hS1 := fun w => run_sliceTo (P := Tryd.prog) w 31 23 32 Tryd.underlying31 Tryd.sizeOf23 A N c .i64 (k : Int) k rfl hkc
        go_wp2_with fail
        refine wp_region_vals [7, 9, 10, 13] (SAd8 p A gb g4 c N k) (JAd wr k fl p (fun w' => BuildAt w' gb (l ++ [xs]) ∧ But gb w w')) (by kernel_rfl) (by kernel_rfl) (by kernel_rfl) (by kernel_rfl) (by kernel_rfl) (JAd.start _ _ _ _ _ _) ?obsD ?heD
        case obsD =>
          refine ⟨?_, ?_, ?_, ?_, ?_, ?_, ?_, ?_, ?_, ?_, ?_, ?_, ?_, ?_, trivial⟩
          · exact .inl ⟨by kernel_rfl, fun L a1 w1 n' h => ⟨_, rfl, run_move (.tmp 0) rfl (h.var n' 0 (by kernel_rfl))⟩⟩
          · exact .inl ⟨by kernel_rfl, fun L a1 w1 n' h => ⟨_, rfl, run_move (.tmp 0) rfl (h.var n' 0 (by kernel_rfl))⟩⟩
          · refine .inl ⟨by kernel_rfl, fun L a1 w1 n' h => ⟨.pointer (some ⟨gb, 0, none⟩), rfl, ?_⟩⟩
            have e0 : a1.eval (.tmp 50) = _ := h.dep n' 1 50 (by kernel_rfl) rfl
            unfold execOp
            simp only [e0]
            go_simp
          · refine .inl ⟨by kernel_rfl, fun L a1 w1 n' h => ⟨.pointer (some ⟨gb, 2, none⟩), rfl, ?_⟩⟩
            have e0 : a1.eval (.tmp 51) = _ := h.dep n' 2 51 (by kernel_rfl) rfl
            unfold execOp
            simp only [e0]
            go_simp
          · exact .inl ⟨by kernel_rfl, fun L a1 w1 n' h => ⟨_, rfl, run_loadA 31 (.tmp 52) ⟨gb, 2, none⟩ rfl Tryd.isAgg31 (h.dep n' 3 52 (by kernel_rfl) rfl) ((Row.later rB (h.inv.1 ((bits_at rfl).trans (n'.later (by kernel_rfl) : L.getD 13 false = false)))).cell (j := 2) rfl)⟩⟩
          · exact .inl ⟨by kernel_rfl, fun L a1 w1 n' h => ⟨_, rfl, run_move (.tmp 5) rfl (h.var n' 5 (by kernel_rfl))⟩⟩
          · refine .inl ⟨by kernel_rfl, fun L a1 w1 n' h => ⟨.slice A k c, rfl, ?_⟩⟩
            have e0 : a1.eval (.tmp 53) = _ := h.dep n' 4 53 (by kernel_rfl) rfl
            have e1 : a1.eval (.tmp 54) = _ := h.dep n' 5 54 (by kernel_rfl) rfl
            unfold execOp
            simp only [e0, e1, Option.map_some, Option.map_none, Sem.run_bind, hS1, Result.andThen_ok, Sem.run_pure]
          · refine .inr fun L a1 w1 n' h K hK => ?_
            have e0 : a1.eval (.tmp 55) = .slice A k c := h.dep n' 6 55 (by kernel_rfl) rfl
            have no9 : L.getD 9 false = false ∨ L.getD 9 false = true := by cases L.getD 9 false <;> simp
            refine st_call 38 _ _ #[.slice A k c] rfl Tryd.call38 ?_ (clip_any A k c w1 hkc) ?_
            · simp only [List.map_toArray, List.map_cons, List.map_nil, e0]
            · rintro e w3 ⟨rfl, rfl⟩
              exact ⟨_, rfl, hK _ w1 rfl h.inv⟩
          · exact .inl ⟨by kernel_rfl, fun L a1 w1 n' h => ⟨_, rfl, run_loadRow 23 (.tmp 4) g4 23 _ _ rfl (h.var n' 4 (by kernel_rfl)) (Row.later r4 (h.inv.1 ((bits_at rfl).trans (n'.later (by kernel_rfl) : L.getD 13 false = false)))) Tryd.underlying23 rfl (zp.out)⟩⟩
          · refine .inr fun L a1 w1 n' h K hK => ?_
            have no13 : L.getD 13 false = false := n'.later (by kernel_rfl)
            have no10 : L.getD 10 false = false := n'.later (by kernel_rfl)
            have b9 := h.inv.1 ((bits_at rfl).trans no13)
            have e0 : a1.eval (.tmp 57) = .agg (bv p).toArray := h.dep n' 8 57 (by kernel_rfl) rfl
            refine st_build1A 31 (.tmp 57) rfl 23 i32 _ (bv p) 32 Tryd.underlying31 hi32 hz32 zs32c hs32 lp.out (by decide) (by decide) e0 ?_
            intro g7 w3 r7 a7 l7 b7
            exact hK _ w3 trivial ⟨fun _ => b9.trans (b7.mono b9.size), fun _ _ => ⟨g7, rfl, r7⟩, fun h0 => absurd (no10.symm.trans h0) (by decide), fun h0 => absurd (no13.symm.trans h0) (by decide)⟩
          · refine .inr fun L a1 w1 n' h K hK => ?_
            have no13 : L.getD 13 false = false := n'.later (by kernel_rfl)
            have yes9 : L.getD 9 false = true := n'.dep (by kernel_rfl)
            have b9 := h.inv.1 ((bits_at rfl).trans no13)
            obtain ⟨g7, ev, r7⟩ := h.inv.2.1 ((bits_at rfl).trans yes9) ((bits_at rfl).trans no13)
            have e0 : a1.eval (.tmp 56) = .slice A k k := h.dep n' 7 56 (by kernel_rfl) rfl
            refine st_append_new (.tmp 56) (.tmp 58) 31 rfl 23 i32 _ Tryd.underlying31 hi32 hz32 hs32 hb32 zs32c A k (32 * k) (Nat.mul_comm 32 k) e0 fl _ (hfl.later b9) g7 1 ev p lpp.out r7 hk6 ?_
            intro A9 c9 w3 h9 hc9 _ ho9 b7
            exact hK _ w3 trivial ⟨fun _ => b9.trans (b7.mono b9.size), fun _ _ => ⟨g7, ev, r7.later b7⟩, fun _ _ => ⟨A9, c9, rfl, h9, hc9, fun x hx => Nat.le_trans b9.size (ho9 x hx)⟩, fun h0 => absurd (no13.symm.trans h0) (by decide)⟩
          · refine .inl ⟨by kernel_rfl, fun L a1 w1 n' h => ⟨.pointer (some ⟨gb, 0, none⟩), rfl, ?_⟩⟩
            have e0 : a1.eval (.tmp 49) = _ := h.dep n' 0 49 (by kernel_rfl) rfl
            unfold execOp
            simp only [e0]
            go_simp
          · refine .inl ⟨by kernel_rfl, fun L a1 w1 n' h => ⟨.pointer (some ⟨gb, 2, none⟩), rfl, ?_⟩⟩
            have e0 : a1.eval (.tmp 60) = _ := h.dep n' 11 60 (by kernel_rfl) rfl
            unfold execOp
            simp only [e0]
            go_simp
          · refine .inr fun L a1 w1 n' h K hK => ?_
            have no13 : L.getD 13 false = false := n'.not_yet
            have yes10 : L.getD 10 false = true := n'.dep (by kernel_rfl)
            have b9 := h.inv.1 ((bits_at rfl).trans no13)
            obtain ⟨A9, c9, ev, h9, hc9, ho9⟩ := h.inv.2.2.1 ((bits_at rfl).trans yes10) ((bits_at rfl).trans no13)
            have e0 : a1.eval (.tmp 61) = .pointer (some ⟨gb, 2, none⟩) := h.dep n' 12 61 (by kernel_rfl) rfl
            refine st_store 31 (.tmp 61) (.tmp 59) gb 2 47 _ (.slice A9 (k + 1) c9) rfl szSs e0 ev (rB.later b9) (by simp) rfl ?_
            intro w3 r3 o3
            exact hK undef w3 trivial ⟨fun h0 => absurd (show true = false from h0) (by decide), fun _ h0 => absurd (show true = false from h0) (by decide), fun _ h0 => absurd (show true = false from h0) (by decide), fun _ => HQ w1 w3 A9 c9 b9 h9 hc9 ho9 r3 o3⟩
        case heD =>
          intro V w9 hV hJ
          obtain ⟨h1, h2⟩ := hJ.2.2.2 rfl
          go_end0
          exact ⟨rfl, h1, h2⟩
end Go.Proofs.YtbolfkigiachlaaDoor

/-
  Trees: the sum of chunks: contract. Own work.
-/
namespace Go.Proofs.YtbolfkigiachlaaDoor
open Go.RowKit Tr
/-- A Builder's Root, whatever it has. -/
theorem bRootS_any (w : World) (gb : Nat) (l : List (List Int)) (hT : Tabs w) (h : BuildAt w gb l) (hl2 : l.length ≤ 1000000) :
    Calls Tryd.prog 25 #[.pointer (some ⟨gb, 0, none⟩)] w fun e w' => e = .returned (.agg (bv (rtS l)).toArray) ∧ Below w.heap.size w w' := by
  by_cases hl : 1 ≤ l.length
  · exact bRoot_any w gb l hT h hl hl2
  · obtain rfl : l = [] := List.eq_nil_of_length_eq_zero (by omega)
    rw [show rtS [] = noneS from root_nil _ _ _]
    exact bRoot_none w _ hT (bLen_any w gb [] h) fun w1 b => bLen_any w1 gb [] (h.later b)
theorem bRootN_any (w : World) (p : Option Addr) (hT : Tabs w) (h : NoBuild w p) :
    Calls Tryd.prog 25 #[.pointer p] w fun e w' => e = .returned (.agg (bv noneS).toArray) ∧ Below w.heap.size w w' := by
  refine bRoot_none w p hT (bLen_no w p h) fun w1 b => bLen_no w1 p ?_
  rcases h with rfl | ⟨gb, rfl, h1⟩
  · exact .inl rfl
  · exact .inr ⟨gb, rfl, h1.later b⟩
set_option maxRecDepth 100000 in
set_option maxHeartbeats 2000000 in
theorem troot_any (css : List (List Int)) (A : Option Addr) (n c : Nat) (w : World) (hT : Tb4 w) (hx : Bss w w.heap.size A n css) (hby : ∀ xs ∈ css, IsBy xs) (hm : ∀ xs ∈ css, xs.length ≤ 100000000) (hn : n ≤ 1000000) :
    Calls Tryd.prog 16 #[.slice A n c] w fun e w' => e = .returned (.agg (bv (rtS css)).toArray) ∧ Below w.heap.size w w' := by
  have hfl := rtS_len css
  have zf := hide (size32b hfl)
  have lf := hide (show (bv (List.replicate 32 0)).length = (bv (rtS css)).length by rw [bv_len, bv_len, hfl, List.length_replicate])
  have hlen := hx.1
  clear hfl
  go_enter Tryd.func16, Tryd.ntmps16
  go_wp2_with (first
    | (with_reducible refine wl_alloc rfl 23 _ (bv (List.replicate 32 0)) rfl zero32b rfl ?_; intro g2 w2 r2 p2 l2 b2))
  refine (bNew_any w2).mono ?_
  rintro e w3 ⟨gb, rfl, pb, hB0, b3⟩
  have B3 := b2.trans (b3.mono b2.size)
  have r3 := r2.later b3
  have qb : w.heap.size ≤ gb := Nat.le_trans b2.size pb
  have hgb : 3 + 1 ≤ gb := Nat.le_trans hT.1.1 qb
  have h2b : g2 ≠ gb := by omega
  have hB0' : BuildAt w3 gb (css.take 0) := hB0
  clear r2 hB0 b2 b3
  go_wp2_with fail
  go_loopw [8] (fun iv wr => ∃ i : Nat, i ≤ n ∧ iv = .int .i64 i ∧ BuildAt wr gb (css.take i) ∧ Row wr 23 g2 (bv (List.replicate 32 0)) ∧ Below w.heap.size w wr) (fun iv _ => n - (intOf iv).toNat)
  case atStart => exact ⟨0, Nat.zero_le _, rfl, hB0', r3, B3⟩
  case round =>
    clear hB0' r3 B3
    obtain ⟨i, hi, rfl, hB, r2, br⟩ := hrel
    by_cases hlt : i < n
    · obtain ⟨b, o, rfl, hbB, hcx⟩ := hx.2 (by omega)
      obtain ⟨A', n', c', hcell, hbi⟩ := hcx i hlt
      have hcell' : wr.cell? ⟨b, o + i, none⟩ = some (.slice A' n' c') := (br.cell (p := ⟨b, o + i, none⟩) hbB).trans hcell
      have hmem : css.getD i [] ∈ css := by
        rw [List.getD, List.getElem?_eq_getElem (show i < css.length by omega)]
        exact List.getElem_mem _
      have hbi' := (hbi.below br).up br.size
      have htk : css.take i ++ [css.getD i []] = css.take (i + 1) := by
        rw [List.take_succ_eq_append_getElem (show i < css.length by omega)]
        simp [List.getD, List.getElem?_eq_getElem (show i < css.length by omega)]
      have hA := bAdd_any wr gb (css.take i) (css.getD i []) A' n' c' (hT.later br) hB hbi' (hby _ hmem) (by rw [← hbi.1]; exact hm _ hmem) (by rw [List.length_take]; omega) hgb (Off.of hbi qb)
      rw [htk] at hA
      have HA := hide hA
      have hd1 : decide ((i : Int) < (n : Int)) = true := by simp; omega
      clear hcx hcell hmem hbi hbi' htk hA
      go_wp2_with fail
      refine HA.out.mono ?_
      rintro e w5 ⟨rfl, hB5, bu⟩
      have r5 := r2.but bu h2b
      have B5 := br.trans (bu.below qb br.size)
      clear HA hB bu
      go_wp2_with fail
      go_roundw
      case rel => exact ⟨i + 1, by omega, by go_num, hB5, r5, B5⟩
      case measure => simp [intOf]; omega
    · have hin : i = n := by omega
      have hd1 : decide ((i : Int) < (n : Int)) = false := by simp; omega
      have htk : css.take i = css := List.take_of_length_le (by omega)
      rw [htk] at hB
      have hR := bRootS_any wr gb css (hT.later br).1 hB (by omega)
      have HR := hide hR
      clear hR htk hB
      go_wp2_with fail
      refine HR.out.mono ?_
      rintro e w5 ⟨rfl, b5⟩
      have r5 := r2.later b5
      have B5 := br.trans (b5.mono br.size)
      clear HR
      go_wp2_with (first
        | (with_reducible refine wl_store_row rfl 23 (.tmp 2) (.tmp 19) g2 23 _ (bv (rtS css)) rfl rfl rfl r5 zf.out lf.out (bv_one _) ?_; intro w8 r8 o8))
      refine bodyPost_ret (v := .agg (bv (rtS css)).toArray) ?_ rfl ⟨rfl, ?_⟩
      · exact results_cell_row Tryd.results16 _ _ g2 23 _ (0, 0) _ rfl r8 Tryd.underlying23 rfl zf.out
      · exact B5.trans (o8.below p2)
end Go.Proofs.YtbolfkigiachlaaDoor

/-
  Trees, the document's answer: the sum of chunks: contract. Own work.
-/
namespace Go.Proofs.YtbolfkigiachlaaDoor
open Go.RowKit Tr
theorem Bss.take {w : World} {B n : Nat} {A : Option Addr} {xss : List (List Int)} (h : Bss w B A n xss) (k : Nat) (hk : k ≤ n) : Bss w B A k (xss.take k) := by
  refine ⟨by rw [List.length_take, h.1]; omega, fun h0 => ?_⟩
  obtain ⟨b, o, rfl, hb, hc⟩ := h.2 (by omega)
  refine ⟨b, o, rfl, hb, fun j hj => ?_⟩
  obtain ⟨A', n', c', h1, h2⟩ := hc j (by omega)
  refine ⟨A', n', c', h1, ?_⟩
  rw [List.getD, List.getElem?_take_of_lt hj]
  exact h2
theorem Bss.drop {w : World} {B n c : Nat} {A : Option Addr} {xss : List (List Int)} (h : Bss w B A n xss) (k : Nat) (hk : k ≤ n) (hc : n ≤ c) : Bss w B (subA A c k) (n - k) (xss.drop k) := by
  refine ⟨by rw [List.length_drop, h.1], fun h0 => ?_⟩
  obtain ⟨b, o, rfl, hb, hcl⟩ := h.2 (by omega)
  refine ⟨b, o + k, ?_, hb, fun j hj => ?_⟩
  · unfold subA
    rw [if_neg (by omega)]
    simp [addr_plain]
  · obtain ⟨A', n', c', h1, h2⟩ := hcl (k + j) (by omega)
    refine ⟨A', n', c', by rw [Nat.add_assoc]; exact h1, ?_⟩
    rw [List.getD, List.getElem?_drop]
    exact h2
def SRr (ra rb FS : List Int) (A : Option Addr) (g2 n c k : Nat) (opn : Nat) (v : Value) : Prop :=
  match opn with
  | 0 | 4 => v = .slice A n c
  | 1 | 5 => v = .int .i64 (k : Int)
  | 2 => v = .slice A k c
  | 3 => v = .agg (bv ra).toArray
  | 6 => v = .slice (subA A c k) (n - k) (c - k)
  | 7 => v = .agg (bv rb).toArray
  | 8 => v = .agg (bv FS).toArray
  | _ => True

set_option maxRecDepth 100000 in
set_option maxHeartbeats 4000000 in
theorem rroot_any : ∀ (N : Nat) (css : List (List Int)) (A : Option Addr) (n c : Nat) (w : World), css.length ≤ N → Bss w w.heap.size A n css → (∀ xs ∈ css, IsBy xs) → (∀ xs ∈ css, xs.length ≤ 50000000) → n ≤ 1000000 → n ≤ c →
    Calls Tryd.prog 17 #[.slice A n c] w fun e w' => e = .returned (.agg (bv (rtS css)).toArray) ∧ Below w.heap.size w w' := by
  intro N
  induction N with
  | zero =>
    intro css A n c w hN hx hby hm hn hc
    obtain rfl : css = [] := List.eq_nil_of_length_eq_zero (by omega)
    obtain rfl : n = 0 := hx.1.symm
    obtain ⟨i8, h8i, h8z, h8s, h8b⟩ := u8_info
    have hfl := noneS_len
    have zf := hide (size32b hfl)
    have lf := hide (show (bv (List.replicate 32 0)).length = (bv noneS).length by rw [bv_len, bv_len, hfl, List.length_replicate])
    have hS := fun g c w hb hc => rsum_any [2] (some ⟨g, 0, none⟩) 1 c w hb (by_cons (by decide) (fun _ h => by cases h)) hc (by decide)
    rw [show sumS [2] = noneS from rfl] at hS
    rw [show rtS [] = noneS from root_nil _ _ _]
    clear hfl hx hby hm
    generalize noneS = FS at *
    go_enter Tryd.func17, Tryd.ntmps17
    go_wp2_with (first
      | (with_reducible refine wl_alloc rfl 23 _ (bv (List.replicate 32 0)) rfl zero32b rfl ?_; intro g2 w2 r2 p2 l2 b2)
      | (with_reducible refine wl_build1 rfl 22 (.const (.int .u8 2)) rfl 5 i8 (.int .u8 0) (.int .u8 2) Tryd.underlying22 h8i h8z h8s rfl rfl rfl ?_; intro g3 w3 r3 p3 l3 b3))
    have B3 := b2.trans (b3.mono b2.size)
    have r2a := r2.later b3
    have hk1 : Bs w3 w3.heap.size (some ⟨g3, 0, none⟩) 1 [2] := Bs.row (t := 5) r3 rfl
    clear r2 r3
    refine (hS g3 1 w3 hk1 (Nat.le_refl _)).mono ?_
    rintro e w7 ⟨rfl, b7⟩
    have B7 := B3.trans (b7.mono B3.size)
    have r2e := r2a.later b7
    clear r2a hS hk1
    go_wp2_with (first
      | (with_reducible refine wl_store_row rfl 23 (.tmp 2) (.tmp 8) g2 23 _ (bv FS) rfl rfl rfl r2e zf.out lf.out (bv_one _) ?_; intro w8 r8 o8))
    refine bodyPost_ret (v := .agg (bv FS).toArray) ?_ rfl ⟨rfl, ?_⟩
    · exact results_cell_row Tryd.results17 _ _ g2 23 _ (0, 0) _ rfl r8 Tryd.underlying23 rfl zf.out
    · exact B7.trans (o8.below p2)
  | succ N ih =>
    intro css A n c w hN hx hby hm hn hc
    have hlen := hx.1
    by_cases h0 : n = 0
    · exact ih css A n c w (by omega) hx hby hm hn hc
    have hfl := rtS_len css
    have zf := hide (size32b hfl)
    have lf := hide (show (bv (List.replicate 32 0)).length = (bv (rtS css)).length by rw [bv_len, bv_len, hfl, List.length_replicate])
    have hq0 : ((n : Int) == 0) = false := beq_eq_false_iff_ne.2 (by omega)
    clear hfl
    by_cases h1 : n = 1
    · subst h1
      obtain ⟨xs, rfl⟩ : ∃ xs, css = [xs] := by
        match css, hlen with
        | [xs], _ => exact ⟨xs, rfl⟩
      obtain ⟨b, o, rfl, hbB, hcx⟩ := hx.2 (by omega)
      obtain ⟨A', n', c', hcell, hbi⟩ := hcx 0 (by omega)
      have hbi : Bs w w.heap.size A' n' xs := hbi
      have hL := fun w h => rleaf_any xs A' n' c' w h (hby xs (by simp)) (by rw [← hbi.1]; exact hm xs (by simp))
      rw [show rtS [xs] = leafS xs from root_one _ _ _ xs] at zf lf ⊢
      rw [Nat.add_zero] at hcell
      clear hcx hx hby hm ih
      generalize leafS xs = FS at *
      go_enter Tryd.func17, Tryd.ntmps17
      go_wp2_with (first
        | (with_reducible refine wl_alloc rfl 23 _ (bv (List.replicate 32 0)) rfl zero32b rfl ?_; intro g2 w2 r2 p2 l2 b2; have hcell2 := (b2.cell (p := ⟨b, o, none⟩) hbB).trans hcell))
      refine (hL w2 (hbi.later b2)).mono ?_
      rintro e w7 ⟨rfl, b7⟩
      have B7 := b2.trans (b7.mono b2.size)
      have r2e := r2.later b7
      clear hL hcell hcell2
      go_wp2_with (first
        | (with_reducible refine wl_store_row rfl 23 (.tmp 2) (.tmp 15) g2 23 _ (bv FS) rfl rfl rfl r2e zf.out lf.out (bv_one _) ?_; intro w8 r8 o8))
      refine bodyPost_ret (v := .agg (bv FS).toArray) ?_ rfl ⟨rfl, ?_⟩
      · exact results_cell_row Tryd.results17 _ _ g2 23 _ (0, 0) _ rfl r8 Tryd.underlying23 rfl zf.out
      · exact B7.trans (o8.below p2)
    · have h2 : 2 ≤ css.length := by omega
      have hkl := half_lt h2
      have hkp := half_pos css.length
      have hroot := root_two leafS nodeS noneS css h2
      have hH := fun w => half_any n w (by omega) (by omega)
      rw [← hlen] at hH
      have hq1 : ((n : Int) == 1) = false := beq_eq_false_iff_ne.2 (by omega)
      have HN := fun w => rnode_any (rtS (css.take (halfN css.length))) (rtS (css.drop (halfN css.length))) w (rtS_len _) (rtS_len _) (rtS_by _) (rtS_by _)
      have hroot' : nodeS (rtS (css.take (halfN css.length))) (rtS (css.drop (halfN css.length))) = rtS css := hroot.symm
      rw [hroot'] at HN
      have HR1 : ∀ (g2 : Nat) (w4 : World), Below w.heap.size w w4 → w.heap.size ≤ g2 → ∀ w1, But g2 w4 w1 → Calls Tryd.prog 17 #[.slice A (halfN css.length) c] w1 fun e w' => e = .returned (.agg (bv (rtS (css.take (halfN css.length)))).toArray) ∧ Below w1.heap.size w1 w' := by
        intro g2 w4 b4 q2 w1 hb
        have hB1 := hb.below q2 b4.size
        exact ih _ A _ c w1 (by rw [List.length_take]; omega) ((((hx.below b4).below hB1).take _ (by omega)).up (Nat.le_trans b4.size hb.size)) (fun xs h => hby xs (List.mem_of_mem_take h)) (fun xs h => hm xs (List.mem_of_mem_take h)) (by omega) (by omega)
      have HR2 : ∀ (g2 : Nat) (w4 : World), Below w.heap.size w w4 → w.heap.size ≤ g2 → ∀ w1, But g2 w4 w1 → Calls Tryd.prog 17 #[.slice (subA A c (halfN css.length)) (n - halfN css.length) (c - halfN css.length)] w1 fun e w' => e = .returned (.agg (bv (rtS (css.drop (halfN css.length)))).toArray) ∧ Below w1.heap.size w1 w' := by
        intro g2 w4 b4 q2 w1 hb
        have hB1 := hb.below q2 b4.size
        exact ih _ _ _ _ w1 (by rw [List.length_drop]; omega) ((((hx.below b4).below hB1).drop _ (by omega) hc).up (Nat.le_trans b4.size hb.size)) (fun xs h => hby xs (List.mem_of_mem_drop h)) (fun xs h => hm xs (List.mem_of_mem_drop h)) (by omega) (by omega)
      clear hroot hroot' ih hx hby hm
      replace hkl : halfN css.length < n := by omega
      generalize rtS (css.take (halfN css.length)) = ra at *
      generalize rtS (css.drop (halfN css.length)) = rb at *
      generalize rtS css = FS at *
      have hlenI : (css.length : Int) = (n : Int) := by omega
      rw [hlenI] at hH
      generalize halfN css.length = k at *
      have hS1 := fun w => run_sliceTo (P := Tryd.prog) w 28 22 1 Tryd.underlying28 Tryd.sizeOf22 A n c .i64 (k : Int) k rfl (by omega)
      have hS2 := fun w => run_sliceFrom (P := Tryd.prog) w 28 22 Tryd.underlying28 Tryd.sizeOf22 A n c .i64 k (by omega)
      go_enter Tryd.func17, Tryd.ntmps17
      go_wp2_with (first
        | (with_reducible refine wl_alloc rfl 23 _ (bv (List.replicate 32 0)) rfl zero32b rfl ?_; intro g2 w2 r2 p2 l2 b2))
      refine (hH w2).mono ?_
      rintro e w3 ⟨rfl, rfl⟩
      replace HR1 := HR1 g2 w2 b2 p2
      replace HR2 := HR2 g2 w2 b2 p2
      clear hH
      go_wp2_with fail
      rename_i K1 hK1
      refine wp_region_vals [3, 7, 8, 9] (SRr ra rb FS A g2 n c k) (JB g2 23 w2 3 (bv (List.replicate 32 0)) (bv FS)) (by kernel_rfl) (by kernel_rfl) (by kernel_rfl) (by kernel_rfl) (by kernel_rfl) (JB.start r2 rfl) ?obs ?he
      case obs =>
        refine ⟨?_, ?_, ?_, ?_, ?_, ?_, ?_, ?_, ?_, ?_, trivial⟩
        · exact .inl ⟨by kernel_rfl, fun L a1 w1 n' h => ⟨_, rfl, run_move (.tmp 0) rfl (h.var n' 0 (by kernel_rfl))⟩⟩
        · exact .inl ⟨by kernel_rfl, fun L a1 w1 n' h => ⟨_, rfl, run_move (.tmp 3) rfl (h.var n' 3 (by kernel_rfl))⟩⟩
        · refine .inl ⟨by kernel_rfl, fun L a1 w1 n' h => ⟨.slice A k c, rfl, ?_⟩⟩
          have e0 : a1.eval (.tmp 19) = _ := h.dep n' 0 19 (by kernel_rfl) rfl
          have e1 : a1.eval (.tmp 20) = _ := h.dep n' 1 20 (by kernel_rfl) rfl
          unfold execOp
          simp only [e0, e1, Option.map_some, Option.map_none, Sem.run_bind, hS1, Result.andThen_ok, Sem.run_pure]
        · refine .inr fun L a1 w1 n' h K hK => ?_
          have e0 : a1.eval (.tmp 21) = .slice A k c := h.dep n' 2 21 (by kernel_rfl) rfl
          refine st_call 17 _ _ #[.slice A k c] rfl Tryd.call17 ?_ (HR1 w1 h.inv.2.2) ?_
          · simp only [List.map_toArray, List.map_cons, List.map_nil, e0]
          · rintro e w3 ⟨rfl, b9⟩
            exact ⟨_, rfl, hK _ w3 rfl (JB.callX h.inv b9 rfl)⟩
        · exact .inl ⟨by kernel_rfl, fun L a1 w1 n' h => ⟨_, rfl, run_move (.tmp 0) rfl (h.var n' 0 (by kernel_rfl))⟩⟩
        · exact .inl ⟨by kernel_rfl, fun L a1 w1 n' h => ⟨_, rfl, run_move (.tmp 3) rfl (h.var n' 3 (by kernel_rfl))⟩⟩
        · refine .inl ⟨by kernel_rfl, fun L a1 w1 n' h => ⟨.slice (subA A c k) (n - k) (c - k), rfl, ?_⟩⟩
          have e0 : a1.eval (.tmp 23) = _ := h.dep n' 4 23 (by kernel_rfl) rfl
          have e1 : a1.eval (.tmp 24) = _ := h.dep n' 5 24 (by kernel_rfl) rfl
          unfold execOp
          simp only [e0, e1, Option.map_some, Option.map_none, Sem.run_bind, hS2 w1, Result.andThen_ok, Sem.run_pure]
        · refine .inr fun L a1 w1 n' h K hK => ?_
          have e0 : a1.eval (.tmp 25) = .slice (subA A c k) (n - k) (c - k) := h.dep n' 6 25 (by kernel_rfl) rfl
          refine st_call 17 _ _ #[.slice (subA A c k) (n - k) (c - k)] rfl Tryd.call17 ?_ (HR2 w1 h.inv.2.2) ?_
          · simp only [List.map_toArray, List.map_cons, List.map_nil, e0]
          · rintro e w3 ⟨rfl, b9⟩
            exact ⟨_, rfl, hK _ w3 rfl (JB.callX h.inv b9 rfl)⟩
        · refine .inr fun L a1 w1 n' h K hK => ?_
          have e0 : a1.eval (.tmp 22) = .agg (bv ra).toArray := h.dep n' 3 22 (by kernel_rfl) rfl
          have e1 : a1.eval (.tmp 26) = .agg (bv rb).toArray := h.dep n' 7 26 (by kernel_rfl) rfl
          refine st_call 14 _ _ #[.agg (bv ra).toArray, .agg (bv rb).toArray] rfl Tryd.call14 ?_ (HN w1) ?_
          · simp only [List.map_toArray, List.map_cons, List.map_nil, e0, e1]
          · rintro e w3 ⟨rfl, b9⟩
            exact ⟨_, rfl, hK _ w3 rfl (JB.callX h.inv b9 rfl)⟩
        · refine .inr fun L a1 w1 n' h K hK => ?_
          have no : L.getD 9 false = false := n'.not_yet
          refine st_store_row 23 (.tmp 2) (.tmp 27) g2 23 (bv (List.replicate 32 0)) (bv FS) rfl (h.var n' 2 (by kernel_rfl)) (h.dep n' 8 27 (by kernel_rfl) rfl) (h.inv.1 no) (zf.out) lf.out (bv_one _) ?_
          intro w3 r3 o3
          exact hK undef w3 trivial (JB.store h.inv o3 r3 rfl)
      case he =>
        intro V w7 hV hJ
        have r7 := hJ.2.1 rfl
        have bu := hJ.2.2
        clear hV hJ
        simp only [putOps, List.setIfInBounds_toArray, List.set_cons_succ, List.set_cons_zero, Nat.reduceAdd]
        refine hK1 _ _ ?_
        go_wp2_with fail
        refine bodyPost_ret (v := .agg (bv FS).toArray) ?_ rfl ⟨rfl, ?_⟩
        · exact results_cell_row Tryd.results17 _ _ g2 23 _ (0, 0) _ rfl r7 Tryd.underlying23 rfl zf.out
        · exact b2.trans (bu.below p2 b2.size)
end Go.Proofs.YtbolfkigiachlaaDoor

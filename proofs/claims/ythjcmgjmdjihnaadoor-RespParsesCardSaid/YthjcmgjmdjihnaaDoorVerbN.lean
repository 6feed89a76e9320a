/-
  Numbers and their one form: what is read is what was written. Plain mathematics. Own work.
-/
import Derived.Lib.AtoiAllCases
import Derived.Lib.ItoaNum
namespace Go.Proofs.YthjcmgjmdjihnaaDoor
set_option linter.unusedVariables false
open Go.Lib
/-- A digit. -/
theorem dig_nat (d : Nat) (h : d < 10) : (UInt8.ofNat (48 + d)).toNat = 48 + d := by
  simp [UInt8.toNat_ofNat']; omega
theorem decDigits_small {u : Nat} (h : u < 10) : decDigits u = [UInt8.ofNat (48 + u)] := by rw [decDigits, dif_pos h]
theorem decDigits_big {u : Nat} (h : ¬ u < 10) : decDigits u = decDigits (u / 10) ++ [UInt8.ofNat (48 + u % 10)] := by rw [decDigits, dif_neg h]
theorem parse_append : ∀ (l r : List UInt8) (acc m : Nat), parseUint10 acc l = .ok m → parseUint10 acc (l ++ r) = parseUint10 m r
  | [], r, acc, m, h => by
    simp only [parseUint10] at h
    injection h with h
    subst h; rfl
  | c :: l, r, acc, m, h => by
    simp only [parseUint10, List.cons_append] at h ⊢
    split at h
    · rename_i h1
      rw [if_pos h1]
      split at h
      · cases h
      · rename_i h2
        rw [if_neg h2]
        split at h
        · cases h
        · rename_i h3
          rw [if_neg h3]
          exact parse_append l r _ m h
    · cases h
theorem parse_dec (u : Nat) (hu : u < 18446744073709551616) : parseUint10 0 (decDigits u) = .ok u := by
  induction u using Nat.strongRecOn with
  | _ u ih =>
    by_cases h : u < 10
    · rw [decDigits_small h]
      have e := dig_nat u h
      simp only [parseUint10]
      rw [e, if_pos (by omega), if_neg (by omega), if_neg (by omega)]
      congr 1; omega
    · rw [decDigits_big h, parse_append _ _ _ _ (ih (u / 10) (by omega) (by omega))]
      have e := dig_nat (u % 10) (by omega)
      simp only [parseUint10]
      rw [e, if_pos (by omega), if_neg (by omega), if_neg (by omega)]
      congr 1; omega
theorem decDigits_ne (u : Nat) : decDigits u ≠ [] := by
  by_cases h : u < 10
  · rw [decDigits_small h]; simp
  · rw [decDigits_big h]; simp
/-- The first digit is a digit. -/
theorem decDigits_all (u : Nat) : ∀ c ∈ decDigits u, 48 ≤ c.toNat ∧ c.toNat ≤ 57 := by
  induction u using Nat.strongRecOn with
  | _ u ih =>
    by_cases h : u < 10
    · rw [decDigits_small h]
      intro c hc
      obtain rfl := List.mem_singleton.1 hc
      rw [dig_nat u h]; omega
    · rw [decDigits_big h]
      intro c hc
      rcases List.mem_append.1 hc with hc | hc
      · exact ih (u / 10) (by omega) c hc
      · obtain rfl := List.mem_singleton.1 hc
        rw [dig_nat _ (by omega)]; omega
theorem decDigits_len (k : Nat) : ∀ u : Nat, u < 10 ^ (k + 1) → (decDigits u).length ≤ k + 1 := by
  induction k with
  | zero => intro u hu; rw [decDigits_small (by simpa using hu)]; simp
  | succ k ih =>
    intro u hu
    by_cases h : u < 10
    · rw [decDigits_small h]; simp
    · rw [decDigits_big h, List.length_append]
      have := ih (u / 10) (by rw [Nat.pow_succ] at hu; omega)
      simp; omega
theorem itoa_len {n : Int} (h0 : -9223372036854775808 ≤ n) (h1 : n ≤ 9223372036854775807) : (itoa n).length ≤ 20 := by
  unfold itoa
  split
  · have := decDigits_len 18 n.natAbs (by omega)
    simp; omega
  · have := decDigits_len 18 n.toNat (by omega)
    omega
theorem atoi_itoa {n : Int} (h0 : -9223372036854775808 ≤ n) (h1 : n ≤ 9223372036854775807) : atoiAll (itoa n) = .ok n := by
  unfold itoa
  split
  · rename_i hn
    rw [atoiAll_minus, parseMag, if_neg (decDigits_ne _), parse_dec _ (by omega)]
    simp only [signed]
    rw [if_neg (by omega)]
    congr 1; omega
  · rename_i hn
    cases hd : decDigits n.toNat with
    | nil => exact absurd hd (decDigits_ne _)
    | cons c r =>
      have hc := decDigits_all n.toNat c (by rw [hd]; simp)
      rw [atoiAll_plain c r (by omega) (by omega), ← hd, parseMag, if_neg (decDigits_ne _), parse_dec _ (by omega)]
      simp only [signless]
      rw [if_neg (by omega)]
      congr 1; omega
theorem itoa_inj {n m : Int} (h0 : -9223372036854775808 ≤ n) (h1 : n ≤ 9223372036854775807) (g0 : -9223372036854775808 ≤ m) (g1 : m ≤ 9223372036854775807) (h : itoa n = itoa m) : n = m := by
  have a := atoi_itoa h0 h1
  rw [h, atoi_itoa g0 g1] at a
  injection a with a
  exact a.symm
/-- What the number of a text is: the one whose numeral it is. -/
def intL (s : List UInt8) : Int × Bool :=
  match atoiAll s with
  | .ok n => if itoa n = s then (n, true) else (0, false)
  | _ => (0, false)
theorem intL_itoa {n : Int} (h0 : -9223372036854775808 ≤ n) (h1 : n ≤ 9223372036854775807) : intL (itoa n) = (n, true) := by
  unfold intL
  rw [atoi_itoa h0 h1]
  exact if_pos rfl
/-- The document's going down. -/
def downL (n : Int) : List UInt8 → Option Int
  | [] => some n
  | c :: r => if 48 ≤ c.toNat ∧ c.toNat ≤ 57 ∧ (-9223372036854775808 + ((c.toNat : Int) - 48)).tdiv 10 ≤ n then downL (10 * n - ((c.toNat : Int) - 48)) r else none
theorem tdiv_neg {d : Int} (h0 : 0 ≤ d) (h9 : d ≤ 9) : (-9223372036854775808 + d).tdiv 10 = -((9223372036854775808 - d) / 10) := by
  rw [show -9223372036854775808 + d = -(9223372036854775808 - d) by omega, Int.neg_tdiv, Int.tdiv_eq_ediv_of_nonneg (by omega)]
theorem down_append : ∀ (l r : List UInt8) (n m : Int), downL n l = some m → downL n (l ++ r) = downL m r
  | [], r, n, m, h => by
    simp only [downL] at h
    cases h; rfl
  | c :: l, r, n, m, h => by
    simp only [downL, List.cons_append] at h ⊢
    split at h
    · rename_i h1; rw [if_pos h1]; exact down_append l r _ m h
    · cases h
theorem down_dec (u : Nat) (hu : u ≤ 9223372036854775808) : downL 0 (decDigits u) = some (-(u : Int)) := by
  induction u using Nat.strongRecOn with
  | _ u ih =>
    by_cases h : u < 10
    · rw [decDigits_small h]
      have e := dig_nat u h
      simp only [downL]
      rw [e, tdiv_neg (by omega) (by omega), if_pos (by omega)]
      congr 1; omega
    · rw [decDigits_big h, down_append _ _ _ _ (ih (u / 10) (by omega) (by omega))]
      have e := dig_nat (u % 10) (by omega)
      simp only [downL]
      rw [e, tdiv_neg (by omega) (by omega), if_pos (by omega)]
      congr 1; omega
theorem down_range : ∀ (l : List UInt8) (n m : Int), -9223372036854775808 ≤ n → n ≤ 0 → downL n l = some m → -9223372036854775808 ≤ m ∧ m ≤ 0
  | [], n, m, h0, h1, h => by simp only [downL] at h; cases h; exact ⟨h0, h1⟩
  | c :: l, n, m, h0, h1, h => by
    simp only [downL] at h
    split at h
    · rename_i h2
      rw [tdiv_neg (by omega) (by omega)] at h2
      exact down_range l _ m (by omega) (by omega) h
    · cases h
/-- The document's number of a text. -/
def refC (neg : Bool) (r s : List UInt8) : Int × Bool :=
  if r = [] ∨ 20 < s.length then (0, false) else
  match downL 0 r with
  | none => (0, false)
  | some n => if neg = false ∧ n = -9223372036854775808 then (0, false) else if itoa (if neg then n else -n) = s then (if neg then n else -n, true) else (0, false)
def refL (s : List UInt8) : Int × Bool := if s.head? = some 45 then refC true (s.drop 1) s else refC false s s
theorem intL_no {s : List UInt8} (h : ∀ n : Int, -9223372036854775808 ≤ n → n ≤ 9223372036854775807 → itoa n ≠ s) : intL s = (0, false) := by
  unfold intL
  split
  · rename_i n hn
    obtain ⟨b0, b1⟩ := atoiAll_bounds hn
    exact if_neg (h n b0 b1)
  · rfl
theorem refC_no {s : List UInt8} (neg : Bool) (r : List UInt8) (h : ∀ n : Int, -9223372036854775808 ≤ n → n ≤ 9223372036854775807 → itoa n ≠ s) : refC neg r s = (0, false) := by
  unfold refC
  split
  · rfl
  · cases hn : downL 0 r with
    | none => rfl
    | some n =>
      obtain ⟨b0, b1⟩ := down_range _ _ _ (by omega) (by omega) hn
      simp only
      split
      · rfl
      · rename_i h2
        refine if_neg (h _ ?_ ?_)
        · split <;> omega
        · cases neg with
          | true => simp; omega
          | false =>
            have : n ≠ -9223372036854775808 := fun e => h2 ⟨rfl, e⟩
            simp; omega
theorem refL_no {s : List UInt8} (h : ∀ n : Int, -9223372036854775808 ≤ n → n ≤ 9223372036854775807 → itoa n ≠ s) : refL s = (0, false) := by
  unfold refL
  split <;> exact refC_no _ _ h
theorem refL_itoa {n : Int} (h0 : -9223372036854775808 ≤ n) (h1 : n ≤ 9223372036854775807) : refL (itoa n) = (n, true) := by
  have hl := itoa_len h0 h1
  by_cases hn : n < 0
  · have e : itoa n = 45 :: decDigits n.natAbs := by unfold itoa; rw [if_pos hn]
    unfold refL refC
    have hd := down_dec n.natAbs (by omega)
    rw [e, if_pos (by rfl)] 
    rw [e] at hl
    have hl2 : ¬ 20 < (45 :: decDigits n.natAbs : List UInt8).length := by omega
    simp only [List.drop_succ_cons, List.drop_zero, decDigits_ne, false_or, if_neg hl2, hd]
    rw [if_neg (by simp)]
    simp only [if_true]
    rw [show -(n.natAbs : Int) = n by omega, if_pos e]
  · have e : itoa n = decDigits n.toNat := by unfold itoa; rw [if_neg hn]
    have hne : (itoa n).head? ≠ some 45 := by
      rw [e]
      cases hd : decDigits n.toNat with
      | nil => simp
      | cons c r =>
        have := decDigits_all n.toNat c (by rw [hd]; simp)
        intro h
        simp at h
        subst h
        simp at this
    have hd := down_dec n.toNat (by omega)
    rw [← e] at hd
    have hne2 : itoa n ≠ [] := by rw [e]; exact decDigits_ne _
    unfold refL refC
    have hl2 : ¬ 20 < (itoa n).length := by omega
    simp only [if_neg hne, hd, hne2, false_or, if_neg hl2]
    rw [if_neg (by rintro ⟨_, h⟩; omega)]
    simp only [Bool.false_eq_true, if_false]
    rw [show - -(n.toNat : Int) = n by omega, if_pos rfl]
theorem refL_eq (s : List UInt8) : refL s = intL s := by
  by_cases h : ∃ n : Int, -9223372036854775808 ≤ n ∧ n ≤ 9223372036854775807 ∧ itoa n = s
  · obtain ⟨n, h0, h1, rfl⟩ := h
    rw [refL_itoa h0 h1, intL_itoa h0 h1]
  · have h' : ∀ n : Int, -9223372036854775808 ≤ n → n ≤ 9223372036854775807 → itoa n ≠ s := fun n h0 h1 e => h ⟨n, h0, h1, e⟩
    rw [refL_no h', intL_no h']
end Go.Proofs.YthjcmgjmdjihnaaDoor

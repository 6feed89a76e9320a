/-
  Poly: the numbers of bytes, the steps modulo 2^130 - 5, digits: plain mathematics. Own work.
-/
import Derived.Test.YtcinhofapkddpaaBytes
namespace Go.Proofs.Ytcinhofapkddpaa
open Go.RowKit
set_option linter.unusedVariables false
set_option linter.unusedSimpArgs false
/-- The word of X that stands at place p (a power of M). -/
def wd (M p X : Nat) : Nat := X / p % M
/-- The words of a number. -/
def nW (X : Nat) (i : Nat) : Nat := wd 18446744073709551616 (18446744073709551616 ^ i) X
/-- The number of bytes, the lowest first. -/
def leN : List Int → Nat
  | [] => 0
  | x :: xs => x.toNat + 256 * leN xs
theorem leN_append (xs ys : List Int) : leN (xs ++ ys) = leN xs + 256 ^ xs.length * leN ys := by
  induction xs with
  | nil => simp [leN]
  | cons x xs ih =>
    simp only [List.cons_append, leN, ih, List.length_cons, Nat.pow_succ, Nat.mul_add]
    rw [Nat.mul_comm (256 ^ xs.length) 256, Nat.mul_assoc]
    omega
theorem leN_lt {xs : List Int} (h : IsBy xs) : leN xs < 256 ^ xs.length := by
  induction xs with
  | nil => simp [leN]
  | cons x xs ih =>
    have h1 := ih fun y hy => h y (List.mem_cons_of_mem _ hy)
    have h2 := h x (by simp)
    simp only [leN, List.length_cons, Nat.pow_succ]
    omega
theorem IsBy.take {xs : List Int} (h : IsBy xs) (k : Nat) : IsBy (xs.take k) := fun x hx => h x (List.mem_of_mem_take hx)
theorem IsBy.drop {xs : List Int} (h : IsBy xs) (k : Nat) : IsBy (xs.drop k) := fun x hx => h x (List.mem_of_mem_drop hx)
theorem IsBy.app {xs ys : List Int} (h : IsBy xs) (k : IsBy ys) : IsBy (xs ++ ys) := fun x hx => by
  rcases List.mem_append.1 hx with hx | hx
  · exact h x hx
  · exact k x hx
theorem leN_split (xs : List Int) (k : Nat) (hk : k ≤ xs.length) : leN xs = leN (xs.take k) + 256 ^ k * leN (xs.drop k) := by
  have := leN_append (xs.take k) (xs.drop k)
  rw [List.take_append_drop, List.length_take, Nat.min_eq_left hk] at this
  exact this
theorem leN_div {xs : List Int} (h : IsBy xs) (k : Nat) : leN xs / 256 ^ k = leN (xs.drop k) := by
  have hp : 0 < 256 ^ k := Nat.pow_pos (by decide)
  rcases Nat.lt_or_ge xs.length k with h1 | h1
  · rw [List.drop_eq_nil_of_le (by omega), Nat.div_eq_of_lt (Nat.lt_of_lt_of_le (leN_lt h) (Nat.pow_le_pow_right (by decide) (by omega)))]
    rfl
  · have h2 := leN_lt (h.take k)
    rw [List.length_take, Nat.min_eq_left h1] at h2
    rw [leN_split xs k h1, Nat.add_mul_div_left _ _ hp, Nat.div_eq_of_lt h2, Nat.zero_add]
theorem leN_mod {xs : List Int} (h : IsBy xs) (k : Nat) : leN xs % 256 ^ k = leN (xs.take k) := by
  have hp : 0 < 256 ^ k := Nat.pow_pos (by decide)
  rcases Nat.lt_or_ge xs.length k with h1 | h1
  · rw [List.take_of_length_le (by omega), Nat.mod_eq_of_lt (Nat.lt_of_lt_of_le (leN_lt h) (Nat.pow_le_pow_right (by decide) (by omega)))]
  · have h2 := leN_lt (h.take k)
    rw [List.length_take, Nat.min_eq_left h1] at h2
    rw [leN_split xs k h1, Nat.add_mul_mod_self_left, Nat.mod_eq_of_lt h2]
theorem leV_leN {xs : List Int} (h : IsBy xs) (p n : Nat) : leV xs p n = (leN ((xs.drop p).take n) : Int) := by
  induction n with
  | zero => simp [leV, leN]
  | succ n ih =>
    simp only [leV, ih]
    by_cases hin : p + n < xs.length
    · have e : (xs.drop p).take (n + 1) = (xs.drop p).take n ++ [xs.getD (p + n) 0] := by
        rw [List.take_succ_eq_append_getElem (by rw [List.length_drop]; omega)]
        simp [List.getD, hin]
      have hb := h (xs.getD (p + n) 0) (by rw [List.getD, List.getElem?_eq_getElem hin]; simp)
      rw [e, leN_append, List.length_take, List.length_drop, Nat.min_eq_left (by omega)]
      generalize xs.getD (p + n) 0 = v at *
      obtain ⟨m, rfl⟩ := Int.eq_ofNat_of_zero_le hb.1
      simp [leN, Int.mul_comm]
    · have e : (xs.drop p).take (n + 1) = (xs.drop p).take n := by
        rw [List.take_of_length_le (by rw [List.length_drop]; omega), List.take_of_length_le (by rw [List.length_drop]; omega)]
      rw [e, show xs.getD (p + n) 0 = 0 by simp [List.getD, List.getElem?_eq_none (show xs.length ≤ p + n by omega)]]
      simp
theorem nW_leN {xs : List Int} (h : IsBy xs) (i : Nat) : (nW (leN xs) i : Int) = leV xs (8 * i) 8 := by
  rw [leV_leN h]
  unfold nW wd
  rw [show (18446744073709551616 : Nat) = 256 ^ 8 from by decide, ← Nat.pow_mul, leN_div h, leN_mod (h.drop _)]
theorem lowB_leN : ∀ {xs : List Int}, IsBy xs → lowB (leN xs) xs.length = xs
  | [], _ => rfl
  | x :: xs, h => by
    have h1 := h x (by simp)
    have h2 := lowB_leN fun y hy => h y (List.mem_cons_of_mem _ hy)
    obtain ⟨m, rfl⟩ := Int.eq_ofNat_of_zero_le h1.1
    simp only [leN, List.length_cons, lowB]
    rw [show ((((m : Int).toNat + 256 * leN xs : Nat) : Int) / 256) = (leN xs : Int) by simp only [Int.toNat_natCast]; omega, h2]
    congr 1
    simp only [Int.toNat_natCast]
    omega
theorem leN_lowB (X n : Nat) : leN (lowB X n) = X % 256 ^ n := by
  induction n generalizing X with
  | zero => simp [lowB, leN, Nat.mod_one]
  | succ n ih =>
    have h1 := ih (X / 256)
    simp only [lowB, leN]
    rw [show ((X : Int) / 256) = ((X / 256 : Nat) : Int) by omega, h1, show ((X : Int) % 256).toNat = X % 256 by omega, Nat.pow_succ, Nat.mul_comm (256 ^ n) 256, Nat.mod_mul]
theorem lowB_mod (X n : Nat) : lowB ((X % 256 ^ n : Nat) : Int) n = lowB X n := by
  induction n generalizing X with
  | zero => rfl
  | succ n ih =>
    simp only [lowB]
    have e1 : ((X % 256 ^ (n + 1) : Nat) : Int) % 256 = (X : Int) % 256 := by
      have : X % 256 ^ (n + 1) % 256 = X % 256 := by rw [Nat.pow_succ, Nat.mul_comm, Nat.mod_mul_right_mod]
      omega
    have e2 : ((X % 256 ^ (n + 1) : Nat) : Int) / 256 = ((X / 256 % 256 ^ n : Nat) : Int) := by
      have : X % 256 ^ (n + 1) / 256 = X / 256 % 256 ^ n := by rw [Nat.pow_succ, Nat.mul_comm, Nat.mod_mul_right_div_self]
      omega
    rw [e1, e2, ih, show ((X : Int) / 256) = ((X / 256 : Nat) : Int) by omega]
def p130 : Nat := 1361129467683753853853498429727072845819
/-- One fold: the lowest 130 bits, and five times what stands above. -/
def fold1 (Z : Nat) : Nat := Z % 1361129467683753853853498429727072845824 + 5 * (Z / 1361129467683753853853498429727072845824)
theorem fold1_mod (Z : Nat) : fold1 Z % p130 = Z % p130 := by
  have : Z = fold1 Z + p130 * (Z / 1361129467683753853853498429727072845824) := by unfold fold1 p130; omega
  conv => rhs; rw [this, Nat.add_mul_mod_self_left]
theorem fold1_lt {Z : Nat} (h : Z < 2 ^ 255) : fold1 Z < 1361129467683753853853498429727072845824 + 340282366920938463463374607431768211456 := by
  unfold fold1; omega
/-- The sum behind a piece. -/
def stepI (R T : Nat) (xs : List Int) : Nat := fold1 ((T + leN (xs ++ [1])) * R)
/-- The sum behind k whole pieces. -/
def totI (R : Nat) (xs : List Int) : Nat → Nat
  | 0 => 0
  | k + 1 => stepI R (totI R xs k) ((xs.drop (16 * k)).take 16)
theorem piece_lt {xs : List Int} (h : IsBy xs) (hl : xs.length ≤ 16) : leN (xs ++ [1]) < 2 * 340282366920938463463374607431768211456 := by
  have h1 := leN_lt h
  have h2 : 256 ^ xs.length ≤ 256 ^ 16 := Nat.pow_le_pow_right (by decide) hl
  rw [leN_append]
  simp [leN]
  rw [show (256 : Nat) ^ 16 = 340282366920938463463374607431768211456 from by decide] at h2
  omega
theorem mul_lt {Z R : Nat} (hz : Z < 2 ^ 131) (hr : R < 2 ^ 124) : Z * R < 2 ^ 255 := by
  have : Z * R ≤ (2 ^ 131 - 1) * (2 ^ 124 - 1) := Nat.mul_le_mul (by omega) (by omega)
  have : (2 ^ 131 - 1) * (2 ^ 124 - 1) < 2 ^ 255 := by decide
  omega
theorem stepI_lt {R T : Nat} {xs : List Int} (hr : R < 2 ^ 124) (ht : T < 1361129467683753853853498429727072845824 + 340282366920938463463374607431768211456) (h : IsBy xs) (hl : xs.length ≤ 16) : stepI R T xs < 1361129467683753853853498429727072845824 + 340282366920938463463374607431768211456 := by
  have := piece_lt h hl
  exact fold1_lt (mul_lt (by omega) hr)
theorem totI_lt {R : Nat} {xs : List Int} (hr : R < 2 ^ 124) (h : IsBy xs) (k : Nat) : totI R xs k < 1361129467683753853853498429727072845824 + 340282366920938463463374607431768211456 := by
  induction k with
  | zero => simp [totI]
  | succ k ih => exact stepI_lt hr ih ((h.drop _).take _) (by rw [List.length_take]; omega)
theorem totI_append (R : Nat) (xs ys : List Int) (k : Nat) (hk : 16 * k ≤ xs.length) : totI R (xs ++ ys) k = totI R xs k := by
  induction k with
  | zero => rfl
  | succ k ih =>
    simp only [totI]
    rw [ih (by omega), List.drop_append_of_le_length (by omega), List.take_append_of_le_length (by rw [List.length_drop]; omega)]
/-- A number below twice the modulus, reduced. -/
def red (X : Nat) : Nat := (X + 5 * ((X + 5) / 1361129467683753853853498429727072845824)) % 1361129467683753853853498429727072845824
theorem red_eq {X : Nat} (h : X < 2 * p130) : red X = X % p130 := by
  unfold red p130 at *
  rcases Nat.lt_or_ge X 1361129467683753853853498429727072845819 with h1 | h1
  · rw [show (X + 5) / 1361129467683753853853498429727072845824 = 0 by omega]; omega
  · rw [show (X + 5) / 1361129467683753853853498429727072845824 = 1 by omega]; omega
/-- The sum of a text, before s is added. -/
def endI (R : Nat) (xs : List Int) : Nat :=
  if xs.length % 16 = 0 then totI R xs (xs.length / 16) else stepI R (totI R xs (xs.length / 16)) (xs.drop (16 * (xs.length / 16)))
theorem endI_lt {R : Nat} {xs : List Int} (hr : R < 2 ^ 124) (h : IsBy xs) : endI R xs < 1361129467683753853853498429727072845824 + 340282366920938463463374607431768211456 := by
  unfold endI
  split
  · exact totI_lt hr h _
  · exact stepI_lt hr (totI_lt hr h _) (h.drop _) (by rw [List.length_drop]; omega)
/-- The sum of a text: sixteen bytes. -/
def polyL (R S : Nat) (xs : List Int) : List Int := lowB ((red (endI R xs) + S : Nat) : Int) 16
/-- The document's words: piece by piece modulo 2^130 - 5. -/
def accN (R : Nat) (xs : List Int) : Nat → Nat
  | 0 => 0
  | k + 1 => (accN R xs k + leN ((xs.drop (16 * k)).take 16 ++ [1])) * R % p130
theorem totI_acc (R : Nat) (xs : List Int) (k : Nat) : totI R xs k % p130 = accN R xs k % p130 := by
  induction k with
  | zero => rfl
  | succ k ih =>
    simp only [totI, stepI, accN, fold1_mod, Nat.mod_mod]
    rw [Nat.mul_mod, Nat.add_mod, ih, ← Nat.add_mod, ← Nat.mul_mod]
theorem accN_lt (R : Nat) (xs : List Int) (k : Nat) : accN R xs k < p130 := by
  cases k with
  | zero => show 0 < p130; decide
  | succ k => exact Nat.mod_lt _ (by decide)
theorem endI_acc {R : Nat} {xs : List Int} (hr : R < 2 ^ 124) (h : IsBy xs) : red (endI R xs) = accN R xs ((xs.length + 15) / 16) := by
  have hlt := endI_lt hr h
  rw [red_eq (by unfold p130; omega)]
  rw [← Nat.mod_eq_of_lt (accN_lt R xs _)]
  unfold endI
  split
  · rename_i h0
    rw [show (xs.length + 15) / 16 = xs.length / 16 by omega, totI_acc]
  · rename_i h0
    rw [show (xs.length + 15) / 16 = xs.length / 16 + 1 by omega, ← totI_acc]
    simp only [totI]
    rw [List.take_of_length_le (by rw [List.length_drop]; omega)]
/-! ### Digits below 256, or greater ones -/
/-- Numbers that are digits, of any size. -/
def IsNn (ds : List Int) : Prop := ∀ x, x ∈ ds → 0 ≤ x
theorem IsBy.nn {ds : List Int} (h : IsBy ds) : IsNn ds := fun x hx => (h x hx).1
theorem lowB_by (x : Int) (n : Nat) : IsBy (lowB x n) := lowB_byte x n
theorem lowB_get {X n i : Nat} (h : i < n) : (lowB X n).getD i 0 = ((X / 256 ^ i % 256 : Nat) : Int) := by
  induction n with
  | zero => omega
  | succ n ih =>
    rw [lowB_snoc]
    by_cases hi : i < n
    · rw [← ih hi]
      simp [List.getD, List.getElem?_append_left (show i < (lowB (X : Int) n).length by rw [lowB_length]; exact hi)]
    · obtain rfl : i = n := by omega
      have e : ((256 : Int) ^ i) = ((256 ^ i : Nat) : Int) := by simp
      simp only [List.getD, List.getElem?_append_right (show (lowB (X : Int) i).length ≤ i by rw [lowB_length]; omega), lowB_length, Nat.sub_self, List.getElem?_cons_zero, Option.getD_some]
      rw [e, ← Int.natCast_ediv]
      omega
theorem leN_take_succ {ds : List Int} {i : Nat} (hi : i < ds.length) : leN (ds.take (i + 1)) = leN (ds.take i) + 256 ^ i * (ds.getD i 0).toNat := by
  rw [List.take_succ_eq_append_getElem hi, leN_append, List.length_take, Nat.min_eq_left (by omega)]
  simp [leN, List.getD, hi]
/-- What carrying has come to. -/
def caC (ds : List Int) (i : Nat) : Nat := leN (ds.take i) / 256 ^ i
theorem caC_0 (ds : List Int) : caC ds 0 = 0 := by simp [caC, leN]
theorem caC_sum {ds : List Int} {i : Nat} (hi : i < ds.length) : leN (ds.take (i + 1)) / 256 ^ i = caC ds i + (ds.getD i 0).toNat := by
  rw [leN_take_succ hi, Nat.add_mul_div_left _ _ (Nat.pow_pos (by decide))]
  rfl
theorem caC_next {ds : List Int} {i : Nat} (hi : i < ds.length) : (caC ds i + (ds.getD i 0).toNat) / 256 = caC ds (i + 1) := by
  rw [← caC_sum hi, caC, Nat.pow_succ, Nat.div_div_eq_div_mul]
theorem caC_digit {ds : List Int} {i : Nat} (hi : i < ds.length) : (caC ds i + (ds.getD i 0).toNat) % 256 = leN ds / 256 ^ i % 256 := by
  have h1 := leN_append (ds.take (i + 1)) (ds.drop (i + 1))
  rw [List.take_append_drop, List.length_take, Nat.min_eq_left (by omega), Nat.pow_succ, Nat.mul_assoc] at h1
  rw [h1, Nat.add_mul_div_left _ _ (Nat.pow_pos (by decide)), caC_sum hi, Nat.add_mul_mod_self_left]
theorem caC_le {ds : List Int} {B : Nat} (hd : ∀ i, i < ds.length → (ds.getD i 0).toNat ≤ 255 * B) (i : Nat) (hi : i ≤ ds.length) : caC ds i ≤ B := by
  induction i with
  | zero => rw [caC_0]; omega
  | succ i ih =>
    rw [← caC_next (by omega)]
    have := ih (by omega)
    have := hd i (by omega)
    omega
/-- Digits, of which the first i have been carried. -/
def caL (ds : List Int) (i : Nat) : List Int := lowB (leN ds) i ++ ds.drop i
theorem caL_0 (ds : List Int) : caL ds 0 = ds := by simp [caL, lowB]
theorem caL_len (ds : List Int) (i : Nat) (hi : i ≤ ds.length) : (caL ds i).length = ds.length := by simp [caL, lowB_length]; omega
theorem caL_all (ds : List Int) : caL ds ds.length = lowB (leN ds) ds.length := by simp [caL]
theorem caL_get {ds : List Int} {i : Nat} (hi : i < ds.length) : (caL ds i).getD i 0 = ds.getD i 0 := by
  simp [caL, List.getD, List.getElem?_append_right (show (lowB (leN ds : Int) i).length ≤ i by rw [lowB_length]; omega), lowB_length]
theorem caL_set {ds : List Int} {i : Nat} (hi : i < ds.length) : (caL ds i).set i (((caC ds i + (ds.getD i 0).toNat) % 256 : Nat) : Int) = caL ds (i + 1) := by
  rw [caC_digit hi]
  have hd : ds.drop i = ds.getD i 0 :: ds.drop (i + 1) := by
    rw [List.drop_eq_getElem_cons hi]
    simp [List.getD, hi]
  have e : ((256 : Int) ^ i) = ((256 ^ i : Nat) : Int) := by simp
  simp only [caL]
  rw [List.set_append_right _ _ (by rw [lowB_length]; omega), lowB_length, Nat.sub_self, hd, List.set_cons_zero, lowB_snoc, List.append_assoc]
  congr 2
theorem leN_zip : ∀ (xs ys : List Int), xs.length = ys.length → IsNn xs → IsNn ys → leN (List.zipWith (· + ·) xs ys) = leN xs + leN ys
  | [], [], _, _, _ => rfl
  | x :: xs, y :: ys, h, hx, hy => by
    have h1 := leN_zip xs ys (by simpa using h) (fun z hz => hx z (List.mem_cons_of_mem _ hz)) (fun z hz => hy z (List.mem_cons_of_mem _ hz))
    have h2 := hx x (by simp)
    have h3 := hy y (by simp)
    simp only [List.zipWith_cons_cons, leN, h1]
    omega
theorem leN_set : ∀ {ds : List Int} {j : Nat} {v : Int} {y : Nat}, j < ds.length → 0 ≤ ds.getD j 0 → v = ds.getD j 0 + y → leN (ds.set j v) = leN ds + 256 ^ j * y
  | [], j, v, y, h, _, _ => absurd h (by simp)
  | d :: ds, 0, v, y, h, h0, hv => by
    simp at h0 hv
    subst hv
    simp only [List.set_cons_zero, leN, Nat.pow_zero, Nat.one_mul]
    omega
  | d :: ds, j + 1, v, y, h, h0, hv => by
    have := leN_set (ds := ds) (j := j) (v := v) (y := y) (by simpa using h) (by simpa using h0) (by simpa using hv)
    simp only [List.set_cons_succ, leN, this, Nat.pow_succ, Nat.mul_add]
    rw [Nat.mul_comm (256 ^ j) 256, Nat.mul_assoc]
    omega
theorem leN_zeros (n : Nat) : leN (List.replicate n 0) = 0 := by
  induction n with
  | zero => rfl
  | succ n ih => simp [List.replicate_succ, leN, ih]
theorem leN_scale (c : Nat) : ∀ (ds : List Int), IsNn ds → leN (ds.map fun d => (c : Int) * d) = c * leN ds
  | [], _ => by simp [leN]
  | d :: ds, h => by
    have h1 := leN_scale c ds fun z hz => h z (List.mem_cons_of_mem _ hz)
    have h2 := h d (by simp)
    obtain ⟨m, rfl⟩ := Int.eq_ofNat_of_zero_le h2
    simp only [List.map_cons, leN, h1, Nat.mul_add]
    rw [show ((c : Int) * (m : Int)).toNat = c * m by rw [← Int.natCast_mul]; rfl, Int.toNat_natCast, Nat.mul_left_comm]
/-! ### Subtraction -/
/-- Is something borrowed at place k? -/
def boC (A B k : Nat) : Nat := if A % 256 ^ k < B % 256 ^ k then 1 else 0
theorem boC_0 (A B : Nat) : boC A B 0 = 0 := by simp [boC, Nat.mod_one]
theorem boC_le (A B k : Nat) : boC A B k ≤ 1 := by unfold boC; split <;> omega
theorem mod_succ (A k : Nat) : A % 256 ^ (k + 1) = A % 256 ^ k + 256 ^ k * (A / 256 ^ k % 256) := by rw [Nat.pow_succ, Nat.mod_mul]
theorem lex {p a b x y : Nat} (ha : a < p) (hb : b < p) : (a + p * x < b + p * y) ↔ (x < y ∨ x = y ∧ a < b) := by
  constructor
  · intro h
    rcases Nat.lt_trichotomy x y with h1 | h1 | h1
    · exact .inl h1
    · subst h1; exact .inr ⟨rfl, by omega⟩
    · have := Nat.mul_le_mul_left p (show y + 1 ≤ x from h1)
      rw [Nat.mul_add] at this
      omega
  · rintro (h | ⟨rfl, h⟩)
    · have := Nat.mul_le_mul_left p (show x + 1 ≤ y from h)
      rw [Nat.mul_add] at this
      omega
    · omega
theorem boC_next (A B k : Nat) : boC A B (k + 1) = if (A / 256 ^ k % 256 : Nat) < (B / 256 ^ k % 256 : Nat) + boC A B k then 1 else 0 := by
  have hp : 0 < 256 ^ k := Nat.pow_pos (by decide)
  have h := lex (p := 256 ^ k) (x := A / 256 ^ k % 256) (y := B / 256 ^ k % 256) (Nat.mod_lt A hp) (Nat.mod_lt B hp)
  unfold boC
  rw [mod_succ, mod_succ]
  by_cases h1 : A % 256 ^ k < B % 256 ^ k
  · simp only [h1, if_true]
    by_cases h2 : A % 256 ^ k + 256 ^ k * (A / 256 ^ k % 256) < B % 256 ^ k + 256 ^ k * (B / 256 ^ k % 256)
    · rw [if_pos h2, if_pos (by have := h.1 h2; omega)]
    · rw [if_neg h2, if_neg (fun h3 => h2 (h.2 (by omega)))]
  · simp only [h1, if_false]
    by_cases h2 : A % 256 ^ k + 256 ^ k * (A / 256 ^ k % 256) < B % 256 ^ k + 256 ^ k * (B / 256 ^ k % 256)
    · rw [if_pos h2, if_pos (by have := h.1 h2; omega)]
    · rw [if_neg h2, if_neg (fun h3 => h2 (h.2 (by omega)))]
/-- A digit of a difference. -/
theorem sub_digit {A B : Nat} (h : B ≤ A) (k : Nat) : ((A / 256 ^ k % 256 : Nat) : Int) - ((B / 256 ^ k % 256 : Nat) : Int) - (boC A B k : Int) + (if ((A / 256 ^ k % 256 : Nat) : Int) - ((B / 256 ^ k % 256 : Nat) : Int) - (boC A B k : Int) < 0 then 256 else 0) = (((A - B) / 256 ^ k % 256 : Nat) : Int) := by
  have hp : 0 < 256 ^ k := Nat.pow_pos (by decide)
  have e : (A - B) / 256 ^ k + B / 256 ^ k + boC A B k = A / 256 ^ k := by
    have e1 := Nat.div_add_mod A (256 ^ k)
    have e2 := Nat.div_add_mod B (256 ^ k)
    have l1 := Nat.mod_lt A hp
    have l2 := Nat.mod_lt B hp
    have hq : B / 256 ^ k ≤ A / 256 ^ k := Nat.div_le_div_right h
    unfold boC
    split
    · rename_i h1
      have hq' : B / 256 ^ k < A / 256 ^ k := by
        rcases Nat.lt_or_ge (B / 256 ^ k) (A / 256 ^ k) with h2 | h2
        · exact h2
        · have : A / 256 ^ k = B / 256 ^ k := Nat.le_antisymm h2 hq
          rw [this] at e1
          omega
      have e3 : A - B = 256 ^ k * (A / 256 ^ k - B / 256 ^ k - 1) + (256 ^ k + A % 256 ^ k - B % 256 ^ k) := by
        rw [Nat.mul_sub, Nat.mul_sub]
        have := Nat.mul_le_mul_left (256 ^ k) (show B / 256 ^ k + 1 ≤ A / 256 ^ k from hq')
        rw [Nat.mul_add] at this
        omega
      rw [e3, Nat.mul_add_div hp, Nat.div_eq_of_lt (show 256 ^ k + A % 256 ^ k - B % 256 ^ k < 256 ^ k by omega)]
      omega
    · rename_i h1
      have e3 : A - B = 256 ^ k * (A / 256 ^ k - B / 256 ^ k) + (A % 256 ^ k - B % 256 ^ k) := by
        rw [Nat.mul_sub]
        have := Nat.mul_le_mul_left (256 ^ k) hq
        omega
      rw [e3, Nat.mul_add_div hp, Nat.div_eq_of_lt (show A % 256 ^ k - B % 256 ^ k < 256 ^ k by omega)]
      omega
  have hb := boC_le A B k
  split <;> omega
end Go.Proofs.Ytcinhofapkddpaa

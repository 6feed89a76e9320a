/-
  Several own texts in one: PolyM, Pack64, PolyA, PolyB, PolyC, PolyD, PolyE, PolyF, PolyG, PolyH, PolyI, PolyJ, PolyK, PolyL, PolyO, PolyP0. Own work.
-/
import Derived.Laws.Externs
import Derived.Shelf.Bits.Mul64
import Derived.Laws.Bits64b
import Derived.Laws.BitsAllLaws
import Derived.Test.YtpnlgmkkikmglabDoorGA
set_option linter.unusedVariables false
set_option linter.unusedSimpArgs false
/-
  Poly: the numbers of bytes, the steps modulo 2^130 - 5, digits: plain mathematics. Own work.
-/
namespace Go.Proofs.YtpnlgmkkikmglabDoor
open Go.RowKit
/-- The word of X that stands at place p (a power of M). -/
def wd (M p X : Nat) : Nat := X / p % M
/-- The words of a number. -/
def nW (X : Nat) (i : Nat) : Nat := wd 18446744073709551616 (18446744073709551616 ^ i) X
/-- The number of bytes, the lowest first. -/
def leN : List Int → Nat
  | [] => 0
  | x :: xs => x.toNat + 256 * leN xs
theorem leN_append (xs ys : List Int) : leN (xs ++ ys) = leN xs + 256 ^ xs.length * leN ys := by
  induction xs with
  | nil => simp [leN]
  | cons x xs ih =>
    simp only [List.cons_append, leN, ih, List.length_cons, Nat.pow_succ, Nat.mul_add]
    rw [Nat.mul_comm (256 ^ xs.length) 256, Nat.mul_assoc]
    omega
theorem leN_lt {xs : List Int} (h : IsBy xs) : leN xs < 256 ^ xs.length := by
  induction xs with
  | nil => simp [leN]
  | cons x xs ih =>
    have h1 := ih fun y hy => h y (List.mem_cons_of_mem _ hy)
    have h2 := h x (by simp)
    simp only [leN, List.length_cons, Nat.pow_succ]
    omega
theorem IsBy.app {xs ys : List Int} (h : IsBy xs) (k : IsBy ys) : IsBy (xs ++ ys) := fun x hx => by
  rcases List.mem_append.1 hx with hx | hx
  · exact h x hx
  · exact k x hx
theorem leN_split (xs : List Int) (k : Nat) (hk : k ≤ xs.length) : leN xs = leN (xs.take k) + 256 ^ k * leN (xs.drop k) := by
  have := leN_append (xs.take k) (xs.drop k)
  rw [List.take_append_drop, List.length_take, Nat.min_eq_left hk] at this
  exact this
theorem leN_div {xs : List Int} (h : IsBy xs) (k : Nat) : leN xs / 256 ^ k = leN (xs.drop k) := by
  have hp : 0 < 256 ^ k := Nat.pow_pos (by decide)
  rcases Nat.lt_or_ge xs.length k with h1 | h1
  · rw [List.drop_eq_nil_of_le (by omega), Nat.div_eq_of_lt (Nat.lt_of_lt_of_le (leN_lt h) (Nat.pow_le_pow_right (by decide) (by omega)))]
    rfl
  · have h2 := leN_lt (h.take k)
    rw [List.length_take, Nat.min_eq_left h1] at h2
    rw [leN_split xs k h1, Nat.add_mul_div_left _ _ hp, Nat.div_eq_of_lt h2, Nat.zero_add]
theorem leN_mod {xs : List Int} (h : IsBy xs) (k : Nat) : leN xs % 256 ^ k = leN (xs.take k) := by
  have hp : 0 < 256 ^ k := Nat.pow_pos (by decide)
  rcases Nat.lt_or_ge xs.length k with h1 | h1
  · rw [List.take_of_length_le (by omega), Nat.mod_eq_of_lt (Nat.lt_of_lt_of_le (leN_lt h) (Nat.pow_le_pow_right (by decide) (by omega)))]
  · have h2 := leN_lt (h.take k)
    rw [List.length_take, Nat.min_eq_left h1] at h2
    rw [leN_split xs k h1, Nat.add_mul_mod_self_left, Nat.mod_eq_of_lt h2]
theorem leV_leN {xs : List Int} (h : IsBy xs) (p n : Nat) : leV xs p n = (leN ((xs.drop p).take n) : Int) := by
  induction n with
  | zero => simp [leV, leN]
  | succ n ih =>
    simp only [leV, ih]
    by_cases hin : p + n < xs.length
    · have e : (xs.drop p).take (n + 1) = (xs.drop p).take n ++ [xs.getD (p + n) 0] := by
        rw [List.take_succ_eq_append_getElem (by rw [List.length_drop]; omega)]
        simp [List.getD, hin]
      have hb := h (xs.getD (p + n) 0) (by rw [List.getD, List.getElem?_eq_getElem hin]; simp)
      rw [e, leN_append, List.length_take, List.length_drop, Nat.min_eq_left (by omega)]
      generalize xs.getD (p + n) 0 = v at *
      obtain ⟨m, rfl⟩ := Int.eq_ofNat_of_zero_le hb.1
      simp [leN, Int.mul_comm]
    · have e : (xs.drop p).take (n + 1) = (xs.drop p).take n := by
        rw [List.take_of_length_le (by rw [List.length_drop]; omega), List.take_of_length_le (by rw [List.length_drop]; omega)]
      rw [e, show xs.getD (p + n) 0 = 0 by simp [List.getD, List.getElem?_eq_none (show xs.length ≤ p + n by omega)]]
      simp
theorem nW_leN {xs : List Int} (h : IsBy xs) (i : Nat) : (nW (leN xs) i : Int) = leV xs (8 * i) 8 := by
  rw [leV_leN h]
  unfold nW wd
  rw [show (18446744073709551616 : Nat) = 256 ^ 8 from by decide, ← Nat.pow_mul, leN_div h, leN_mod (h.drop _)]
theorem lowB_leN : ∀ {xs : List Int}, IsBy xs → lowB (leN xs) xs.length = xs
  | [], _ => rfl
  | x :: xs, h => by
    have h1 := h x (by simp)
    have h2 := lowB_leN fun y hy => h y (List.mem_cons_of_mem _ hy)
    obtain ⟨m, rfl⟩ := Int.eq_ofNat_of_zero_le h1.1
    simp only [leN, List.length_cons, lowB]
    rw [show ((((m : Int).toNat + 256 * leN xs : Nat) : Int) / 256) = (leN xs : Int) by simp only [Int.toNat_natCast]; omega, h2]
    congr 1
    simp only [Int.toNat_natCast]
    omega
theorem leN_lowB (X n : Nat) : leN (lowB X n) = X % 256 ^ n := by
  induction n generalizing X with
  | zero => simp [lowB, leN, Nat.mod_one]
  | succ n ih =>
    have h1 := ih (X / 256)
    simp only [lowB, leN]
    rw [show ((X : Int) / 256) = ((X / 256 : Nat) : Int) by omega, h1, show ((X : Int) % 256).toNat = X % 256 by omega, Nat.pow_succ, Nat.mul_comm (256 ^ n) 256, Nat.mod_mul]
theorem lowB_mod (X n : Nat) : lowB ((X % 256 ^ n : Nat) : Int) n = lowB X n := by
  induction n generalizing X with
  | zero => rfl
  | succ n ih =>
    simp only [lowB]
    have e1 : ((X % 256 ^ (n + 1) : Nat) : Int) % 256 = (X : Int) % 256 := by
      have : X % 256 ^ (n + 1) % 256 = X % 256 := by rw [Nat.pow_succ, Nat.mul_comm, Nat.mod_mul_right_mod]
      omega
    have e2 : ((X % 256 ^ (n + 1) : Nat) : Int) / 256 = ((X / 256 % 256 ^ n : Nat) : Int) := by
      have : X % 256 ^ (n + 1) / 256 = X / 256 % 256 ^ n := by rw [Nat.pow_succ, Nat.mul_comm, Nat.mod_mul_right_div_self]
      omega
    rw [e1, e2, ih, show ((X : Int) / 256) = ((X / 256 : Nat) : Int) by omega]
def p130 : Nat := 1361129467683753853853498429727072845819
/-- One fold: the lowest 130 bits, and five times what stands above. -/
def fold1 (Z : Nat) : Nat := Z % 1361129467683753853853498429727072845824 + 5 * (Z / 1361129467683753853853498429727072845824)
theorem fold1_mod (Z : Nat) : fold1 Z % p130 = Z % p130 := by
  have : Z = fold1 Z + p130 * (Z / 1361129467683753853853498429727072845824) := by unfold fold1 p130; omega
  conv => rhs; rw [this, Nat.add_mul_mod_self_left]
theorem fold1_lt {Z : Nat} (h : Z < 2 ^ 255) : fold1 Z < 1361129467683753853853498429727072845824 + 340282366920938463463374607431768211456 := by
  unfold fold1; omega
/-- The sum behind a piece. -/
def stepI (R T : Nat) (xs : List Int) : Nat := fold1 ((T + leN (xs ++ [1])) * R)
/-- The sum behind k whole pieces. -/
def totI (R : Nat) (xs : List Int) : Nat → Nat
  | 0 => 0
  | k + 1 => stepI R (totI R xs k) ((xs.drop (16 * k)).take 16)
theorem piece_lt {xs : List Int} (h : IsBy xs) (hl : xs.length ≤ 16) : leN (xs ++ [1]) < 2 * 340282366920938463463374607431768211456 := by
  have h1 := leN_lt h
  have h2 : 256 ^ xs.length ≤ 256 ^ 16 := Nat.pow_le_pow_right (by decide) hl
  rw [leN_append]
  simp [leN]
  rw [show (256 : Nat) ^ 16 = 340282366920938463463374607431768211456 from by decide] at h2
  omega
theorem mul_lt {Z R : Nat} (hz : Z < 2 ^ 131) (hr : R < 2 ^ 124) : Z * R < 2 ^ 255 := by
  have : Z * R ≤ (2 ^ 131 - 1) * (2 ^ 124 - 1) := Nat.mul_le_mul (by omega) (by omega)
  have : (2 ^ 131 - 1) * (2 ^ 124 - 1) < 2 ^ 255 := by decide
  omega
theorem stepI_lt {R T : Nat} {xs : List Int} (hr : R < 2 ^ 124) (ht : T < 1361129467683753853853498429727072845824 + 340282366920938463463374607431768211456) (h : IsBy xs) (hl : xs.length ≤ 16) : stepI R T xs < 1361129467683753853853498429727072845824 + 340282366920938463463374607431768211456 := by
  have := piece_lt h hl
  exact fold1_lt (mul_lt (by omega) hr)
theorem totI_lt {R : Nat} {xs : List Int} (hr : R < 2 ^ 124) (h : IsBy xs) (k : Nat) : totI R xs k < 1361129467683753853853498429727072845824 + 340282366920938463463374607431768211456 := by
  induction k with
  | zero => simp [totI]
  | succ k ih => exact stepI_lt hr ih ((h.drop _).take _) (by rw [List.length_take]; omega)
theorem totI_append (R : Nat) (xs ys : List Int) (k : Nat) (hk : 16 * k ≤ xs.length) : totI R (xs ++ ys) k = totI R xs k := by
  induction k with
  | zero => rfl
  | succ k ih =>
    simp only [totI]
    rw [ih (by omega), List.drop_append_of_le_length (by omega), List.take_append_of_le_length (by rw [List.length_drop]; omega)]
/-- A number below twice the modulus, reduced. -/
def red (X : Nat) : Nat := (X + 5 * ((X + 5) / 1361129467683753853853498429727072845824)) % 1361129467683753853853498429727072845824
theorem red_eq {X : Nat} (h : X < 2 * p130) : red X = X % p130 := by
  unfold red p130 at *
  rcases Nat.lt_or_ge X 1361129467683753853853498429727072845819 with h1 | h1
  · rw [show (X + 5) / 1361129467683753853853498429727072845824 = 0 by omega]; omega
  · rw [show (X + 5) / 1361129467683753853853498429727072845824 = 1 by omega]; omega
/-- The sum of a text, before s is added. -/
def endI (R : Nat) (xs : List Int) : Nat :=
  if xs.length % 16 = 0 then totI R xs (xs.length / 16) else stepI R (totI R xs (xs.length / 16)) (xs.drop (16 * (xs.length / 16)))
theorem endI_lt {R : Nat} {xs : List Int} (hr : R < 2 ^ 124) (h : IsBy xs) : endI R xs < 1361129467683753853853498429727072845824 + 340282366920938463463374607431768211456 := by
  unfold endI
  split
  · exact totI_lt hr h _
  · exact stepI_lt hr (totI_lt hr h _) (h.drop _) (by rw [List.length_drop]; omega)
/-- The sum of a text: sixteen bytes. -/
def polyL (R S : Nat) (xs : List Int) : List Int := lowB ((red (endI R xs) + S : Nat) : Int) 16
/-- The document's words: piece by piece modulo 2^130 - 5. -/
def accN (R : Nat) (xs : List Int) : Nat → Nat
  | 0 => 0
  | k + 1 => (accN R xs k + leN ((xs.drop (16 * k)).take 16 ++ [1])) * R % p130
theorem totI_acc (R : Nat) (xs : List Int) (k : Nat) : totI R xs k % p130 = accN R xs k % p130 := by
  induction k with
  | zero => rfl
  | succ k ih =>
    simp only [totI, stepI, accN, fold1_mod, Nat.mod_mod]
    rw [Nat.mul_mod, Nat.add_mod, ih, ← Nat.add_mod, ← Nat.mul_mod]
theorem accN_lt (R : Nat) (xs : List Int) (k : Nat) : accN R xs k < p130 := by
  cases k with
  | zero => show 0 < p130; decide
  | succ k => exact Nat.mod_lt _ (by decide)
theorem endI_acc {R : Nat} {xs : List Int} (hr : R < 2 ^ 124) (h : IsBy xs) : red (endI R xs) = accN R xs ((xs.length + 15) / 16) := by
  have hlt := endI_lt hr h
  rw [red_eq (by unfold p130; omega)]
  rw [← Nat.mod_eq_of_lt (accN_lt R xs _)]
  unfold endI
  split
  · rename_i h0
    rw [show (xs.length + 15) / 16 = xs.length / 16 by omega, totI_acc]
  · rename_i h0
    rw [show (xs.length + 15) / 16 = xs.length / 16 + 1 by omega, ← totI_acc]
    simp only [totI]
    rw [List.take_of_length_le (by rw [List.length_drop]; omega)]
/-! ### Digits below 256, or greater ones -/
/-- Numbers that are digits, of any size. -/
def IsNn (ds : List Int) : Prop := ∀ x, x ∈ ds → 0 ≤ x
theorem IsBy.nn {ds : List Int} (h : IsBy ds) : IsNn ds := fun x hx => (h x hx).1
theorem lowB_by (x : Int) (n : Nat) : IsBy (lowB x n) := lowB_byte x n
theorem lowB_get {X n i : Nat} (h : i < n) : (lowB X n).getD i 0 = ((X / 256 ^ i % 256 : Nat) : Int) := by
  induction n with
  | zero => omega
  | succ n ih =>
    rw [lowB_snoc]
    by_cases hi : i < n
    · rw [← ih hi]
      simp [List.getD, List.getElem?_append_left (show i < (lowB (X : Int) n).length by rw [lowB_length]; exact hi)]
    · obtain rfl : i = n := by omega
      have e : ((256 : Int) ^ i) = ((256 ^ i : Nat) : Int) := by simp
      simp only [List.getD, List.getElem?_append_right (show (lowB (X : Int) i).length ≤ i by rw [lowB_length]; omega), lowB_length, Nat.sub_self, List.getElem?_cons_zero, Option.getD_some]
      rw [e, ← Int.natCast_ediv]
      omega
theorem leN_take_succ {ds : List Int} {i : Nat} (hi : i < ds.length) : leN (ds.take (i + 1)) = leN (ds.take i) + 256 ^ i * (ds.getD i 0).toNat := by
  rw [List.take_succ_eq_append_getElem hi, leN_append, List.length_take, Nat.min_eq_left (by omega)]
  simp [leN, List.getD, hi]
/-- What carrying has come to. -/
def caC (ds : List Int) (i : Nat) : Nat := leN (ds.take i) / 256 ^ i
theorem caC_0 (ds : List Int) : caC ds 0 = 0 := by simp [caC, leN]
theorem caC_sum {ds : List Int} {i : Nat} (hi : i < ds.length) : leN (ds.take (i + 1)) / 256 ^ i = caC ds i + (ds.getD i 0).toNat := by
  rw [leN_take_succ hi, Nat.add_mul_div_left _ _ (Nat.pow_pos (by decide))]
  rfl
theorem caC_next {ds : List Int} {i : Nat} (hi : i < ds.length) : (caC ds i + (ds.getD i 0).toNat) / 256 = caC ds (i + 1) := by
  rw [← caC_sum hi, caC, Nat.pow_succ, Nat.div_div_eq_div_mul]
theorem caC_digit {ds : List Int} {i : Nat} (hi : i < ds.length) : (caC ds i + (ds.getD i 0).toNat) % 256 = leN ds / 256 ^ i % 256 := by
  have h1 := leN_append (ds.take (i + 1)) (ds.drop (i + 1))
  rw [List.take_append_drop, List.length_take, Nat.min_eq_left (by omega), Nat.pow_succ, Nat.mul_assoc] at h1
  rw [h1, Nat.add_mul_div_left _ _ (Nat.pow_pos (by decide)), caC_sum hi, Nat.add_mul_mod_self_left]
theorem caC_le {ds : List Int} {B : Nat} (hd : ∀ i, i < ds.length → (ds.getD i 0).toNat ≤ 255 * B) (i : Nat) (hi : i ≤ ds.length) : caC ds i ≤ B := by
  induction i with
  | zero => rw [caC_0]; omega
  | succ i ih =>
    rw [← caC_next (by omega)]
    have := ih (by omega)
    have := hd i (by omega)
    omega
/-- Digits, of which the first i have been carried. -/
def caL (ds : List Int) (i : Nat) : List Int := lowB (leN ds) i ++ ds.drop i
theorem caL_0 (ds : List Int) : caL ds 0 = ds := by simp [caL, lowB]
theorem caL_len (ds : List Int) (i : Nat) (hi : i ≤ ds.length) : (caL ds i).length = ds.length := by simp [caL, lowB_length]; omega
theorem caL_all (ds : List Int) : caL ds ds.length = lowB (leN ds) ds.length := by simp [caL]
theorem caL_get {ds : List Int} {i : Nat} (hi : i < ds.length) : (caL ds i).getD i 0 = ds.getD i 0 := by
  simp [caL, List.getD, List.getElem?_append_right (show (lowB (leN ds : Int) i).length ≤ i by rw [lowB_length]; omega), lowB_length]
theorem caL_set {ds : List Int} {i : Nat} (hi : i < ds.length) : (caL ds i).set i (((caC ds i + (ds.getD i 0).toNat) % 256 : Nat) : Int) = caL ds (i + 1) := by
  rw [caC_digit hi]
  have hd : ds.drop i = ds.getD i 0 :: ds.drop (i + 1) := by
    rw [List.drop_eq_getElem_cons hi]
    simp [List.getD, hi]
  have e : ((256 : Int) ^ i) = ((256 ^ i : Nat) : Int) := by simp
  simp only [caL]
  rw [List.set_append_right _ _ (by rw [lowB_length]; omega), lowB_length, Nat.sub_self, hd, List.set_cons_zero, lowB_snoc, List.append_assoc]
  congr 2
theorem leN_zip : ∀ (xs ys : List Int), xs.length = ys.length → IsNn xs → IsNn ys → leN (List.zipWith (· + ·) xs ys) = leN xs + leN ys
  | [], [], _, _, _ => rfl
  | x :: xs, y :: ys, h, hx, hy => by
    have h1 := leN_zip xs ys (by simpa using h) (fun z hz => hx z (List.mem_cons_of_mem _ hz)) (fun z hz => hy z (List.mem_cons_of_mem _ hz))
    have h2 := hx x (by simp)
    have h3 := hy y (by simp)
    simp only [List.zipWith_cons_cons, leN, h1]
    omega
theorem leN_set : ∀ {ds : List Int} {j : Nat} {v : Int} {y : Nat}, j < ds.length → 0 ≤ ds.getD j 0 → v = ds.getD j 0 + y → leN (ds.set j v) = leN ds + 256 ^ j * y
  | [], j, v, y, h, _, _ => absurd h (by simp)
  | d :: ds, 0, v, y, h, h0, hv => by
    simp at h0 hv
    subst hv
    simp only [List.set_cons_zero, leN, Nat.pow_zero, Nat.one_mul]
    omega
  | d :: ds, j + 1, v, y, h, h0, hv => by
    have := leN_set (ds := ds) (j := j) (v := v) (y := y) (by simpa using h) (by simpa using h0) (by simpa using hv)
    simp only [List.set_cons_succ, leN, this, Nat.pow_succ, Nat.mul_add]
    rw [Nat.mul_comm (256 ^ j) 256, Nat.mul_assoc]
    omega
theorem leN_zeros (n : Nat) : leN (List.replicate n 0) = 0 := by
  induction n with
  | zero => rfl
  | succ n ih => simp [List.replicate_succ, leN, ih]
theorem leN_scale (c : Nat) : ∀ (ds : List Int), IsNn ds → leN (ds.map fun d => (c : Int) * d) = c * leN ds
  | [], _ => by simp [leN]
  | d :: ds, h => by
    have h1 := leN_scale c ds fun z hz => h z (List.mem_cons_of_mem _ hz)
    have h2 := h d (by simp)
    obtain ⟨m, rfl⟩ := Int.eq_ofNat_of_zero_le h2
    simp only [List.map_cons, leN, h1, Nat.mul_add]
    rw [show ((c : Int) * (m : Int)).toNat = c * m by rw [← Int.natCast_mul]; rfl, Int.toNat_natCast, Nat.mul_left_comm]
/-! ### Subtraction -/
/-- Is something borrowed at place k? -/
def boC (A B k : Nat) : Nat := if A % 256 ^ k < B % 256 ^ k then 1 else 0
theorem boC_0 (A B : Nat) : boC A B 0 = 0 := by simp [boC, Nat.mod_one]
theorem boC_le (A B k : Nat) : boC A B k ≤ 1 := by unfold boC; split <;> omega
theorem mod_succ (A k : Nat) : A % 256 ^ (k + 1) = A % 256 ^ k + 256 ^ k * (A / 256 ^ k % 256) := by rw [Nat.pow_succ, Nat.mod_mul]
theorem lex {p a b x y : Nat} (ha : a < p) (hb : b < p) : (a + p * x < b + p * y) ↔ (x < y ∨ x = y ∧ a < b) := by
  constructor
  · intro h
    rcases Nat.lt_trichotomy x y with h1 | h1 | h1
    · exact .inl h1
    · subst h1; exact .inr ⟨rfl, by omega⟩
    · have := Nat.mul_le_mul_left p (show y + 1 ≤ x from h1)
      rw [Nat.mul_add] at this
      omega
  · rintro (h | ⟨rfl, h⟩)
    · have := Nat.mul_le_mul_left p (show x + 1 ≤ y from h)
      rw [Nat.mul_add] at this
      omega
    · omega
theorem boC_next (A B k : Nat) : boC A B (k + 1) = if (A / 256 ^ k % 256 : Nat) < (B / 256 ^ k % 256 : Nat) + boC A B k then 1 else 0 := by
  have hp : 0 < 256 ^ k := Nat.pow_pos (by decide)
  have h := lex (p := 256 ^ k) (x := A / 256 ^ k % 256) (y := B / 256 ^ k % 256) (Nat.mod_lt A hp) (Nat.mod_lt B hp)
  unfold boC
  rw [mod_succ, mod_succ]
  by_cases h1 : A % 256 ^ k < B % 256 ^ k
  · simp only [h1, if_true]
    by_cases h2 : A % 256 ^ k + 256 ^ k * (A / 256 ^ k % 256) < B % 256 ^ k + 256 ^ k * (B / 256 ^ k % 256)
    · rw [if_pos h2, if_pos (by have := h.1 h2; omega)]
    · rw [if_neg h2, if_neg (fun h3 => h2 (h.2 (by omega)))]
  · simp only [h1, if_false]
    by_cases h2 : A % 256 ^ k + 256 ^ k * (A / 256 ^ k % 256) < B % 256 ^ k + 256 ^ k * (B / 256 ^ k % 256)
    · rw [if_pos h2, if_pos (by have := h.1 h2; omega)]
    · rw [if_neg h2, if_neg (fun h3 => h2 (h.2 (by omega)))]
/-- A digit of a difference. -/
theorem sub_digit {A B : Nat} (h : B ≤ A) (k : Nat) : ((A / 256 ^ k % 256 : Nat) : Int) - ((B / 256 ^ k % 256 : Nat) : Int) - (boC A B k : Int) + (if ((A / 256 ^ k % 256 : Nat) : Int) - ((B / 256 ^ k % 256 : Nat) : Int) - (boC A B k : Int) < 0 then 256 else 0) = (((A - B) / 256 ^ k % 256 : Nat) : Int) := by
  have hp : 0 < 256 ^ k := Nat.pow_pos (by decide)
  have e : (A - B) / 256 ^ k + B / 256 ^ k + boC A B k = A / 256 ^ k := by
    have e1 := Nat.div_add_mod A (256 ^ k)
    have e2 := Nat.div_add_mod B (256 ^ k)
    have l1 := Nat.mod_lt A hp
    have l2 := Nat.mod_lt B hp
    have hq : B / 256 ^ k ≤ A / 256 ^ k := Nat.div_le_div_right h
    unfold boC
    split
    · rename_i h1
      have hq' : B / 256 ^ k < A / 256 ^ k := by
        rcases Nat.lt_or_ge (B / 256 ^ k) (A / 256 ^ k) with h2 | h2
        · exact h2
        · have : A / 256 ^ k = B / 256 ^ k := Nat.le_antisymm h2 hq
          rw [this] at e1
          omega
      have e3 : A - B = 256 ^ k * (A / 256 ^ k - B / 256 ^ k - 1) + (256 ^ k + A % 256 ^ k - B % 256 ^ k) := by
        rw [Nat.mul_sub, Nat.mul_sub]
        have := Nat.mul_le_mul_left (256 ^ k) (show B / 256 ^ k + 1 ≤ A / 256 ^ k from hq')
        rw [Nat.mul_add] at this
        omega
      rw [e3, Nat.mul_add_div hp, Nat.div_eq_of_lt (show 256 ^ k + A % 256 ^ k - B % 256 ^ k < 256 ^ k by omega)]
      omega
    · rename_i h1
      have e3 : A - B = 256 ^ k * (A / 256 ^ k - B / 256 ^ k) + (A % 256 ^ k - B % 256 ^ k) := by
        rw [Nat.mul_sub]
        have := Nat.mul_le_mul_left (256 ^ k) hq
        omega
      rw [e3, Nat.mul_add_div hp, Nat.div_eq_of_lt (show A % 256 ^ k - B % 256 ^ k < 256 ^ k by omega)]
      omega
  have hb := boC_le A B k
  split <;> omega
end Go.Proofs.YtpnlgmkkikmglabDoor

/-
  Poly: what it reads of bytes: contracts. Own work.
-/
namespace Go.Proofs.YtpnlgmkkikmglabDoor
open Go.RowKit
set_option maxRecDepth 100000 in
theorem len64_64 (w : World) : Calls Tryd.prog 76 #[.int .u64 18446744073709551615] w fun e w' => e = .returned (.int .i64 64) ∧ w = w' := by
  go_enter Tryd.func76, Tryd.ntmps76
  go_wp2
  go_ret
  exact ⟨by kernel_rfl, rfl⟩
set_option maxRecDepth 100000 in
theorem width64_any (w : World) : Calls Tryd.prog 63 #[] w fun e w' => e = .returned (.int .i64 8) ∧ w = w' := by
  go_enter Tryd.func63, Tryd.ntmps63
  go_wp2_with (go_at_call 76; refine (len64_64 _).mono ?_; rintro e w' ⟨rfl, rfl⟩)
  go_ret
  exact ⟨rfl, rfl⟩
set_option maxRecDepth 100000 in
set_option maxHeartbeats 400000 in
theorem fromLow64_any (A : Option Addr) (m c p : Nat) (xs : List Int) (w : World) (h : Bs w w.heap.size A m xs) (hx : IsBy xs) (hm : m ≤ 1000000) (hp : p ≤ 1000000) :
    Calls Tryd.prog 74 #[.slice A m c, .int .i64 (p : Int)] w fun e w' => e = .returned (.int .u64 (leV xs p 8)) ∧ w = w' := by
  go_enter Tryd.func74, Tryd.ntmps74
  go_wp2_with (go_at_call 63; refine (width64_any _).mono ?_; rintro e w' ⟨rfl, rfl⟩)
  go_loop [5, 9] (fun v i => ∃ k : Nat, k ≤ 8 ∧ i = .int .i64 k ∧ v = .int .u64 (leV xs p k)) (fun _ i => 8 - (intOf i).toNat)
  case atStart => exact ⟨0, Nat.zero_le _, rfl, rfl⟩
  case round =>
    obtain ⟨k, hk, rfl, rfl⟩ := hrel
    obtain ⟨q0, q1⟩ := leV_bound hx p k
    by_cases hlt : k < 8
    · by_cases hin : p + k < m
      · obtain ⟨b, o, rfl, hb, hc⟩ := h.at_ hin
        obtain ⟨b0, b1⟩ := getD_byte hx (p + k)
        have HO := hide (or_next64 k hlt q0 q1 b0 b1)
        go_wp2
        go_round
        case rel => exact ⟨k + 1, by omega, by go_num, congrArg (Value.int .u64) (by have := HO.out; simpa [leV, List.getD] using this)⟩
        case measure => simp [intOf]; omega
      · have hz : xs.getD (p + k) 0 = 0 := by
          have := h.1
          simp [List.getD, List.getElem?_eq_none (show xs.length ≤ p + k by omega)]
        have HZ := hide hz
        clear hz
        go_wp2
        go_round
        case rel => exact ⟨k + 1, by omega, by go_num, congrArg (Value.int .u64) (by rw [leV, HZ.out]; omega)⟩
        case measure => simp [intOf]; omega
    · go_wp2
      go_ret
      obtain rfl : k = 8 := by omega
      exact ⟨rfl, rfl⟩
set_option maxRecDepth 100000 in
theorem le64_any (A : Option Addr) (m c p : Nat) (xs : List Int) (w : World) (h : Bs w w.heap.size A m xs) (hx : IsBy xs) (hm : m ≤ 1000000) (hp : p ≤ 1000000) :
    Calls Tryd.prog 60 #[.slice A m c, .int .i64 (p : Int)] w fun e w' => e = .returned (.int .u64 (leV xs p 8)) ∧ w = w' := by
  go_enter Tryd.func60, Tryd.ntmps60
  go_wp2_with (go_at_call 74; refine (fromLow64_any A m c p xs _ h hx hm hp).mono ?_; rintro e w' ⟨rfl, rfl⟩)
  go_ret
  exact ⟨rfl, rfl⟩
/-- A number's three words. -/
def n3 (a b c : Int) : List Value := [.int .u64 a, .int .u64 b, .int .u64 c]
theorem zeroN3 : (Tryd.prog.info? 71).map (fun i => i.zero) = some (some (.agg (n3 0 0 0).toArray)) := by kernel_rfl
theorem sizeN3 (a b c : Int) : (Tryd.prog.info? 71).map (·.size) = some (n3 a b c).length := by kernel_rfl
theorem oneN3 (a b c : Int) : ∀ u ∈ n3 a b c, u.oneCell' = true := by
  intro u hu
  simp only [n3, List.mem_cons, List.not_mem_nil, or_false] at hu
  rcases hu with rfl | rfl | rfl <;> rfl
theorem builtN3 (a b c : Int) : Tryd.prog.built 71 [(0, .int .u64 a), (1, .int .u64 b), (2, .int .u64 c)] = some (n3 a b c).toArray := by kernel_rfl
set_option maxRecDepth 100000 in
set_option maxHeartbeats 1000000 in
theorem fromBytes_any (A : Option Addr) (m c : Nat) (xs : List Int) (w : World) (h : Bs w w.heap.size A m xs) (hx : IsBy xs) (hm : m ≤ 1000000) :
    Calls Tryd.prog 39 #[.slice A m c] w fun e w' => e = .returned (.agg (n3 (leV xs 0 8) (leV xs 8 8) (leV xs 16 8)).toArray) ∧ Below w.heap.size w w' := by
  have hL0 := fun w h => le64_any A m c 0 xs w h hx hm (by omega)
  have hL1 := fun w h => le64_any A m c 8 xs w h hx hm (by omega)
  have hL2 := fun w h => le64_any A m c 16 xs w h hx hm (by omega)
  generalize leV xs 0 8 = X0 at *
  generalize leV xs 8 8 = X1 at *
  generalize leV xs 16 8 = X2 at *
  go_enter Tryd.func39, Tryd.ntmps39
  go_wp2_with (first
    | (with_reducible refine wl_alloc rfl 71 _ (n3 0 0 0) rfl zeroN3 rfl ?_; intro g2 w2 r2 a2 l2 b2))
  have hb := h.later b2
  refine (hL0 w2 hb).mono ?_
  rintro e w' ⟨rfl, rfl⟩
  go_wp2_with fail
  refine (hL1 w2 hb).mono ?_
  rintro e w' ⟨rfl, rfl⟩
  go_wp2_with fail
  refine (hL2 w2 hb).mono ?_
  rintro e w' ⟨rfl, rfl⟩
  go_wp2_with (first
    | ((with_reducible refine wl_build rfl 71 _ rfl _ ?hv _ (builtN3 X0 X1 X2) ?hk); case hv => rfl)
    | (with_reducible refine wl_store_row rfl 71 (.tmp 2) (.tmp 9) g2 71 _ (n3 X0 X1 X2) rfl rfl rfl r2 (sizeN3 _ _ _) rfl (oneN3 _ _ _) ?_; intro w3 r3 o3))
  refine bodyPost_ret (v := .agg (n3 X0 X1 X2).toArray) ?_ rfl ⟨rfl, ?_⟩
  · exact results_cell_row Tryd.results39 _ _ g2 71 _ (0, 0) _ rfl r3 Tryd.underlying71 rfl (by simpa using sizeN3 X0 X1 X2)
  · exact b2.trans (o3.below a2)
end Go.Proofs.YtpnlgmkkikmglabDoor

/-
  Pack: eight bytes behind others, and what is joined: a contract each. Own work.
-/
namespace Go.Proofs.YtpnlgmkkikmglabDoor
open Go.RowKit
set_option maxRecDepth 100000 in
set_option maxHeartbeats 400000 in
theorem lay64_low (A : Option Addr) (m c : Nat) (xs : List Int) (x : Int) (w : World) (h : Bs w w.heap.size A m xs) (hm : m ≤ 1000000) (h0 : 0 ≤ x) (h1 : x < 2 ^ 64) :
    Calls Tryd.prog 43 #[.slice A m c, .int .u64 x, .bool true] w (RetBs (xs ++ lowB x 8) w) := by
  obtain ⟨i0, hi, hz, hsz, hby⟩ := u8_info
  go_enter Tryd.func43, Tryd.ntmps43
  go_wp2_with (first
    | (go_at_call 63; refine (width64_any _).mono ?_; rintro e w' ⟨rfl, rfl⟩)
    | (refine wpList_make_bs rfl _ _ _ rfl 5 i0 Tryd.underlying24 hi hz hsz hby (m + 8) rfl rfl (by omega) ?_; intro w1 hown hs1 hb1)
    | (refine wpList_copy_bs rfl (.tmp 17) (.tmp 18) _ _ rfl 5 Tryd.underlying24 u8_size w.heap.size 0 _ _ m c A rfl rfl _ xs 5 w.heap.size hown (h.below hb1) (by omega) (by rw [List.length_replicate]; omega) w.heap.size w hb1 (Nat.le_refl _) ?_; intro w2 hown2 hb2))
  go_loopw [21] (fun i wr => ∃ k : Nat, k ≤ 8 ∧ i = .int .i64 k ∧ Own wr 5 w.heap.size (xs ++ (lowB x k ++ List.replicate (8 - k) 0)) ∧ Below w.heap.size w wr) (fun i _ => 8 - (intOf i).toNat)
  case atStart => exact ⟨0, Nat.zero_le _, rfl, by simpa [lowB, h.1] using hown2, hb2⟩
  case round =>
    obtain ⟨k, hk, rfl, hown, hb⟩ := hrel
    by_cases hlt : k < 8
    · have hc := hown.cell (j := m + k) (by simp [lowB_length, h.1]; omega)
      have hf := hown.frozen (m + k)
      have hs := hown.set (m + k) (x / 2 ^ (8 * k) % 256)
      have he := set_low hlt (lowB x k) (lowB_length x k) (x / 2 ^ (8 * k) % 256) xs
      rw [h.1] at he
      rw [he, ← pow256_two, ← lowB_snoc, pow256_two] at hs
      have HS := hide hs
      clear hs he
      go_wp2
      go_roundw
      case rel => exact ⟨k + 1, by omega, by go_num, HS.out, hb.setCell (Nat.le_refl _) _⟩
      case measure => simp [intOf]; omega
    · go_wp2
      go_ret
      obtain rfl : k = 8 := by omega
      exact ret_own hown hb (by simp) (by simp [lowB_length, h.1]) (Nat.le_refl _) (by simp only [maxLen]; omega)
set_option maxRecDepth 100000 in
theorem putLe64_any (A : Option Addr) (m c : Nat) (xs : List Int) (x : Int) (w : World) (h : Bs w w.heap.size A m xs) (hm : m ≤ 1000000) (h0 : 0 ≤ x) (h1 : x < 2 ^ 64) :
    Calls Tryd.prog 27 #[.slice A m c, .int .u64 x] w (RetBs (xs ++ lowB x 8) w) := by
  go_enter Tryd.func27, Tryd.ntmps27
  go_wp2_with (go_at_call 43; refine (lay64_low A m c xs x _ h hm h0 h1).mono ?_; rintro e w1 ⟨A1, n1, c1, rfl, hb, hn, hc, hl⟩)
  go_ret
  exact ⟨A1, n1, c1, rfl, hb, hn, hc, hl⟩
set_option maxRecDepth 100000 in
set_option maxHeartbeats 800000 in
theorem join_any (A : Option Addr) (m c : Nat) (xss : List (List Int)) (w : World) (h : Bss w w.heap.size A m xss) (hm : m ≤ 1000000) (hs : sumLen xss m ≤ 140737488355328) :
    Calls Tryd.prog 20 #[.slice A m c] w (RetBs xss.flatten w) := by
  obtain ⟨i0, hi, hz, hsz, hby⟩ := u8_info
  have hlen := h.1
  have HL := hide hlen
  clear hlen
  go_enter Tryd.func20, Tryd.ntmps20
  go_wp2
  go_loop [3, 11] (fun s i => ∃ k : Nat, k ≤ m ∧ i = .int .i64 k ∧ s = .int .i64 (sumLen xss k)) (fun _ i => m - (intOf i).toNat)
  case atStart => exact ⟨0, Nat.zero_le _, rfl, rfl⟩
  case round =>
    obtain ⟨k, hk, rfl, rfl⟩ := hrel
    have hle := sumLen_le xss k
    rw [HL.out] at hle
    by_cases hlt : k < m
    · obtain ⟨b, o, rfl, hb, hc⟩ := h.2 (by omega)
      obtain ⟨A', n', c', hcell, hbs⟩ := hc k hlt
      have hsu := sumLen_succ xss k (by rw [HL.out]; exact hlt)
      rw [hbs.1] at hsu
      have hle2 := sumLen_le xss (k + 1)
      rw [HL.out] at hle2
      have hb2 : sumLen xss k + n' ≤ 140737488355328 := by omega
      have HS := hide hsu
      clear hsu hle2 hc
      go_wp2
      go_round
      case rel => exact ⟨k + 1, by omega, by go_num, by rw [HS.out]; go_num⟩
      case measure => simp [intOf]; omega
    · obtain rfl : k = m := by omega
      go_wp2_with (refine wpList_make0_bs rfl _ _ _ rfl 5 i0 Tryd.underlying24 hi hz hsz hby (sumLen xss k) rfl rfl hs ?_; intro w1 hown1 hb1)
      go_loopw [6, 24] (fun v i wr => ∃ j : Nat, j ≤ k ∧ i = .int .i64 j ∧ wr.ownsRow w.heap.size 5 1 v (sumLen xss j) (bv (xss.take j).flatten) ∧ Below w.heap.size w wr) (fun _ i _ => k - (intOf i).toNat)
      case atStart => exact ⟨0, Nat.zero_le _, rfl, by simpa [sumLen] using hown1, hb1⟩
      case round =>
        obtain ⟨j, hj, rfl, hown, hbr⟩ := hrel
        by_cases hjl : j < k
        · obtain ⟨b, o, rfl, hb, hc⟩ := h.2 (by omega)
          obtain ⟨A', n', c', hcell, hbs⟩ := hc j hjl
          have hcell' := (hbr.cell (p := ⟨b, o + j, none⟩) hb).trans hcell
          have hsu := sumLen_succ xss j (by rw [HL.out]; exact hjl)
          have htf := take_flat xss j (by rw [HL.out]; exact hjl)
          rw [hbs.1] at hsu
          have hle2 := sumLen_le xss (j + 1)
          rw [HL.out] at hle2
          have hb2 : sumLen xss j + n' ≤ 140737488355328 := by omega
          have HS := hide hsu
          have HT := hide htf
          clear hsu htf hle2 hc hcell
          go_wp2_with (at_builtin; refine wpList_append_bs rfl (.tmp 28) (.tmp 29) _ rfl w.heap.size 5 i0 Tryd.underlying24 hi hz hsz hby _ (sumLen xss j) (xss.take j).flatten rfl hown w.heap.size A' n' c' (xss.getD j []) rfl (hbs.below hbr) hb2 hbr.size ?_; intro v1 w2 hown1 hg1)
          have hb3 := grown_below hbr hown (Nat.le_refl _) hg1
          go_roundw
          case rel => exact ⟨j + 1, by omega, by go_num, by rw [HS.out, HT.out]; exact hown1, hb3⟩
          case measure => simp [intOf]; omega
        · obtain rfl : j = k := by omega
          go_wp2
          go_ret
          exact ret_owns hown hbr (by rw [List.take_of_length_le (by rw [HL.out]; exact Nat.le_refl _)])
end Go.Proofs.YtpnlgmkkikmglabDoor

/-
  Poly: words with a carry: contracts. Own work.
-/
namespace Go.Proofs.YtpnlgmkkikmglabDoor
open Go.RowKit
/-- 'bits.Add64' stands for the model's own. -/
theorem add64_run (x y c : Nat) (hc : c ≤ 1) (w : World) :
    (callFunc 64 #[.int .u64 x, .int .u64 y, .int .u64 c]).run Tryd.prog w =
      .ok (.value (.tuple #[.int .u64 (((x + y + c) % 18446744073709551616 : Nat) : Int), .int .u64 (((x + y + c) / 18446744073709551616 : Nat) : Int)])) w := by
  rw [run_callFunc_extern Tryd.func64 (by kernel_rfl) (by kernel_rfl) (by kernel_rfl) (e := add64Entry) (by kernel_rfl), run_add64 x y c (by omega) (by omega) (by omega) (by omega)]
  simp only [Result.andThen]
  congr 5 <;> omega
set_option maxRecDepth 100000 in
set_option maxHeartbeats 1000000 in
theorem mul64_any (x y : Nat) (hx : x < 18446744073709551616) (hy : y < 18446744073709551616) (w : World) :
    Calls Tryd.prog 79 #[.int .u64 x, .int .u64 y] w fun e w' => e = .returned (.tuple #[.int .u64 ((x * y / 18446744073709551616 : Nat) : Int), .int .u64 ((x * y % 18446744073709551616 : Nat) : Int)]) ∧ w' = w := by
  obtain ⟨p0, p1, p2, hhi⟩ := Lib.mul64_hi x y hx hy
  have q1 := Lib.half_mul_le (a := x / 4294967296) (b := y / 4294967296) (by omega) (by omega)
  have q2 := Lib.half_mul_le (a := x / 4294967296) (b := y % 4294967296) (by omega) (by omega)
  have q3 := Lib.half_mul_le (a := x % 4294967296) (b := y / 4294967296) (by omega) (by omega)
  have s1 : x / 4294967296 * (y / 4294967296) < 18446744073709551616 := by omega
  have s2 : x / 4294967296 * (y % 4294967296) < 18446744073709551616 := by omega
  have s3 : x % 4294967296 * (y / 4294967296) < 18446744073709551616 := by omega
  have s4 : x / 4294967296 * (y / 4294967296) + (x / 4294967296 * (y % 4294967296) + x % 4294967296 * (y % 4294967296) / 4294967296) / 4294967296 < 18446744073709551616 := by omega
  have s5 : x / 4294967296 * (y / 4294967296) + (x / 4294967296 * (y % 4294967296) + x % 4294967296 * (y % 4294967296) / 4294967296) / 4294967296 + ((x / 4294967296 * (y % 4294967296) + x % 4294967296 * (y % 4294967296) / 4294967296) % 4294967296 + x % 4294967296 * (y / 4294967296)) / 4294967296 < 18446744073709551616 := by omega
  go_enter Tryd.func79, Tryd.ntmps79
  go_wp2
  simp only [Mul64.maskN x hx, Mul64.maskN y hy, Mul64.divN, Mul64.mulN, Mul64.addN, Mul64.wrapN _ p0, Mul64.wrapN _ s2, Mul64.wrapN _ p1, Mul64.maskN _ p1, Mul64.wrapN _ s3, Mul64.wrapN _ p2, Mul64.wrapN _ s1, Mul64.wrapN _ s4, Mul64.wrapN _ s5, Mul64.wrapM (x * y)]
  rw [hhi]
  go_ret2
  exact ⟨rfl, rfl⟩
end Go.Proofs.YtpnlgmkkikmglabDoor

/-
  Poly: a product and two words more: contract. Own work.
-/
namespace Go.Proofs.YtpnlgmkkikmglabDoor
open Go.RowKit
theorem add64_z (x y : Nat) (w : World) :
    (callFunc 64 #[.int .u64 x, .int .u64 y, .int .u64 0]).run Tryd.prog w =
      .ok (.value (.tuple #[.int .u64 (((x + y) % 18446744073709551616 : Nat) : Int), .int .u64 (((x + y) / 18446744073709551616 : Nat) : Int)])) w := add64_run x y 0 (by omega) w
/-- A sum of two words: what stays, what is carried. -/
theorem carry_lt {x y : Nat} (hx : x < 18446744073709551616) (hy : y < 18446744073709551616) : ∃ s k : Nat, (x + y) % 18446744073709551616 = s ∧ (x + y) / 18446744073709551616 = k ∧ s < 18446744073709551616 ∧ k ≤ 1 ∧ k * 18446744073709551616 + s = x + y := ⟨_, _, rfl, rfl, by omega, by omega, by omega⟩
theorem add64_s {x y : Nat} (hx : x < 18446744073709551616) (hy : y < 18446744073709551616) : ∃ s k : Nat, s < 18446744073709551616 ∧ k ≤ 1 ∧ Hid (k * 18446744073709551616 + s = x + y) ∧ ∀ w, (callFunc 64 #[.int .u64 x, .int .u64 y, .int .u64 0]).run Tryd.prog w = .ok (.value (.tuple #[.int .u64 (s : Int), .int .u64 (k : Int)])) w := by
  obtain ⟨s, k, rfl, rfl, h1, h2, h3⟩ := carry_lt hx hy
  exact ⟨_, _, h1, h2, h3, add64_z x y⟩
theorem mulAdd_sum {M h0 l0 p k1 s1 a k2 s2 b : Nat} (h1 : h0 * M + l0 = p) (h2 : k1 * M + s1 = l0 + a) (h3 : k2 * M + s2 = s1 + b) : (h0 + k1 + k2) * M + s2 = p + a + b := by
  rw [Nat.add_mul, Nat.add_mul]
  generalize h0 * M = x at *
  generalize k1 * M = y at *
  generalize k2 * M = z at *
  omega
set_option maxRecDepth 100000 in
set_option maxHeartbeats 1000000 in
theorem mulAdd_any (x y a b : Nat) (hx : x < 18446744073709551616) (hy : y < 18446744073709551616) (ha : a < 18446744073709551616) (hb : b < 18446744073709551616) (w : World) :
    Calls Tryd.prog 78 #[.int .u64 x, .int .u64 y, .int .u64 a, .int .u64 b] w fun e w' => (∃ H L : Nat, e = .returned (.tuple #[.int .u64 (H : Int), .int .u64 (L : Int)]) ∧ H * 18446744073709551616 + L = x * y + a + b ∧ H < 18446744073709551616 ∧ L < 18446744073709551616) ∧ w' = w := by
  have hP : x * y ≤ 18446744073709551615 * 18446744073709551615 := Nat.mul_le_mul (by omega) (by omega)
  obtain ⟨h0, hh0⟩ : ∃ h0, h0 = x * y / 18446744073709551616 := ⟨_, rfl⟩
  obtain ⟨l0, hl0⟩ : ∃ l0, l0 = x * y % 18446744073709551616 := ⟨_, rfl⟩
  have b0 : h0 ≤ 18446744073709551614 := by omega
  have b1 : l0 < 18446744073709551616 := by omega
  have E0 := hide (show h0 * 18446744073709551616 + l0 = x * y by omega)
  have HM := mul64_any x y hx hy w
  rw [← hh0, ← hl0] at HM
  obtain ⟨s1, k1, c1, d1, E1, R1⟩ := add64_s b1 ha
  obtain ⟨s2, k2, c2, d2, E2, R2⟩ := add64_s c1 hb
  have T1 : h0 + k1 < 18446744073709551616 := by omega
  have T2 : h0 + k1 + k2 < 18446744073709551616 := by
    have := E0.out; have := E1.out; have := E2.out; omega
  clear hh0 hl0 hP
  have HM' := HM
  clear HM
  go_enter Tryd.func78, Tryd.ntmps78
  go_wp2_with fail
  refine HM'.mono ?_
  rintro e w' ⟨rfl, rfl⟩
  clear HM'
  go_wp2_with (first | rw [R1] | rw [R2])
  rw [show (h0 : Int) + (k1 : Int) + (k2 : Int) = ((h0 + k1 + k2 : Nat) : Int) from by omega]
  go_ret2
  exact ⟨⟨h0 + k1 + k2, s2, rfl, mulAdd_sum E0.out E1.out E2.out, T2, c2⟩, rfl⟩
end Go.Proofs.YtpnlgmkkikmglabDoor

/-
  Poly: a sum of numbers of three words: contract. Own work.
-/
namespace Go.Proofs.YtpnlgmkkikmglabDoor
open Go.RowKit
theorem run_callX {P : Program} {o : Oper} {a : Act} {w : World} {v : Value} (f : FuncId) (args : Array Operand) (ats : Array TypeId) (vals : Array Value) (ho : o.op = .call { callee := .value (.func f), args := args, argTypes := ats }) (hv : args.map a.eval = vals)
    (hr : (callFunc f vals).run P w = .ok (.value v) w) : (execOp a.eval o).run P w = .ok (.value v) w := by
  unfold execOp
  simp only [ho, resolve, hv]
  go_simp
/-- What is carried to place p. -/
def cr (p X Y : Nat) : Nat := (X % p + Y % p) / p
theorem wd_lt {M p X : Nat} (hM : 0 < M) : wd M p X < M := Nat.mod_lt _ hM
theorem cr_le {p X Y : Nat} (hp : 0 < p) : cr p X Y ≤ 1 := by
  have h1 := Nat.mod_lt X hp
  have h2 := Nat.mod_lt Y hp
  unfold cr
  have : X % p + Y % p < p * 2 := by omega
  have := Nat.div_lt_of_lt_mul this
  omega
theorem add_split {p X Y : Nat} (hp : 0 < p) : (X + Y) / p = X / p + Y / p + cr p X Y := by
  have hx := Nat.div_add_mod X p
  have hy := Nat.div_add_mod Y p
  have e : X + Y = p * (X / p + Y / p) + (X % p + Y % p) := by rw [Nat.mul_add]; omega
  unfold cr
  conv => lhs; rw [e]
  rw [Nat.mul_add_div hp]
theorem wd_add {M p X Y : Nat} (hp : 0 < p) : (wd M p X + wd M p Y + cr p X Y) % M = wd M p (X + Y) := by
  unfold wd
  rw [add_split hp]
  simp [Nat.add_mod]
theorem cr_next {M p X Y : Nat} (hp : 0 < p) (hM : 0 < M) : (wd M p X + wd M p Y + cr p X Y) / M = cr (p * M) X Y := by
  have e1 : X % (p * M) = X % p + p * wd M p X := Nat.mod_mul
  have e2 : Y % (p * M) = Y % p + p * wd M p Y := Nat.mod_mul
  unfold cr
  rw [← Nat.div_div_eq_div_mul, e1, e2]
  congr 1
  rw [show X % p + p * wd M p X + (Y % p + p * wd M p Y) = p * (wd M p X + wd M p Y) + (X % p + Y % p) from by rw [Nat.mul_add]; omega, Nat.mul_add_div hp]
def nb (X : Nat) : List Value := [.int .u64 (nW X 0 : Int), .int .u64 (nW X 1 : Int), .int .u64 (nW X 2 : Int)]
/-- A sum's first i words, and the first number's others. -/
def nbP (X Y i : Nat) : List Value := (List.range 3).map fun j => .int .u64 ((if j < i then nW (X + Y) j else nW X j : Nat) : Int)
theorem nbP_0 (X Y : Nat) : nbP X Y 0 = nb X := rfl
theorem nbP_3 (X Y : Nat) : nbP X Y 3 = nb (X + Y) := rfl
theorem nbP_get {X Y i : Nat} (hi : i < 3) : (nbP X Y i)[i]? = some (.int .u64 (nW X i : Int)) := by
  have : i = 0 ∨ i = 1 ∨ i = 2 := by omega
  rcases this with rfl | rfl | rfl <;> rfl
theorem nb_get {X i : Nat} (hi : i < 3) : (nb X)[i]? = some (.int .u64 (nW X i : Int)) := by
  have : i = 0 ∨ i = 1 ∨ i = 2 := by omega
  rcases this with rfl | rfl | rfl <;> rfl
theorem nbP_set {X Y i : Nat} (hi : i < 3) : (nbP X Y i).set i (.int .u64 (nW (X + Y) i : Int)) = nbP X Y (i + 1) := by
  have : i = 0 ∨ i = 1 ∨ i = 2 := by omega
  rcases this with rfl | rfl | rfl <;> rfl
def cN (X Y i : Nat) : Nat := cr (18446744073709551616 ^ i) X Y
theorem cN_0 (X Y : Nat) : cN X Y 0 = 0 := by simp [cN, cr, Nat.mod_one]
theorem cN_le (X Y i : Nat) : cN X Y i ≤ 1 := cr_le (Nat.pow_pos (by decide))
theorem nW_add (X Y i : Nat) : (nW X i + nW Y i + cN X Y i) % 18446744073709551616 = nW (X + Y) i := wd_add (Nat.pow_pos (by decide))
theorem cN_next (X Y i : Nat) : (nW X i + nW Y i + cN X Y i) / 18446744073709551616 = cN X Y (i + 1) := by
  unfold cN
  rw [Nat.pow_succ]
  exact cr_next (Nat.pow_pos (by decide)) (by decide)
theorem sizeNb (X : Nat) : (Tryd.prog.info? 71).map (·.size) = some (nb X).length := by kernel_rfl
theorem oneNb (X : Nat) : ∀ u ∈ nb X, u.oneCell' = true := by
  intro u hu
  simp only [nb, List.mem_cons, List.not_mem_nil, or_false] at hu
  rcases hu with rfl | rfl | rfl <;> rfl
def JPl (w0 : World) (g : Nat) (cur new : List Value) (bs : List Bool) (vs : List Value) (w : World) : Prop :=
  (bs.getD 0 false = false → Row w 71 g cur) ∧ (bs.getD 0 false = true → Row w 71 g new) ∧ But g w0 w
def SPl (g2 g3 i x y c s k : Nat) (opn : Nat) (v : Value) : Prop :=
  match opn with
  | 0 | 1 | 4 => v = .int .i64 (i : Int)
  | 2 | 12 => v = .pointer (some ⟨g2, i, none⟩)
  | 3 => v = .int .u64 (x : Int)
  | 5 => v = .pointer (some ⟨g3, i, none⟩)
  | 6 => v = .int .u64 (y : Int)
  | 7 => v = .int .u64 (c : Int)
  | 8 | 9 => v = .tuple #[.int .u64 (s : Int), .int .u64 (k : Int)]
  | 10 => v = .int .u64 (s : Int)
  | 11 | 14 => v = .int .u64 (k : Int)
  | _ => True
set_option maxRecDepth 100000 in
set_option maxHeartbeats 2000000 in
theorem plus_any (X Y : Nat) (w : World) :
    Calls Tryd.prog 46 #[.agg (nb X).toArray, .agg (nb Y).toArray] w fun e w' => e = .returned (.agg (nb (X + Y)).toArray) ∧ Below w.heap.size w w' := by
  go_enter Tryd.func46, Tryd.ntmps46
  go_wp2_with (first
    | (with_reducible refine wl_box rfl 71 (.tmp 0) _ (nb X) rfl rfl rfl ?_; intro g2 w1 r1 a1 l1 b1)
    | (with_reducible refine wl_box rfl 71 (.tmp 1) _ (nb Y) rfl rfl rfl ?_; intro g3 w2 r2 a2 l2 b2)
    | (with_reducible refine wl_alloc rfl 71 _ (n3 0 0 0) rfl zeroN3 rfl ?_; intro g4 w3 r3 a3 l3 b3))
  have R1 := (r1.later b2).later b3
  have R2 := r2.later b3
  have hne : g3 ≠ g2 := by omega
  have hne4 : g4 ≠ g2 := by have := b2.size; omega
  have B3 := (b1.trans (b2.mono b1.size)).trans (b3.mono (Nat.le_trans b1.size b2.size))
  have hgw : w.heap.size ≤ g2 := a1
  have hgw4 : w.heap.size ≤ g4 := by have := b2.size; have := b1.size; omega
  clear r1 r2 b1 b2 b3 a1 a2 a3 l1 l2 l3
  go_loopw [5, 7] (fun cv iv wr => ∃ i : Nat, i ≤ 3 ∧ iv = .int .i64 i ∧ cv = .int .u64 (cN X Y i : Int) ∧ Row wr 71 g2 (nbP X Y i) ∧ But g2 w3 wr) (fun _ iv _ => 3 - (intOf iv).toNat)
  case atStart => exact ⟨0, by omega, rfl, by rw [cN_0]; rfl, R1, But.refl _ _⟩
  case round =>
    clear R1
    obtain ⟨i, hi3, rfl, rfl, rr, bx⟩ := hrel
    by_cases hi : i < 3
    · go_wp2_with fail
      have rY := R2.but bx hne
      have cX := nbP_get (X := X) (Y := Y) hi
      have cY := nb_get (X := Y) hi
      have hset := nbP_set (X := X) (Y := Y) hi
      have RA := add64_run (nW X i) (nW Y i) (cN X Y i) (cN_le X Y i)
      rw [nW_add, cN_next] at RA
      have hcl : i < (nbP X Y i).length := hi
      generalize hx : nW X i = x at *
      generalize hy : nW Y i = y at *
      generalize hs : nW (X + Y) i = s at *
      generalize hc : cN X Y i = c at *
      generalize hk : cN X Y (i + 1) = k at *
      generalize nbP X Y i = cur at *
      rename_i Q1 K1 hK1
      refine wp_region_vals [13] (SPl g2 g3 i x y c s k) (JPl wr g2 cur (nbP X Y (i + 1))) (by kernel_rfl) (by kernel_rfl) (by kernel_rfl) (by kernel_rfl) (by kernel_rfl) ⟨fun _ => rr, fun h => absurd h (by decide), (But.refl _ _).drew⟩ ?obs ?he
      case obs =>
        refine ⟨?_, ?_, ?_, ?_, ?_, ?_, ?_, ?_, ?_, ?_, ?_, ?_, ?_, ?_, ?_, trivial⟩
        · exact .inl ⟨by kernel_rfl, fun L a1 w1 n h => ⟨_, rfl, run_move (.tmp 6) rfl (h.var n 6 (by kernel_rfl))⟩⟩
        · exact .inl ⟨by kernel_rfl, fun L a1 w1 n h => ⟨_, rfl, run_move (.tmp 6) rfl (h.var n 6 (by kernel_rfl))⟩⟩
        · exact .inl ⟨by kernel_rfl, fun L a1 w1 n h => ⟨_, rfl, run_index0 71 (.tmp 2) (.tmp 12) 3 54 g2 i rfl Tryd.underlying71 Tryd.sizeOf54 (h.var n 2 (by kernel_rfl)) (h.dep n 1 12 (by kernel_rfl) rfl) hi⟩⟩
        · exact .inl ⟨by kernel_rfl, fun L a1 w1 n h => ⟨_, rfl, run_loadA 54 (.tmp 13) ⟨g2, i, none⟩ rfl Tryd.isAgg54 (h.dep n 2 13 (by kernel_rfl) rfl) ((h.inv.1 (n.later (by kernel_rfl))).cell cX)⟩⟩
        · exact .inl ⟨by kernel_rfl, fun L a1 w1 n h => ⟨_, rfl, run_move (.tmp 6) rfl (h.var n 6 (by kernel_rfl))⟩⟩
        · exact .inl ⟨by kernel_rfl, fun L a1 w1 n h => ⟨_, rfl, run_index0 71 (.tmp 3) (.tmp 15) 3 54 g3 i rfl Tryd.underlying71 Tryd.sizeOf54 (h.var n 3 (by kernel_rfl)) (h.dep n 4 15 (by kernel_rfl) rfl) hi⟩⟩
        · exact .inl ⟨by kernel_rfl, fun L a1 w1 n h => ⟨_, rfl, run_loadA 54 (.tmp 16) ⟨g3, i, none⟩ rfl Tryd.isAgg54 (h.dep n 5 16 (by kernel_rfl) rfl) ((rY.but h.inv.2.2 hne).cell cY)⟩⟩
        · exact .inl ⟨by kernel_rfl, fun L a1 w1 n h => ⟨_, rfl, run_move (.tmp 5) rfl (h.var n 5 (by kernel_rfl))⟩⟩
        · refine .inl ⟨by kernel_rfl, fun L a1 w1 n h => ⟨_, rfl, ?_⟩⟩
          refine run_callX 64 _ _ #[.int .u64 (x : Int), .int .u64 (y : Int), .int .u64 (c : Int)] rfl ?_ (RA w1)
          have e0 : a1.eval (.tmp 14) = _ := h.dep n 3 14 (by kernel_rfl) rfl
          have e1 : a1.eval (.tmp 17) = _ := h.dep n 6 17 (by kernel_rfl) rfl
          have e2 : a1.eval (.tmp 18) = _ := h.dep n 7 18 (by kernel_rfl) rfl
          simp only [List.map_toArray, List.map_cons, List.map_nil, e0, e1, e2]
        · exact .inl ⟨by kernel_rfl, fun L a1 w1 n h => ⟨_, rfl, run_move (.tmp 19) rfl (h.dep n 8 19 (by kernel_rfl) rfl)⟩⟩
        · exact .inl ⟨by kernel_rfl, fun L a1 w1 n h => ⟨_, rfl, run_extractA (.tmp 10) 0 _ rfl (h.dep n 9 10 (by kernel_rfl) rfl) rfl⟩⟩
        · exact .inl ⟨by kernel_rfl, fun L a1 w1 n h => ⟨_, rfl, run_extractA (.tmp 10) 1 _ rfl (h.dep n 9 10 (by kernel_rfl) rfl) rfl⟩⟩
        · exact .inl ⟨by kernel_rfl, fun L a1 w1 n h => ⟨_, rfl, run_index0 71 (.tmp 2) (.tmp 11) 3 54 g2 i rfl Tryd.underlying71 Tryd.sizeOf54 (h.var n 2 (by kernel_rfl)) (h.dep n 0 11 (by kernel_rfl) rfl) hi⟩⟩
        · refine .inr fun L a1 w1 n h K hK => ?_
          have no : L.getD 13 false = false := n.not_yet
          refine st_store 54 (.tmp 22) (.tmp 20) g2 i 71 cur (.int .u64 (s : Int)) rfl (by kernel_rfl) (h.dep n 12 22 (by kernel_rfl) rfl) (h.dep n 10 20 (by kernel_rfl) rfl) (h.inv.1 no) hcl rfl ?_
          intro w3 r3 o3
          rw [hset] at r3
          exact hK undef w3 trivial ⟨fun h1 => absurd (show true = false from h1) (by decide), fun _ => r3, h.inv.2.2.trans (But.only o3)⟩
        · exact .inl ⟨by kernel_rfl, fun L a1 w1 n h => ⟨_, rfl, run_assign (.tmp 21) rfl (h.dep n 11 21 (by kernel_rfl) rfl)⟩⟩
      case he =>
        intro V w5 hV hJ
        have r5 := hJ.2.1 rfl
        have bx5 := bx.trans hJ.2.2
        have h14 : V 14 = .int .u64 (k : Int) := hV 14 5 rfl
        clear hV hJ
        simp only [putOps, List.setIfInBounds_toArray, List.set_cons_succ, List.set_cons_zero]
        rw [h14]
        refine hK1 _ _ ?_
        go_wp2
        go_roundw
        case rel => exact ⟨i + 1, by omega, by go_num, by rw [hk], r5, bx5⟩
        case measure => simp [intOf]; omega
    · have rE : Row wr 71 g2 (nb (X + Y)) := by rw [show i = 3 from by omega] at rr; exact rr
      have r4 := r3.but bx hne4
      go_wp2_with (first
        | (with_reducible refine wl_load_row rfl 71 (.tmp 2) g2 71 _ _ rfl rfl rE Tryd.underlying71 rfl (sizeNb _) ?_)
        | (with_reducible refine wl_store_row rfl 71 (.tmp 4) (.tmp 24) g4 71 _ (nb (X + Y)) rfl rfl rfl r4 (sizeNb _) rfl (oneNb _) ?_; intro w5 r5 o5))
      refine bodyPost_ret (v := .agg (nb (X + Y)).toArray) ?_ rfl ⟨rfl, ?_⟩
      · exact results_cell_row Tryd.results46 _ _ g4 71 _ (0, 0) _ rfl r5 Tryd.underlying71 rfl (by simpa using sizeNb (X + Y))
      · exact (B3.trans (bx.below hgw B3.size)).trans (o5.below hgw4)
end Go.Proofs.YtpnlgmkkikmglabDoor

/-
  Poly: what a part tells: contracts. Own work.
-/
namespace Go.Proofs.YtpnlgmkkikmglabDoor
open Go.RowKit
set_option maxRecDepth 100000 in
theorem full_any (g t n : Nat) (vs : List Value) (w : World) (hr : Row w t g vs) (hv : vs[16]? = some (.int .i64 (n : Int))) :
    Calls Tryd.prog 41 #[.pointer (some ⟨g, 0, none⟩)] w fun e w' => e = .returned (.bool ((n : Int) == 16)) ∧ w = w' := by
  have hc := hr.cell hv
  clear hr hv
  go_enter Tryd.func41, Tryd.ntmps41
  go_wp2
  go_ret
  exact ⟨rfl, rfl⟩
set_option maxRecDepth 100000 in
theorem begun_any (g t n : Nat) (vs : List Value) (w : World) (hr : Row w t g vs) (hv : vs[16]? = some (.int .i64 (n : Int))) :
    Calls Tryd.prog 44 #[.pointer (some ⟨g, 0, none⟩)] w fun e w' => e = .returned (.bool (decide ((0 : Int) < n))) ∧ w = w' := by
  have hc := hr.cell hv
  clear hr hv
  go_enter Tryd.func44, Tryd.ntmps44
  go_wp2
  go_ret
  exact ⟨by simp, rfl⟩
end Go.Proofs.YtpnlgmkkikmglabDoor

/-
  Poly: a product, whole: contract. Own work.
-/
namespace Go.Proofs.YtpnlgmkkikmglabDoor
open Go.RowKit
theorem mulAdd_det (x y a b : Nat) (hx : x < 18446744073709551616) (hy : y < 18446744073709551616) (ha : a < 18446744073709551616) (hb : b < 18446744073709551616) :
    ∃ H L : Nat, H * 18446744073709551616 + L = x * y + a + b ∧ H < 18446744073709551616 ∧ L < 18446744073709551616 ∧ ∀ w, Calls Tryd.prog 78 #[.int .u64 x, .int .u64 y, .int .u64 a, .int .u64 b] w fun e w' => e = .returned (.tuple #[.int .u64 (H : Int), .int .u64 (L : Int)]) ∧ w' = w := by
  generalize hS : x * y + a + b = S
  have hP : x * y ≤ 18446744073709551615 * 18446744073709551615 := Nat.mul_le_mul (by omega) (by omega)
  refine ⟨S / 18446744073709551616, S % 18446744073709551616, by omega, by omega, by omega, fun w => (mulAdd_any x y a b hx hy ha hb w).mono ?_⟩
  rintro e w' ⟨⟨H, L, rfl, h1, h2, h3⟩, rfl⟩
  rw [hS] at h1
  have e1 : H = S / 18446744073709551616 := by omega
  have e2 : L = S % 18446744073709551616 := by omega
  exact ⟨by rw [← e1, ← e2], rfl⟩
/-- The number of a list of words. -/
def vl (M : Nat) : List Nat → Nat
  | [] => 0
  | x :: xs => x + M * vl M xs
theorem vl_set (M : Nat) : ∀ (ws : List Nat) (k l : Nat), k < ws.length → vl M (ws.set k l) + ws.getD k 0 * M ^ k = vl M ws + l * M ^ k
  | [], k, l, h => absurd h (by simp)
  | x :: xs, 0, l, h => by simp [vl]; omega
  | x :: xs, k + 1, l, h => by
    have := vl_set M xs k l (by simpa using h)
    have e : ∀ z : Nat, z * M ^ (k + 1) = M * (z * M ^ k) := fun z => by rw [Nat.pow_succ, Nat.mul_comm (M ^ k) M, Nat.mul_left_comm]
    simp only [List.set_cons_succ, vl, List.getD_cons_succ, e, Nat.add_assoc, ← Nat.mul_add, this]
theorem vl_digit (M : Nat) (hM : 0 < M) : ∀ (ws : List Nat) (k : Nat), (∀ x ∈ ws, x < M) → k < ws.length → vl M ws / M ^ k % M = ws.getD k 0
  | [], k, _, h => absurd h (by simp)
  | x :: xs, 0, hb, h => by
    have := hb x (by simp)
    simp [vl, Nat.mod_eq_of_lt this]
  | x :: xs, k + 1, hb, h => by
    have hx := hb x (by simp)
    have := vl_digit M hM xs k (fun y hy => hb y (by simp [hy])) (by simpa using h)
    rw [Nat.pow_succ, Nat.mul_comm, ← Nat.div_div_eq_div_mul]
    simp only [vl, List.getD_cons_succ]
    rw [Nat.add_mul_div_left _ _ hM, Nat.div_eq_of_lt hx, Nat.zero_add, this]
def uL (ws : List Nat) : List Value := ws.map fun (x : Nat) => .int .u64 (x : Int)
theorem uL_len (ws : List Nat) : (uL ws).length = ws.length := by simp [uL]
theorem uL_get {ws : List Nat} {k : Nat} (h : k < ws.length) : (uL ws)[k]? = some (.int .u64 ((ws.getD k 0 : Nat) : Int)) := by
  simp [uL, List.getD, List.getElem?_eq_getElem h]
theorem uL_set (ws : List Nat) (k l : Nat) : (uL ws).set k (.int .u64 (l : Int)) = uL (ws.set k l) := by simp [uL, List.map_set]
/-- One step of the school method: A, what stood; x, the word of the one number; y, of the other; p = b q, the place. -/
theorem step_sum {M p q b x y o c H l V V' A B : Nat} (h1 : H * M + l = x * y + o + c) (h2 : V' + o * p = V + l * p) (h3 : V + c * p = A + x * B * q) (hp : p = b * q) : V' + H * (p * M) = A + x * (B + b * y) * q := by
  have e1 : (H * M + l) * p = (x * y + o + c) * p := by rw [h1]
  rw [Nat.add_mul, Nat.add_mul, Nat.add_mul] at e1
  have e2 : H * (p * M) = H * M * p := by rw [Nat.mul_comm p M, Nat.mul_assoc]
  have e3 : x * (B + b * y) * q = x * B * q + x * y * p := by
    rw [hp, Nat.mul_add, Nat.add_mul, Nat.mul_comm b y, ← Nat.mul_assoc x y b, Nat.mul_assoc (x * y) b q]
  rw [e2, e3]
  omega
def Out (M X R i : Nat) (ws : List Nat) : Prop := ws.length = 5 ∧ (∀ x ∈ ws, x < M) ∧ vl M ws = (X % M ^ i) * R ∧ ∀ k, i + 2 ≤ k → ws.getD k 0 = 0
def In (M X R i j c : Nat) (ws : List Nat) : Prop := ws.length = 5 ∧ (∀ x ∈ ws, x < M) ∧ vl M ws + c * M ^ (i + j) = (X % M ^ i) * R + wd M (M ^ i) X * (R % M ^ j) * M ^ i ∧ c < M ∧ ∀ k, i + 2 ≤ k → ws.getD k 0 = 0
theorem In.start {M X R i : Nat} {ws : List Nat} (hM : 0 < M) (h : Out M X R i ws) : In M X R i 0 0 ws := ⟨h.1, h.2.1, by rw [h.2.2.1]; simp [Nat.mod_one], hM, h.2.2.2⟩
theorem set_ok {M k l : Nat} {ws : List Nat} (h : ∀ x ∈ ws, x < M) (hl : l < M) : ∀ x ∈ ws.set k l, x < M := by
  intro x hx
  rcases List.mem_or_eq_of_mem_set hx with h1 | rfl
  · exact h x h1
  · exact hl
theorem getD_set_other {ws : List Nat} {k m l : Nat} (h : m ≠ k) : (ws.set m l).getD k 0 = ws.getD k 0 := by
  simp [List.getD, List.getElem?_set_ne h]
theorem In.step {M X R i j c H l : Nat} {ws : List Nat} (h : In M X R i j c ws) (hi : i < 3) (hj : j < 2) (h1 : H * M + l = wd M (M ^ i) X * wd M (M ^ j) R + ws.getD (i + j) 0 + c) (hH : H < M) (hl : l < M) : In M X R i (j + 1) H (ws.set (i + j) l) := by
  obtain ⟨h5, hb, hs, hc, hz⟩ := h
  refine ⟨by rw [List.length_set, h5], set_ok hb hl, ?_, hH, fun k hk => by rw [getD_set_other (by omega), hz k hk]⟩
  have := step_sum h1 (vl_set M ws (i + j) l (by omega)) hs (show M ^ (i + j) = M ^ j * M ^ i by rw [Nat.pow_add, Nat.mul_comm])
  rw [show M ^ (i + (j + 1)) = M ^ (i + j) * M from by rw [← Nat.add_assoc, Nat.pow_succ], this, show R % M ^ (j + 1) = R % M ^ j + M ^ j * wd M (M ^ j) R from by rw [Nat.pow_succ]; exact Nat.mod_mul]
theorem In.done {M X R i c : Nat} {ws : List Nat} (h : In M X R i 2 c ws) (hi : i < 3) (hR : R < M ^ 2) : Out M X R (i + 1) (ws.set (i + 2) c) := by
  obtain ⟨h5, hb, hs, hc, hz⟩ := h
  refine ⟨by rw [List.length_set, h5], set_ok hb hc, ?_, fun k hk => by rw [getD_set_other (by omega), hz k (by omega)]⟩
  have e := vl_set M ws (i + 2) c (by omega)
  rw [hz (i + 2) (Nat.le_refl _), Nat.zero_mul, Nat.add_zero, hs, Nat.mod_eq_of_lt hR] at e
  rw [e, show X % M ^ (i + 1) = X % M ^ i + M ^ i * wd M (M ^ i) X from by rw [Nat.pow_succ]; exact Nat.mod_mul, Nat.add_mul, Nat.mul_comm (M ^ i) (wd M (M ^ i) X), Nat.mul_right_comm]
def fb (R : Nat) : List Value := [.int .u64 (nW R 0 : Int), .int .u64 (nW R 1 : Int)]
theorem fb_get {R j : Nat} (hj : j < 2) : (fb R)[j]? = some (.int .u64 (nW R j : Int)) := by
  have : j = 0 ∨ j = 1 := by omega
  rcases this with rfl | rfl <;> rfl
theorem nW_lt (X i : Nat) : nW X i < 18446744073709551616 := Nat.mod_lt _ (by decide)
theorem zero5 : (Tryd.prog.info? 111).map (fun i => i.zero) = some (some (.agg (uL [0, 0, 0, 0, 0]).toArray)) := by kernel_rfl
theorem size5 {ws : List Nat} (h : ws.length = 5) : (Tryd.prog.info? 111).map (·.size) = some (uL ws).length := by rw [uL_len, h]; kernel_rfl
theorem oneU (ws : List Nat) : ∀ u ∈ uL ws, u.oneCell' = true := by
  intro u hu
  simp only [uL, List.mem_map] at hu
  obtain ⟨x, _, rfl⟩ := hu
  rfl
def JPr (w0 : World) (g : Nat) (cur new : List Value) (bs : List Bool) (vs : List Value) (w : World) : Prop :=
  (bs.getD 1 false = false → Row w 111 g cur) ∧ (bs.getD 1 false = true → Row w 111 g new) ∧ But g w0 w
def SPr (g2 g3 g5 i j x y o c H l : Nat) (opn : Nat) (v : Value) : Prop :=
  match opn with
  | 0 | 3 | 9 => v = .int .i64 (i : Int)
  | 1 | 6 | 10 => v = .int .i64 (j : Int)
  | 2 | 11 => v = .int .i64 ((i + j : Nat) : Int)
  | 4 => v = .pointer (some ⟨g2, i, none⟩)
  | 5 => v = .int .u64 (x : Int)
  | 7 => v = .pointer (some ⟨g3, j, none⟩)
  | 8 => v = .int .u64 (y : Int)
  | 12 | 20 => v = .pointer (some ⟨g5, (i + j), none⟩)
  | 13 => v = .int .u64 (o : Int)
  | 14 => v = .int .u64 (c : Int)
  | 15 | 16 => v = .tuple #[.int .u64 (H : Int), .int .u64 (l : Int)]
  | 17 | 19 => v = .int .u64 (H : Int)
  | 18 => v = .int .u64 (l : Int)
  | _ => True
set_option maxRecDepth 100000 in
set_option maxHeartbeats 3000000 in
theorem product_any (X R : Nat) (w : World) (hX : X < 18446744073709551616 ^ 3) (hR : R < 18446744073709551616 ^ 2) :
    Calls Tryd.prog 75 #[.agg (nb X).toArray, .agg (fb R).toArray] w fun e w' => (∃ ws, e = .returned (.agg (uL ws).toArray) ∧ ws.length = 5 ∧ (∀ x ∈ ws, x < 18446744073709551616) ∧ vl 18446744073709551616 ws = X * R) ∧ Below w.heap.size w w' := by
  have HX := hide hX
  have HR := hide hR
  have hO0 : Out 18446744073709551616 X R 0 [0, 0, 0, 0, 0] := ⟨rfl, by simp, by simp [vl, Nat.mod_one], fun k _ => by
    rcases Nat.lt_or_ge k 5 with h | h
    · have : k = 0 ∨ k = 1 ∨ k = 2 ∨ k = 3 ∨ k = 4 := by omega
      rcases this with rfl | rfl | rfl | rfl | rfl <;> rfl
    · simp [List.getD, List.getElem?_eq_none (show [0, 0, 0, 0, 0].length ≤ k from h)]⟩
  have HO0 := hide hO0
  clear hX hR hO0
  go_enter Tryd.func75, Tryd.ntmps75
  go_wp2_with (first
    | (with_reducible refine wl_box rfl 71 (.tmp 0) _ (nb X) rfl rfl rfl ?_; intro g2 w1 r1 a1 l1 b1)
    | (with_reducible refine wl_box rfl 74 (.tmp 1) _ (fb R) rfl rfl rfl ?_; intro g3 w2 r2 a2 l2 b2)
    | (with_reducible refine wl_alloc (o := ⟨some 4, _, _, _, _, _⟩) rfl 111 _ (uL [0, 0, 0, 0, 0]) rfl zero5 rfl ?_; intro g4 w3 r3 a3 l3 b3)
    | (with_reducible refine wl_alloc (o := ⟨some 5, _, _, _, _, _⟩) rfl 111 _ (uL [0, 0, 0, 0, 0]) rfl zero5 rfl ?_; intro g5 w4 r4 a4 l4 b4))
  have R1 := ((r1.later b2).later b3).later b4
  have R2 := (r2.later b3).later b4
  have R3 := r3.later b4
  have s1 := b1.size
  have s2 := b2.size
  have s3 := b3.size
  have hne2 : g2 ≠ g5 := by omega
  have hne3 : g3 ≠ g5 := by omega
  have hne4 : g4 ≠ g5 := by omega
  have B4 := ((b1.trans (b2.mono s1)).trans (b3.mono (Nat.le_trans s1 s2))).trans (b4.mono (by omega))
  have hg5 : w.heap.size ≤ g5 := by omega
  have hg4 : w.heap.size ≤ g4 := by omega
  clear r1 r2 r3 b1 b2 b3 b4 s1 s2 s3 a1 a2 a3 a4 l1 l2 l3 l4
  go_loopw [9] (fun iv wr => ∃ (i : Nat) (ws : List Nat), i ≤ 3 ∧ iv = .int .i64 i ∧ Out 18446744073709551616 X R i ws ∧ Row wr 111 g5 (uL ws) ∧ But g5 w4 wr) (fun iv _ => 3 - (intOf iv).toNat)
  case atStart => exact ⟨0, _, by omega, rfl, HO0.out, r4, But.refl _ _⟩
  case round =>
    clear r4
    obtain ⟨i, ws, hi3, rfl, ho, rr, bx⟩ := hrel
    by_cases hi : i < 3
    · have hdi : decide ((i : Int) < 3) = true := by simp; omega
      go_wp2_with fail
      go_loopw [7, 12] (fun cv jv wr' => ∃ (j c : Nat) (ws : List Nat), j ≤ 2 ∧ jv = .int .i64 j ∧ cv = .int .u64 c ∧ In 18446744073709551616 X R i j c ws ∧ Row wr' 111 g5 (uL ws) ∧ But g5 w4 wr') (fun _ jv _ => 2 - (intOf jv).toNat)
      case atStart => exact ⟨0, 0, ws, by omega, rfl, rfl, In.start (by decide) ho, rr, bx⟩
      case round =>
        clear rr bx ho
        obtain ⟨j, c, ws, hj2, rfl, rfl, hin, rr, bx⟩ := hrel
        by_cases hj : j < 2
        · go_wp2_with fail
          have hij : i + j < 5 := by omega
          have rX := R1.but bx hne2
          have rY := R2.but bx hne3
          have cX := nb_get (X := X) hi
          have cY := fb_get (R := R) hj
          have h5 : ws.length = 5 := hin.1
          have cO := uL_get (ws := ws) (k := i + j) (by omega)
          have ol : ws.getD (i + j) 0 < 18446744073709551616 := by
            have hk : i + j < ws.length := by omega
            rw [show ws.getD (i + j) 0 = ws[i + j] by simp [List.getD, hk]]
            exact hin.2.1 _ (List.getElem_mem _)
          obtain ⟨H, l, hHl, hH, hl, RM⟩ := mulAdd_det (nW X i) (nW R j) (ws.getD (i + j) 0) c (nW_lt _ _) (nW_lt _ _) ol hin.2.2.2.1
          have hin' := In.step hin hi hj hHl hH hl
          have hcl : i + j < (uL ws).length := by rw [uL_len]; omega
          have hset := uL_set ws (i + j) l
          clear hHl ol hin hH hl
          generalize nW X i = x at cX RM
          generalize nW R j = y at cY RM
          generalize ws.getD (i + j) 0 = o at cO RM
          rename_i Q1 K1 hK1
          refine wp_region_vals [15, 21] (SPr g2 g3 g5 i j x y o c H l) (JPr wr g5 (uL ws) (uL (ws.set (i + j) l))) (by kernel_rfl) (by kernel_rfl) (by kernel_rfl) (by kernel_rfl) (by kernel_rfl) ⟨fun _ => rr, fun h => absurd h (by decide), (But.refl _ _).drew⟩ ?obs ?he
          case obs =>
            refine ⟨?_, ?_, ?_, ?_, ?_, ?_, ?_, ?_, ?_, ?_, ?_, ?_, ?_, ?_, ?_, ?_, ?_, ?_, ?_, ?_, ?_, ?_, trivial⟩
            · exact .inl ⟨by kernel_rfl, fun L a1 w1 n h => ⟨_, rfl, run_move (.tmp 6) rfl (h.var n 6 (by kernel_rfl))⟩⟩
            · exact .inl ⟨by kernel_rfl, fun L a1 w1 n h => ⟨_, rfl, run_move (.tmp 8) rfl (h.var n 8 (by kernel_rfl))⟩⟩
            · refine .inl ⟨by kernel_rfl, fun L a1 w1 n h => ⟨.int .i64 ((i + j : Nat) : Int), rfl, ?_⟩⟩
              have e0 : a1.eval (.tmp 16) = _ := h.dep n 0 16 (by kernel_rfl) rfl
              have e1 : a1.eval (.tmp 17) = _ := h.dep n 1 17 (by kernel_rfl) rfl
              unfold execOp
              simp only [e0, e1]
              go_simp
              rw [IntWalk.i64_in _ (by omega)]
            · exact .inl ⟨by kernel_rfl, fun L a1 w1 n h => ⟨_, rfl, run_move (.tmp 6) rfl (h.var n 6 (by kernel_rfl))⟩⟩
            · exact .inl ⟨by kernel_rfl, fun L a1 w1 n h => ⟨_, rfl, run_index0 71 (.tmp 2) (.tmp 19) 3 54 g2 i rfl Tryd.underlying71 Tryd.sizeOf54 (h.var n 2 (by kernel_rfl)) (h.dep n 3 19 (by kernel_rfl) rfl) hi⟩⟩
            · exact .inl ⟨by kernel_rfl, fun L a1 w1 n h => ⟨_, rfl, run_loadA 54 (.tmp 20) ⟨g2, i, none⟩ rfl Tryd.isAgg54 (h.dep n 4 20 (by kernel_rfl) rfl) ((rX.but h.inv.2.2 hne2).cell cX)⟩⟩
            · exact .inl ⟨by kernel_rfl, fun L a1 w1 n h => ⟨_, rfl, run_move (.tmp 8) rfl (h.var n 8 (by kernel_rfl))⟩⟩
            · exact .inl ⟨by kernel_rfl, fun L a1 w1 n h => ⟨_, rfl, run_index0 74 (.tmp 3) (.tmp 22) 2 54 g3 j rfl Tryd.underlying74 Tryd.sizeOf54 (h.var n 3 (by kernel_rfl)) (h.dep n 6 22 (by kernel_rfl) rfl) hj⟩⟩
            · exact .inl ⟨by kernel_rfl, fun L a1 w1 n h => ⟨_, rfl, run_loadA 54 (.tmp 23) ⟨g3, j, none⟩ rfl Tryd.isAgg54 (h.dep n 7 23 (by kernel_rfl) rfl) ((rY.but h.inv.2.2 hne3).cell cY)⟩⟩
            · exact .inl ⟨by kernel_rfl, fun L a1 w1 n h => ⟨_, rfl, run_move (.tmp 6) rfl (h.var n 6 (by kernel_rfl))⟩⟩
            · exact .inl ⟨by kernel_rfl, fun L a1 w1 n h => ⟨_, rfl, run_move (.tmp 8) rfl (h.var n 8 (by kernel_rfl))⟩⟩
            · refine .inl ⟨by kernel_rfl, fun L a1 w1 n h => ⟨.int .i64 ((i + j : Nat) : Int), rfl, ?_⟩⟩
              have e0 : a1.eval (.tmp 25) = _ := h.dep n 9 25 (by kernel_rfl) rfl
              have e1 : a1.eval (.tmp 26) = _ := h.dep n 10 26 (by kernel_rfl) rfl
              unfold execOp
              simp only [e0, e1]
              go_simp
              rw [IntWalk.i64_in _ (by omega)]
            · exact .inl ⟨by kernel_rfl, fun L a1 w1 n h => ⟨_, rfl, run_index0 111 (.tmp 5) (.tmp 27) 5 54 g5 (i + j) rfl Tryd.underlying111 Tryd.sizeOf54 (h.var n 5 (by kernel_rfl)) (h.dep n 11 27 (by kernel_rfl) rfl) hij⟩⟩
            · exact .inl ⟨by kernel_rfl, fun L a1 w1 n h => ⟨_, rfl, run_loadA 54 (.tmp 28) ⟨g5, (i + j), none⟩ rfl Tryd.isAgg54 (h.dep n 12 28 (by kernel_rfl) rfl) ((h.inv.1 (n.later (by kernel_rfl))).cell cO)⟩⟩
            · exact .inl ⟨by kernel_rfl, fun L a1 w1 n h => ⟨_, rfl, run_move (.tmp 7) rfl (h.var n 7 (by kernel_rfl))⟩⟩
            · refine .inr fun L a1 w1 n h K hK => ?_
              have e0 : a1.eval (.tmp 21) = _ := h.dep n 5 21 (by kernel_rfl) rfl
              have e1 : a1.eval (.tmp 24) = _ := h.dep n 8 24 (by kernel_rfl) rfl
              have e2 : a1.eval (.tmp 29) = _ := h.dep n 13 29 (by kernel_rfl) rfl
              have e3 : a1.eval (.tmp 30) = _ := h.dep n 14 30 (by kernel_rfl) rfl
              refine st_call 78 _ _ #[.int .u64 (x : Int), .int .u64 (y : Int), .int .u64 (o : Int), .int .u64 (c : Int)] rfl Tryd.call78 ?_ (RM w1) ?_
              · simp only [List.map_toArray, List.map_cons, List.map_nil, e0, e1, e2, e3]
              · rintro e w3 ⟨rfl, rfl⟩
                exact ⟨_, rfl, hK _ _ rfl h.inv⟩
            · exact .inl ⟨by kernel_rfl, fun L a1 w1 n h => ⟨_, rfl, run_move (.tmp 31) rfl (h.dep n 15 31 (by kernel_rfl) rfl)⟩⟩
            · exact .inl ⟨by kernel_rfl, fun L a1 w1 n h => ⟨_, rfl, run_extractA (.tmp 15) 0 _ rfl (h.dep n 16 15 (by kernel_rfl) rfl) rfl⟩⟩
            · exact .inl ⟨by kernel_rfl, fun L a1 w1 n h => ⟨_, rfl, run_extractA (.tmp 15) 1 _ rfl (h.dep n 16 15 (by kernel_rfl) rfl) rfl⟩⟩
            · exact .inl ⟨by kernel_rfl, fun L a1 w1 n h => ⟨_, rfl, run_assign (.tmp 32) rfl (h.dep n 17 32 (by kernel_rfl) rfl)⟩⟩
            · exact .inl ⟨by kernel_rfl, fun L a1 w1 n h => ⟨_, rfl, run_index0 111 (.tmp 5) (.tmp 18) 5 54 g5 (i + j) rfl Tryd.underlying111 Tryd.sizeOf54 (h.var n 5 (by kernel_rfl)) (h.dep n 2 18 (by kernel_rfl) rfl) hij⟩⟩
            · refine .inr fun L a1 w1 n h K hK => ?_
              have no : L.getD 21 false = false := n.not_yet
              refine st_store 54 (.tmp 34) (.tmp 33) g5 (i + j) 111 (uL ws) (.int .u64 (l : Int)) rfl (by kernel_rfl) (h.dep n 20 34 (by kernel_rfl) rfl) (h.dep n 18 33 (by kernel_rfl) rfl) (h.inv.1 no) hcl rfl ?_
              intro w3 r3 o3
              rw [hset] at r3
              exact hK undef w3 trivial ⟨fun h1 => absurd (show true = false from h1) (by decide), fun _ => r3, h.inv.2.2.trans (But.only o3)⟩
          case he =>
            intro V w5 hV hJ
            have r5 := hJ.2.1 rfl
            have bx5 := bx.trans hJ.2.2
            have h19 : V 19 = .int .u64 (H : Int) := hV 19 7 rfl
            clear hV hJ
            simp only [putOps, List.setIfInBounds_toArray, List.set_cons_succ, List.set_cons_zero]
            rw [h19]
            refine hK1 _ _ ?_
            go_wp2
            go_roundw
            case rel => exact ⟨j + 1, H, _, by omega, by go_num, rfl, hin', r5, bx5⟩
            case measure => simp [intOf]; omega
        · have hj' : j = 2 := by omega
          rw [hj'] at hin
          have h5 : ws.length = 5 := hin.1
          have hout := In.done hin hi HR.out
          have hcl : i + 2 < (uL ws).length := by rw [uL_len]; omega
          go_wp2_with (first
            | (with_reducible refine wl_store rfl 54 (.tmp 39) (.tmp 38) g5 (i + 2) 111 _ (.int .u64 (c : Int)) rfl (by kernel_rfl) rfl rfl rr hcl rfl ?_; intro w6 r6 o6; rw [uL_set] at r6))
          go_roundw
          case rel => exact ⟨i + 1, _, by omega, by go_num, hout, r6, bx.trans (But.only o6)⟩
          case measure => simp [intOf]; omega
    · have hi' : i = 3 := by omega
      rw [hi'] at ho
      obtain ⟨h5, hb, hv, _⟩ := ho
      rw [Nat.mod_eq_of_lt HX.out] at hv
      have z5 := hide (size5 h5)
      have l5 := hide (show (uL [0, 0, 0, 0, 0]).length = (uL ws).length by rw [uL_len ws, h5]; rfl)
      have R4 := R3.but bx hne4
      go_wp2_with (first
        | (with_reducible refine wl_load_row rfl 111 (.tmp 5) g5 111 _ _ rfl rfl rr Tryd.underlying111 rfl z5.out ?_)
        | (with_reducible refine wl_store_row rfl 111 (.tmp 4) (.tmp 41) g4 111 _ (uL ws) rfl rfl rfl R4 z5.out l5.out (oneU _) ?_; intro w6 r6 o6))
      refine bodyPost_ret (v := .agg (uL ws).toArray) ?_ rfl ⟨⟨ws, rfl, h5, hb, hv⟩, ?_⟩
      · exact results_cell_row Tryd.results75 _ _ g4 111 _ (0, 0) _ rfl r6 Tryd.underlying111 rfl (by simpa using z5.out)
      · exact (B4.trans (bx.below hg5 B4.size)).trans (o6.below hg4)
end Go.Proofs.YtpnlgmkkikmglabDoor

/-
  Poly: a product modulo 2^130 - 5, folded once; a number reduced: contracts. Own work.
-/
namespace Go.Proofs.YtpnlgmkkikmglabDoor
open Go.RowKit
theorem nb_uL {a b c X : Nat} (ha : a < 18446744073709551616) (hb : b < 18446744073709551616) (hc : c < 18446744073709551616) (h : X = a + 18446744073709551616 * b + 340282366920938463463374607431768211456 * c) : uL [a, b, c] = nb X := by
  subst h
  have h1 := vl_digit 18446744073709551616 (by decide) [a, b, c]
  have hv : vl 18446744073709551616 [a, b, c] = a + 18446744073709551616 * b + 340282366920938463463374607431768211456 * c := by simp only [vl]; omega
  have hm : ∀ x ∈ [a, b, c], x < 18446744073709551616 := by intro x hx; simp at hx; omega
  rw [hv] at h1
  have g0 := h1 0 hm (by simp)
  have g1 := h1 1 hm (by simp)
  have g2 := h1 2 hm (by simp)
  simp only [uL, nb, nW, wd, List.map_cons, List.map_nil]
  rw [g0, g1, g2]
  rfl
theorem words_times {p0 p1 p2 p3 Z : Nat} (h0 : p0 < 18446744073709551616) (h1 : p1 < 18446744073709551616) (h2 : p2 < 18446744073709551616) (h3 : p3 < 18446744073709551616) (hZ : Z = p0 + 18446744073709551616 * (p1 + 18446744073709551616 * (p2 + 18446744073709551616 * p3))) :
    uL [p0, p1, p2 % 4] = nb (Z % 1361129467683753853853498429727072845824) ∧ uL [p2 - p2 % 4, p3, 0] = nb (4 * (Z / 1361129467683753853853498429727072845824)) ∧ uL [p2 / 4 + p3 % 4 * 4611686018427387904, p3 / 4, 0] = nb (Z / 1361129467683753853853498429727072845824) := by
  refine ⟨nb_uL h0 h1 (by omega) (by omega), nb_uL (by omega) h3 (by omega) (by omega), nb_uL (by omega) (by omega) (by omega) (by omega)⟩
theorem and3 (x : Nat) (h : x < 18446744073709551616) : bits .and .u64 (x : Int) 3 = ((x % 4 : Nat) : Int) := by
  have := bits_and_u64_nat x 3 h (by decide)
  rw [show (3 : Nat) = 2 ^ 2 - 1 from rfl, Nat.and_two_pow_sub_one_eq_mod] at this
  exact this
theorem built3 (a b c : Nat) : Tryd.prog.built 71 [(0, .int .u64 (a : Int)), (1, .int .u64 (b : Int)), (2, .int .u64 (c : Int))] = some (uL [a, b, c]).toArray := by kernel_rfl
theorem built2 (a b : Nat) : Tryd.prog.built 71 [(0, .int .u64 (a : Int)), (1, .int .u64 (b : Int))] = some (uL [a, b, 0]).toArray := by kernel_rfl
theorem size3 (a b c : Nat) : (Tryd.prog.info? 71).map (·.size) = some (uL [a, b, c]).length := by kernel_rfl
theorem andNot3 (x : Nat) (h : x < 18446744073709551616) : bits .andNot .u64 (x : Int) 3 = ((x - x % 4 : Nat) : Int) := by
  have h1 := u64_andNot_nat x 3 h (by decide)
  rw [show ((3 : Nat) : Int) = 3 from rfl] at h1
  rw [h1]
  congr 1
  have e : x = 4 * (x / 4) + x % 4 := by omega
  have e2 : (x &&& (18446744073709551615 - 3)) % 4 = 0 := by
    rw [show (4 : Nat) = 2 ^ 2 from rfl, ← Nat.and_two_pow_sub_one_eq_mod, Nat.and_assoc]
    simp
  have e3 : (x &&& (18446744073709551615 - 3)) / 4 = x / 4 := by
    rw [show (4 : Nat) = 2 ^ 2 from rfl, ← Nat.shiftRight_eq_div_pow, ← Nat.shiftRight_eq_div_pow, Nat.shiftRight_and_distrib]
    rw [show (18446744073709551615 - 3) >>> 2 = 2 ^ 62 - 1 from by decide, Nat.and_two_pow_sub_one_eq_mod, Nat.shiftRight_eq_div_pow]
    omega
  omega
theorem orT (p2 p3 : Nat) (h2 : p2 < 18446744073709551616) (h3 : p3 < 18446744073709551616) : bits .or .u64 ((p2 : Int) / 4) (IntKind.u64.wrap ((p3 : Int) * 4611686018427387904)) = ((p2 / 4 + p3 % 4 * 4611686018427387904 : Nat) : Int) := by
  have e : IntKind.u64.wrap ((p3 : Int) * 4611686018427387904) = ((p3 % 4 : Nat) : Int) * 2 ^ 62 := by
    rw [IntKind.wrap_u64]
    omega
  rw [e, bits_join_low .u64 64 (by decide) wraps_u64 62 ((p2 : Int) / 4) (((p3 % 4 : Nat) : Int) * 2 ^ 62) (by omega) (by omega) (by omega) (by omega) (Int.mul_emod_left _ _) (by omega)]
  omega
theorem times_facts {p0 p1 p2 p3 Z : Nat} (h0 : p0 < 18446744073709551616) (h1 : p1 < 18446744073709551616) (h2 : p2 < 18446744073709551616) (h3 : p3 < 18446744073709551616) (hZ : Z = p0 + 18446744073709551616 * (p1 + 18446744073709551616 * (p2 + 18446744073709551616 * p3))) :
    ∃ A B C u v s t : Nat, Hid (A + B + C = fold1 Z) ∧ Hid (uL [p0, p1, u] = nb A) ∧ Hid (uL [v, p3, 0] = nb B) ∧ Hid (uL [s, t, 0] = nb C) ∧ bits .and .u64 (p2 : Int) 3 = (u : Int) ∧ bits .andNot .u64 (p2 : Int) 3 = (v : Int) ∧ bits .or .u64 ((p2 : Int) / 4) (IntKind.u64.wrap ((p3 : Int) * 4611686018427387904)) = (s : Int) ∧ (p3 : Int) / 4 = (t : Int) := by
  obtain ⟨m1, m2, m3⟩ := words_times h0 h1 h2 h3 hZ
  refine ⟨_, _, _, _, _, _, _, hide ?_, hide m1, hide m2, hide m3, and3 p2 h2, andNot3 p2 h2, orT p2 p3 h2 h3, by omega⟩
  unfold fold1
  omega
def STi (g4 g6 g7 g8 A B C : Nat) (opn : Nat) (v : Value) : Prop :=
  match opn with
  | 0 => v = .agg (nb A).toArray
  | 1 => v = .agg (nb B).toArray
  | 2 => v = .agg (nb (A + B)).toArray
  | 3 => v = .agg (nb C).toArray
  | 4 => v = .agg (nb (A + B + C)).toArray
  | _ => True

set_option maxRecDepth 100000 in
set_option maxHeartbeats 2000000 in
theorem times_any (X R : Nat) (w : World) (hX : X < 2 ^ 131) (hR : R < 2 ^ 124) :
    Calls Tryd.prog 61 #[.agg (nb X).toArray, .agg (fb R).toArray] w fun e w' => e = .returned (.agg (nb (fold1 (X * R))).toArray) ∧ Below w.heap.size w w' := by
  have HP := fun w => product_any X R w (by omega) (by omega)
  have HZ := hide (mul_lt hX hR)
  have hX' := hide hX
  have hR' := hide hR
  clear hX hR
  go_enter Tryd.func61, Tryd.ntmps61
  go_wp2_with (first
    | (with_reducible refine wl_box rfl 71 (.tmp 0) _ (nb X) rfl rfl rfl ?_; intro g2 w1 r1 a1 l1 b1)
    | (with_reducible refine wl_box rfl 74 (.tmp 1) _ (fb R) rfl rfl rfl ?_; intro g3 w2 r2 a2 l2 b2; have r1' := r1.later b2)
    | (with_reducible refine wl_alloc (o := ⟨some 4, _, _, _, _, _⟩) rfl 71 _ (n3 0 0 0) rfl zeroN3 rfl ?_; intro g4 w3 r3 a3 l3 b3; have r1'' := r1'.later b3; have r2' := r2.later b3)
    | (with_reducible refine wl_load_row rfl 71 (.tmp 2) g2 71 _ _ rfl rfl r1'' Tryd.underlying71 rfl (sizeNb _) ?_)
    | (with_reducible refine wl_load_row rfl 74 (.tmp 3) g3 74 _ _ rfl rfl r2' Tryd.underlying74 rfl (by kernel_rfl) ?_))
  refine (HP _).mono ?_
  rintro e w4 ⟨⟨ws, rfl, h5, hb, hv⟩, b4⟩
  obtain ⟨p0, p1, p2, p3, p4, rfl⟩ : ∃ p0 p1 p2 p3 p4, ws = [p0, p1, p2, p3, p4] := by
    match ws, h5 with
    | [p0, p1, p2, p3, p4], _ => exact ⟨p0, p1, p2, p3, p4, rfl⟩
  have q0 := hb p0 (by simp)
  have q1 := hb p1 (by simp)
  have q2 := hb p2 (by simp)
  have q3 := hb p3 (by simp)
  simp only [vl] at hv
  have hz := HZ.out
  rw [← hv] at hz
  have q4 : p4 = 0 := by omega
  subst q4
  obtain ⟨A, B, C, u, v, s, t, hf, M1, M2, M3, B1, B2, B3, B4⟩ := times_facts q0 q1 q2 q3 (Z := X * R) (by rw [← hv]; omega)
  clear hv hz HZ hb h5
  go_wp2_with (first
    | (with_reducible refine wl_alloc (o := ⟨some 5, _, _, _, _, _⟩) rfl 111 _ (uL [0, 0, 0, 0, 0]) rfl zero5 rfl ?_; intro g5 w5 r5 a5 l5 b5)
    | (with_reducible refine wl_store_row rfl 111 (.tmp 5) (.tmp 11) g5 111 _ (uL [p0, p1, p2, p3, 0]) rfl rfl rfl r5 (size5 rfl) rfl (oneU _) ?_; intro w6 r6 o6; have c0 := r6.cell (j := 0) rfl; have c1 := r6.cell (j := 1) rfl; have c2 := r6.cell (j := 2) rfl; have c3 := r6.cell (j := 3) rfl)
    | ((with_reducible refine wl_build rfl 71 _ rfl _ ?hv _ (built3 p0 p1 u) ?hk); case hv => rfl)
    | (with_reducible refine wl_alloc (o := ⟨some 6, _, _, _, _, _⟩) rfl 71 _ (n3 0 0 0) rfl zeroN3 rfl ?_; intro g6 w7 r7 a7 l7 b7)
    | (with_reducible refine wl_store_row rfl 71 (.tmp 6) (.tmp 19) g6 71 _ (uL [p0, p1, u]) rfl rfl rfl r7 (size3 _ _ _) rfl (oneU _) ?_; intro w8 r8 o8; have r6b := (r6.later b7).only o8 (Nat.ne_of_lt (Nat.lt_of_lt_of_le r6.lt a7)); have c2' := r6b.cell (j := 2) rfl; have c3' := r6b.cell (j := 3) rfl)
    | ((with_reducible refine wl_build rfl 71 _ rfl _ ?hv _ (built2 v p3) ?hk); case hv => rfl)
    | (with_reducible refine wl_alloc (o := ⟨some 7, _, _, _, _, _⟩) rfl 71 _ (n3 0 0 0) rfl zeroN3 rfl ?_; intro g7 w9 r9 a9 l9 b9)
    | (with_reducible refine wl_store_row rfl 71 (.tmp 7) (.tmp 25) g7 71 _ (uL [v, p3, 0]) rfl rfl rfl r9 (size3 _ _ _) rfl (oneU _) ?_; intro w10 r10 o10; have r6c := (r6b.later b9).only o10 (Nat.ne_of_lt (Nat.lt_of_lt_of_le r6b.lt a9)); have c2'' := r6c.cell (j := 2) rfl; have c3'' := r6c.cell (j := 3) rfl)
    | ((with_reducible refine wl_build rfl 71 _ rfl _ ?hv _ (built2 s t) ?hk); case hv => rfl)
    | (with_reducible refine wl_alloc (o := ⟨some 8, _, _, _, _, _⟩) rfl 71 _ (n3 0 0 0) rfl zeroN3 rfl ?_; intro g8 w11 r11 a11 l11 b11)
    | (with_reducible refine wl_store_row rfl 71 (.tmp 8) (.tmp 36) g8 71 _ (uL [s, t, 0]) rfl rfl rfl r11 (size3 _ _ _) rfl (oneU _) ?_; intro w12 r12 o12))
  have S1 := b1.size; have S2 := b2.size; have S3 := b3.size; have S4 := b4.size; have S5 := b5.size; have S6 := o6.size; have S7 := b7.size; have S8 := o8.size; have S9 := b9.size; have S10 := o10.size; have S11 := b11.size; have S12 := o12.size
  have h64 : g6 ≠ g4 := by omega
  have h74 : g7 ≠ g4 := by omega
  have h84 : g8 ≠ g4 := by omega
  have hg4 : w.heap.size ≤ g4 := by omega
  rw [M1.out] at r8
  rw [M2.out] at r10
  rw [M3.out] at r12
  have rA := ((((r8.later b9).only o10 (by omega)).later b11).only o12 (by omega))
  have rB := ((r10.later b11).only o12 (by omega))
  have rC := r12
  have BW : Below w.heap.size w w12 := (((((((((((b1.trans (b2.mono (by omega))).trans (b3.mono (by omega))).trans (b4.mono (by omega))).trans (b5.mono (by omega))).trans (o6.below (by omega))).trans (b7.mono (by omega))).trans (o8.below (by omega))).trans (b9.mono (by omega))).trans (o10.below (by omega))).trans (b11.mono (by omega))).trans (o12.below (by omega)))
  have r4 : Row w12 71 g4 (n3 0 0 0) := (((((((((r3.later b4).later b5).only o6 (by omega)).later b7).only o8 (by omega)).later b9).only o10 (by omega)).later b11).only o12 (by omega))
  clear c0 c1 c2 c3 c2' c3' c2'' c3'' r6 r6b r6c r8 r10 r12 M1 M2 M3 r1 r1' r1'' r2 r2' r3 r5 r7 r9 r11
  rename_i K1 hK1
  refine wp_region_vals [2, 4, 5] (STi g4 g6 g7 g8 A B C) (JB g4 71 w12 2 (n3 0 0 0) (nb (A + B + C))) (by kernel_rfl) (by kernel_rfl) (by kernel_rfl) (by kernel_rfl) (by kernel_rfl) (JB.start r4 rfl) ?obs ?he
  case obs =>
    refine ⟨?_, ?_, ?_, ?_, ?_, ?_, trivial⟩
    · exact .inl ⟨by kernel_rfl, fun L a1 w1 n h => ⟨_, rfl, run_loadRow 71 (.tmp 6) g6 71 _ _ rfl (h.var n 6 (by kernel_rfl)) (rA.but h.inv.2.2 h64) Tryd.underlying71 rfl (sizeNb _)⟩⟩
    · exact .inl ⟨by kernel_rfl, fun L a1 w1 n h => ⟨_, rfl, run_loadRow 71 (.tmp 7) g7 71 _ _ rfl (h.var n 7 (by kernel_rfl)) (rB.but h.inv.2.2 h74) Tryd.underlying71 rfl (sizeNb _)⟩⟩
    · refine .inr fun L a1 w1 n h K hK => ?_
      have e0 : a1.eval (.tmp 37) = .agg (nb A).toArray := h.dep n 0 37 (by kernel_rfl) rfl
      have e1 : a1.eval (.tmp 38) = .agg (nb B).toArray := h.dep n 1 38 (by kernel_rfl) rfl
      refine st_call 46 _ _ #[.agg (nb A).toArray, .agg (nb B).toArray] rfl Tryd.call46 ?_ (plus_any A B w1) ?_
      · simp only [List.map_toArray, List.map_cons, List.map_nil, e0, e1]
      · rintro e w3 ⟨rfl, b9⟩
        exact ⟨_, rfl, hK _ w3 rfl (h.inv.call (us := []) b9)⟩
    · exact .inl ⟨by kernel_rfl, fun L a1 w1 n h => ⟨_, rfl, run_loadRow 71 (.tmp 8) g8 71 _ _ rfl (h.var n 8 (by kernel_rfl)) (rC.but h.inv.2.2 h84) Tryd.underlying71 rfl (sizeNb _)⟩⟩
    · refine .inr fun L a1 w1 n h K hK => ?_
      have e0 : a1.eval (.tmp 39) = .agg (nb (A + B)).toArray := h.dep n 2 39 (by kernel_rfl) rfl
      have e1 : a1.eval (.tmp 40) = .agg (nb C).toArray := h.dep n 3 40 (by kernel_rfl) rfl
      refine st_call 46 _ _ #[.agg (nb (A + B)).toArray, .agg (nb C).toArray] rfl Tryd.call46 ?_ (plus_any (A + B) C w1) ?_
      · simp only [List.map_toArray, List.map_cons, List.map_nil, e0, e1]
      · rintro e w3 ⟨rfl, b9⟩
        exact ⟨_, rfl, hK _ w3 rfl (h.inv.call (us := []) b9)⟩
    · refine .inr fun L a1 w1 n h K hK => ?_
      have no : L.getD 5 false = false := n.not_yet
      refine st_store_row 71 (.tmp 4) (.tmp 41) g4 71 (n3 0 0 0) (nb (A + B + C)) rfl (h.var n 4 (by kernel_rfl)) (h.dep n 4 41 (by kernel_rfl) rfl) (h.inv.1 no) (sizeNb _) rfl (oneNb _) ?_
      intro w3 r3 o3
      exact hK undef w3 trivial (h.inv.store (us := []) o3 r3 rfl)
  case he =>
    intro V w5 hV hJ
    have r5 := hJ.2.1 rfl
    have bx := hJ.2.2
    clear hV hJ
    simp only [putOps, List.setIfInBounds_toArray, List.set_cons_succ, List.set_cons_zero]
    refine hK1 _ _ ?_
    go_wp2
    refine bodyPost_ret (v := .agg (nb (A + B + C)).toArray) ?_ rfl ⟨by rw [hf.out], ?_⟩
    · exact results_cell_row Tryd.results61 _ _ g4 71 _ (0, 0) _ rfl r5 Tryd.underlying71 rfl (by simpa using sizeNb (A + B + C))
    · exact BW.trans (bx.below hg4 BW.size)
end Go.Proofs.YtpnlgmkkikmglabDoor

/-
  Poly: a number reduced; a part that is filled: contracts. Own work.
-/
namespace Go.Proofs.YtpnlgmkkikmglabDoor
open Go.RowKit
theorem built1 (a : Nat) : Tryd.prog.built 71 [(0, .int .u64 (a : Int))] = some (uL [a, 0, 0]).toArray := by kernel_rfl
theorem run_indexV {P : Program} (w : World) (T elem len : Nat) (cs : Array Value) (i : Nat) (v : Value) (hu : P.underlying T = some (.array len elem)) (ha : ∀ w, (isAgg elem).run P w = .ok false w) (hs : ∀ w, (sizeOf elem).run P w = .ok 1 w) (hi : i < len) (hv : cs[i]? = some v) :
    (Instr.index T (.agg cs) (.int .i64 i)).run P w = .ok v w := by
  have h2 : ((0 : Int) ≤ i ∧ (i : Int) < len) := by omega
  have h3 : ¬ len ≤ i := by omega
  simp [Instr.index, asIntOf, underlying, hu, part, ha, hs, h2, h3, hv]
theorem red_facts {X : Nat} (h : X < 2 ^ 132) : ∃ o f r : Nat, nW (X + 5) 2 < 18446744073709551616 ∧ (nW (X + 5) 2 : Int) / 4 = (o : Int) ∧ IntKind.u64.wrap (5 * (o : Int)) = (f : Int) ∧ Hid (uL [f, 0, 0] = nb f) ∧ Hid (nb 5 = uL [5, 0, 0]) ∧ bits .and .u64 (nW (X + f) 2 : Int) 3 = (r : Int) ∧ Hid ((nb (X + f)).set 2 (.int .u64 (r : Int)) = nb (red X)) ∧ r < 18446744073709551616 := by
  have hx : X < 5444517870735015415413993718908291383296 := h
  have e2 : nW (X + 5) 2 = (X + 5) / 340282366920938463463374607431768211456 % 18446744073709551616 := rfl
  have hl : nW (X + 5) 2 < 18446744073709551616 := nW_lt _ _
  have hs : (X + 5) / 340282366920938463463374607431768211456 < 18446744073709551616 := by omega
  rw [Nat.mod_eq_of_lt hs] at e2
  have ho : nW (X + 5) 2 / 4 = (X + 5) / 1361129467683753853853498429727072845824 := by rw [e2, Nat.div_div_eq_div_mul]
  have ho4 : (X + 5) / 1361129467683753853853498429727072845824 ≤ 4 := by omega
  obtain ⟨o, hoo⟩ : ∃ o, (X + 5) / 1361129467683753853853498429727072845824 = o := ⟨_, rfl⟩
  rw [hoo] at ho ho4
  have hr : red X = (X + 5 * o) % 1361129467683753853853498429727072845824 := by unfold red; rw [hoo]
  obtain ⟨f, hf⟩ : ∃ f, 5 * o = f := ⟨_, rfl⟩
  rw [hf] at hr
  have hf5 : f ≤ 20 := by omega
  refine ⟨o, f, nW (X + f) 2 % 4, hl, by omega, by rw [IntKind.wrap_u64]; omega, hide (nb_uL (by omega) (by decide) (by decide) (by omega)), hide (nb_uL (by decide) (by decide) (by decide) (by decide)).symm, and3 _ (nW_lt _ _), hide ?_, by omega⟩
  rw [hr]
  have e3 : nW (X + f) 2 = (X + f) / 340282366920938463463374607431768211456 % 18446744073709551616 := rfl
  have e0 : nW (X + f) 0 = (X + f) % 18446744073709551616 := by show (X + f) / 1 % _ = _; rw [Nat.div_one]
  have e1 : nW (X + f) 1 = (X + f) / 18446744073709551616 % 18446744073709551616 := rfl
  show uL [nW (X + f) 0, nW (X + f) 1, nW (X + f) 2 % 4] = _
  refine nb_uL (nW_lt _ _) (nW_lt _ _) (by omega) ?_
  rw [e3, e0, e1]
  have hY : X + f < 10889035741470030830827987437816582766592 := by omega
  clear e0 e1 e2 e3 hr hl ho
  generalize X + f = Y at *
  have d1 : Y / 340282366920938463463374607431768211456 = Y / 18446744073709551616 / 18446744073709551616 := by rw [Nat.div_div_eq_div_mul]
  have d2 : Y / 1361129467683753853853498429727072845824 = Y / 18446744073709551616 / 18446744073709551616 / 4 := by rw [Nat.div_div_eq_div_mul, Nat.div_div_eq_div_mul]
  have d3 : Y % 1361129467683753853853498429727072845824 = Y - 1361129467683753853853498429727072845824 * (Y / 1361129467683753853853498429727072845824) := by omega
  rw [d3, d1, d2]
  omega
set_option maxRecDepth 100000 in
set_option maxHeartbeats 2000000 in
theorem reduced_any (X : Nat) (w : World) (hX : X < 2 ^ 132) :
    Calls Tryd.prog 45 #[.agg (nb X).toArray] w fun e w' => e = .returned (.agg (nb (red X)).toArray) ∧ Below w.heap.size w w' := by
  obtain ⟨o, f, r, hl, hdiv, hmul, M1, M5, hand, MR, hr⟩ := red_facts hX
  have HP : ∀ w, Calls Tryd.prog 46 #[.agg (nb X).toArray, .agg (nb 5).toArray] w fun e w' => e = .returned (.agg #[.int .u64 (nW (X + 5) 0 : Int), .int .u64 (nW (X + 5) 1 : Int), .int .u64 (nW (X + 5) 2 : Int)]) ∧ Below w.heap.size w w' := fun w => plus_any X 5 w
  generalize nW (X + 5) 2 = y2 at *
  have HQ : ∀ w, Calls Tryd.prog 46 #[.agg (nb X).toArray, .agg #[.int .u64 (f : Int), .int .u64 0, .int .u64 0]] w fun e w' => e = .returned (.agg (nb (X + f)).toArray) ∧ Below w.heap.size w w' := fun w => by
    have := plus_any X f w
    rw [← M1.out] at this
    exact this
  clear hX
  have HI : ∀ (w : World) (a b : Value), (Instr.index 71 (.agg #[a, b, .int .u64 (y2 : Int)]) (.int .i64 2)).run Tryd.prog w = .ok (.int .u64 (y2 : Int)) w := fun w a b => run_indexV w 71 54 3 #[a, b, .int .u64 (y2 : Int)] 2 _ Tryd.underlying71 Tryd.isAgg54 Tryd.sizeOf54 (by decide) rfl
  go_enter Tryd.func45, Tryd.ntmps45
  go_wp2_with (first
    | (with_reducible refine wl_box rfl 71 (.tmp 0) _ (nb X) rfl rfl rfl ?_; intro g1 w1 r1 a1 l1 b1)
    | (with_reducible refine wl_alloc rfl 71 _ (n3 0 0 0) rfl zeroN3 rfl ?_; intro g3 w3 r3 a3 l3 b3; have r1' := r1.later b3)
    | (with_reducible refine wl_load_row rfl 71 (.tmp 1) g1 71 _ _ rfl rfl r1' Tryd.underlying71 rfl (sizeNb _) ?_)
    | ((with_reducible refine wl_build rfl 71 _ rfl _ ?hv _ (built1 5) ?hk); case hv => rfl))
  rw [← M5.out]
  refine (HP _).mono ?_
  rintro e w4 ⟨rfl, b4⟩
  have s1 := b1.size; have s3 := b3.size; have s4 := b4.size
  have r4 := r1'.later b4
  go_wp2_with (first
    | (with_reducible refine wl_load_row rfl 71 (.tmp 1) g1 71 _ _ rfl rfl r4 Tryd.underlying71 rfl (sizeNb _) ?_)
    | rw [HI])
  refine (HQ _).mono ?_
  rintro e w5 ⟨rfl, b5⟩
  have s5 := b5.size
  have r5 := r4.later b5
  have cx := nb_get (X := X + f) (i := 2) (by decide)
  generalize nW (X + f) 2 = z2 at *
  have hrr := MR.out
  have hl2 : 2 < (nb (X + f)).length := by show 2 < 3; decide
  have zr := hide (oneNb (X + f))
  have r3' := (r3.later b4).later b5
  go_wp2_with (first
    | (with_reducible refine wl_store_row rfl 71 (.tmp 1) (.tmp 13) g1 71 _ (nb (X + f)) rfl rfl rfl r5 (sizeNb _) rfl zr.out ?_; intro w6 r6 o6; have c6 := r6.cell cx)
    | (with_reducible refine wl_store rfl 54 (.tmp 17) (.tmp 16) g1 2 71 _ (.int .u64 (r : Int)) rfl (by kernel_rfl) rfl rfl r6 hl2 rfl ?_; intro w7 r7 o7; rw [hrr] at r7)
    | (with_reducible refine wl_load_row rfl 71 (.tmp 1) g1 71 _ _ rfl rfl r7 Tryd.underlying71 rfl (sizeNb _) ?_)
    | (with_reducible refine wl_store_row rfl 71 (.tmp 2) (.tmp 18) g3 71 _ (nb (red X)) rfl rfl rfl ((r3'.only o6 (by omega)).only o7 (by omega)) (sizeNb _) rfl (oneNb _) ?_; intro w8 r8 o8))
  have s6 := o6.size; have s7 := o7.size
  refine bodyPost_ret (v := .agg (nb (red X)).toArray) ?_ rfl ⟨rfl, ?_⟩
  · exact results_cell_row Tryd.results45 _ _ g3 71 _ (0, 0) _ rfl r8 Tryd.underlying71 rfl (by simpa using sizeNb (red X))
  · exact ((((((b1.trans (b3.mono (by omega))).trans (b4.mono (by omega))).trans (b5.mono (by omega))).trans (o6.below (by omega))).trans (o7.below (by omega))).trans (o8.below (by omega)))
end Go.Proofs.YtpnlgmkkikmglabDoor

/-
  Poly: bytes that fill a part; the part's number: contracts. Own work.
-/
namespace Go.Proofs.YtpnlgmkkikmglabDoor
open Go.RowKit
/-- 'copy(dst, src)' into a block of the call's own; as many as fit. -/
theorem st_copy_take {P : Program} {o : Oper} {a : Act} {w : World} {K : Act → World → Prop} {Q : Exit → Act → World → Prop} (d s : Operand) (dT sT : TypeId) (ho : o.op = .call { callee := .builtin .copy, args := #[d, s], argTypes := #[dT, sT] }) (elem : TypeId) (hu : P.underlying dT = some (.slice elem)) (hsz : (P.info? elem).map (·.size) = some 1)
    (g off dLen dCap n c t B : Nat) (A : Option Addr) (hd : a.eval d = .slice (some ⟨g, off, none⟩) dLen dCap) (hs : a.eval s = .slice A n c) (cur : List Value) (xs : List Int) (k : Nat) (h : Row w t g cur) (hx : Bs w B A n xs) (hk0 : k = min n dLen) (hpos : 0 < k) (hfit : off + k ≤ cur.length)
    (hk : ∀ w', Row w' t g (cur.take off ++ (bv (xs.take k) ++ cur.drop (off + k))) → Only g w w' → K (a.put o.dst (goInt k)) w') : o.wp P a w K Q := by
  have hx' := hx.take (k := k) (by omega)
  obtain ⟨b, o', rfl, _, _⟩ := hx'.2 hpos
  have hl : (bv (xs.take k)).length = Nat.min n dLen := by rw [bv_len, hx'.1]; exact hk0
  have hrun := run_copy_row (P := P) w dT sT o.type elem g off dLen dCap ⟨b, o', none⟩ n c cur.toArray t (bv (xs.take k)) hu hsz h hl (hx'.cells rfl) (by rw [bv_len, hx'.1]; simpa using hfit) (bv_one _)
  rw [bv_len, hx'.1] at hrun
  unfold Oper.wp
  simp [execOp, ho, resolve, invoke, builtin, hd, hs, hrun, Result.andThen]
  refine hk _ ?_ (only_setRow _ _ _)
  have := setRow_heap w g _ (cur.take off ++ (bv (xs.take k) ++ cur.drop (off + k))).toArray t _ h
  exact this
def SFi (g n m c k : Nat) (A : Option Addr) (opn : Nat) (v : Value) : Prop :=
  match opn with
  | 0 | 1 | 2 | 3 | 4 => v = .pointer (some ⟨g, 0, none⟩)
  | 5 => v = .pointer (some ⟨g, 16, none⟩)
  | 6 => v = .int .i64 (n : Int)
  | 7 => v = .slice (some ⟨g, n, none⟩) (16 - n) (16 - n)
  | 8 => v = .slice A m c
  | 9 | 10 => v = .int .i64 (k : Int)
  | _ => True

theorem But.cellB {g B : Nat} {w w' : World} {p : Addr} (h : But g w w') (hB : B ≤ g) (hw : B ≤ w.heap.size) (hp : p.block < B) : w'.cell? p = w.cell? p := (h.below hB hw).cell hp
/-- A slice's bytes lie outside block g. -/
def Off (g n : Nat) (A : Option Addr) : Prop := 0 < n → ∀ x, A = some x → x.block ≠ g
theorem Off.of {w : World} {B g n : Nat} {A : Option Addr} {xs : List Int} (h : Bs w B A n xs) (hB : B ≤ g) : Off g n A := fun hn x hx => by
  obtain ⟨b, o, rfl, hb, _⟩ := h.2 hn
  injection hx with hx
  subst hx
  show b ≠ g
  omega
theorem Off.sub {g n : Nat} {A : Option Addr} (h : Off g n A) (c k : Nat) : Off g (n - k) (subA A c k) := fun hn x hx => by
  have h' := h (by omega)
  unfold subA at hx
  split at hx
  · exact h' x hx
  · cases A with
    | none => simp at hx
    | some y => simp at hx; subst hx; rw [show (y.add k).block = y.block from by unfold Addr.add; split <;> rfl]; exact h' y rfl
theorem Bs.keepOff {w w' : World} {g B n : Nat} {A : Option Addr} {xs : List Int} (h : Bs w B A n xs) (hw : But g w w') (ho : Off g n A) (hB : B ≤ w.heap.size) : Bs w' B A n xs := by
  refine ⟨h.1, fun hn => ?_⟩
  obtain ⟨b, o, rfl, hb, hc⟩ := h.2 hn
  have hne := ho hn _ rfl
  exact ⟨b, o, rfl, hb, fun j hj => by rw [World.cell?_of_block (w := w) (a := ⟨b, o + j, none⟩) (hw.block b (by omega) hne)]; exact hc j hj⟩
set_option maxRecDepth 100000 in
set_option maxHeartbeats 1000000 in
theorem fill_any (g t n m c B k : Nat) (held xs : List Int) (rest : List Value) (A : Option Addr) (w : World) (hr : Row w t g (bv held ++ (.int .i64 (n : Int) :: rest))) (hh : held.length = 16) (hn : n < 16) (hx : Bs w B A m xs) (hB : Off g m A) (hBw : B ≤ w.heap.size) (hm : 0 < m) (hk : k = min m (16 - n)) (hc : m ≤ c) :
    Calls Tryd.prog 40 #[.pointer (some ⟨g, 0, none⟩), .slice A m c] w fun e w' => e = .returned (.slice (subA A c k) (m - k) (c - k)) ∧ Row w' t g (bv (held.take n ++ (xs.take k ++ held.drop (n + k))) ++ (.int .i64 ((n + k : Nat) : Int) :: rest)) ∧ But g w w' := by
  have hpos : 0 < k := by omega
  have hnk : n + k ≤ 16 := by omega
  have hkm : k ≤ m := by omega
  have hlen : (bv held).length = 16 := by rw [bv_len, hh]
  have hS := fun w => run_sliceFrom (P := Tryd.prog) w 24 5 Tryd.underlying24 Tryd.sizeOf5 A m c .i64 k hkm
  have c16 : (bv held ++ (.int .i64 (n : Int) :: rest))[16]? = some (.int .i64 (n : Int)) := by rw [List.getElem?_append_right (by omega), hlen]; rfl
  have hnew : (bv held ++ (.int .i64 (n : Int) :: rest)).take n ++ (bv (xs.take k) ++ (bv held ++ (.int .i64 (n : Int) :: rest)).drop (n + k)) = bv (held.take n ++ (xs.take k ++ held.drop (n + k))) ++ (.int .i64 (n : Int) :: rest) := by
    rw [List.take_append_of_le_length (by omega), List.drop_append_of_le_length (by omega)]
    simp [bv]
  have hset : (bv (held.take n ++ (xs.take k ++ held.drop (n + k))) ++ (.int .i64 (n : Int) :: rest)).set 16 (.int .i64 ((n + k : Nat) : Int)) = bv (held.take n ++ (xs.take k ++ held.drop (n + k))) ++ (.int .i64 ((n + k : Nat) : Int) :: rest) := by
    have hl : (bv (held.take n ++ (xs.take k ++ held.drop (n + k)))).length = 16 := by
      have := hx.1
      simp [bv_len, hh]
      omega
    rw [List.set_append_right _ _ (by omega), hl]
    rfl
  have c16' : (bv (held.take n ++ (xs.take k ++ held.drop (n + k))) ++ (.int .i64 (n : Int) :: rest))[16]? = some (.int .i64 (n : Int)) := by
    have hl : (bv (held.take n ++ (xs.take k ++ held.drop (n + k)))).length = 16 := by
      have := hx.1
      simp [bv_len, hh]
      omega
    rw [List.getElem?_append_right (by omega), hl]; rfl
  have hfit : n + k ≤ (bv held ++ (.int .i64 (n : Int) :: rest)).length := by rw [List.length_append, hlen]; omega
  have hl16 : 16 < (bv (held.take n ++ (xs.take k ++ held.drop (n + k))) ++ (.int .i64 (n : Int) :: rest)).length := by
    have := (List.getElem?_eq_some_iff.1 c16').1
    exact this
  generalize bv held ++ (.int .i64 (n : Int) :: rest) = cur at *
  generalize bv (held.take n ++ (xs.take k ++ held.drop (n + k))) ++ (.int .i64 (n : Int) :: rest) = mid at *
  generalize bv (held.take n ++ (xs.take k ++ held.drop (n + k))) ++ (.int .i64 ((n + k : Nat) : Int) :: rest) = fin at *
  have HN := hide hnew
  have HS := hide hset
  have HK := hide hk
  clear hnew hset hlen hh hk
  go_enter Tryd.func40, Tryd.ntmps40
  go_wp2_with fail
  rename_i K1 hK1
  refine wp_region_vals [9] (SFi g n m c k A) (JB g t w 0 cur mid) (by kernel_rfl) (by kernel_rfl) (by kernel_rfl) (by kernel_rfl) (by kernel_rfl) (JB.start hr rfl) ?obs ?he
  case obs =>
    refine ⟨?_, ?_, ?_, ?_, ?_, ?_, ?_, ?_, ?_, ?_, ?_, trivial⟩
    · exact .inl ⟨by kernel_rfl, fun L a1 w1 n' h => ⟨_, rfl, run_move (.tmp 0) rfl (h.var n' 0 (by kernel_rfl))⟩⟩
    · refine .inl ⟨by kernel_rfl, fun L a1 w1 n' h => ⟨.pointer (some ⟨g, 0, none⟩), rfl, ?_⟩⟩
      have e0 : a1.eval (.tmp 6) = _ := h.dep n' 0 6 (by kernel_rfl) rfl
      unfold execOp
      simp only [e0]
      go_simp
    · refine .inl ⟨by kernel_rfl, fun L a1 w1 n' h => ⟨.pointer (some ⟨g, 0, none⟩), rfl, ?_⟩⟩
      have e0 : a1.eval (.tmp 7) = _ := h.dep n' 1 7 (by kernel_rfl) rfl
      unfold execOp
      simp only [e0]
      go_simp
    · exact .inl ⟨by kernel_rfl, fun L a1 w1 n' h => ⟨_, rfl, run_move (.tmp 0) rfl (h.var n' 0 (by kernel_rfl))⟩⟩
    · refine .inl ⟨by kernel_rfl, fun L a1 w1 n' h => ⟨.pointer (some ⟨g, 0, none⟩), rfl, ?_⟩⟩
      have e0 : a1.eval (.tmp 9) = _ := h.dep n' 3 9 (by kernel_rfl) rfl
      unfold execOp
      simp only [e0]
      go_simp
    · refine .inl ⟨by kernel_rfl, fun L a1 w1 n' h => ⟨.pointer (some ⟨g, 16, none⟩), rfl, ?_⟩⟩
      have e0 : a1.eval (.tmp 10) = _ := h.dep n' 4 10 (by kernel_rfl) rfl
      unfold execOp
      simp only [e0]
      go_simp
    · exact .inl ⟨by kernel_rfl, fun L a1 w1 n' h => ⟨_, rfl, run_loadA 3 (.tmp 11) ⟨g, 16, none⟩ rfl Tryd.isAgg3 (h.dep n' 5 11 (by kernel_rfl) rfl) ((h.inv.1 (n'.later (by kernel_rfl))).cell c16)⟩⟩
    · exact .inl ⟨by kernel_rfl, fun L a1 w1 n' h => ⟨_, rfl, run_sliceLo 36 (.tmp 8) (.tmp 12) 16 5 g n rfl Tryd.underlying36 Tryd.sizeOf5 (h.dep n' 2 8 (by kernel_rfl) rfl) (h.dep n' 6 12 (by kernel_rfl) rfl) hn⟩⟩
    · exact .inl ⟨by kernel_rfl, fun L a1 w1 n' h => ⟨_, rfl, run_move (.tmp 1) rfl (h.var n' 1 (by kernel_rfl))⟩⟩
    · refine .inr fun L a1 w1 n' h K hK => ?_
      have no : L.getD 9 false = false := n'.not_yet
      refine st_copy_take (.tmp 13) (.tmp 14) _ _ rfl 5 Tryd.underlying24 u8_size g n (16 - n) (16 - n) m c t B A (h.dep n' 7 13 (by kernel_rfl) rfl) (h.dep n' 8 14 (by kernel_rfl) rfl) cur xs k (h.inv.1 no) (hx.keepOff h.inv.2.2 hB hBw) HK.out hpos hfit ?_
      intro w3 r3 o3
      exact hK _ w3 rfl (h.inv.store (us := []) o3 (by rw [← HN.out]; exact r3) rfl)
    · exact .inl ⟨by kernel_rfl, fun L a1 w1 n' h => ⟨_, rfl, run_assign (.tmp 15) rfl (h.dep n' 9 15 (by kernel_rfl) rfl)⟩⟩
  case he =>
    intro V w5 hV hJ
    have r5 := hJ.2.1 rfl
    have bx := hJ.2.2
    have h10 : V 10 = .int .i64 (k : Int) := hV 10 5 rfl
    clear hV hJ
    simp only [putOps, List.setIfInBounds_toArray, List.set_cons_succ, List.set_cons_zero]
    rw [h10]
    refine hK1 _ _ ?_
    have c5 := r5.cell c16'
    go_wp2_with (first
      | (with_reducible refine wl_store rfl 3 (.tmp 23) (.tmp 21) g 16 t _ (.int .i64 ((n : Int) + (k : Int))) rfl (by kernel_rfl) rfl rfl r5 hl16 rfl ?_; intro w7 r7 o7)
      | rw [hS])
    go_ret
    rw [show ((n : Int) + (k : Int)) = ((n + k : Nat) : Int) from by omega, HS.out] at r7
    exact ⟨rfl, r7, bx.trans (But.only o7)⟩
end Go.Proofs.YtpnlgmkkikmglabDoor

/-
  Poly: a part's number, the sum behind it: contracts. Own work.
-/
namespace Go.Proofs.YtpnlgmkkikmglabDoor
open Go.RowKit
theorem bv_app (xs ys : List Int) : bv (xs ++ ys) = bv xs ++ bv ys := by simp [bv]
theorem bv_drop (xs : List Int) (n : Nat) : bv (xs.drop n) = (bv xs).drop n := by simp [bv, List.map_drop]
theorem bv_take (xs : List Int) (n : Nat) : bv (xs.take n) = (bv xs).take n := by simp [bv, List.map_take]
theorem n3_nb {xs : List Int} (h : IsBy xs) : n3 (leV xs 0 8) (leV xs 8 8) (leV xs 16 8) = nb (leN xs) := by
  simp only [n3, nb, nW_leN h]
/-- 'x[:h]' of an array. -/
theorem run_sliceHi {P : Program} {o : Oper} {a : Act} {w : World} (t : TypeId) (x y : Operand) (n e : Nat) (g h : Nat) (ho : o.op = .slice t x none (some y) none) (hu : P.underlying t = some (.array n e)) (hs : ∀ w, (sizeOf e).run P w = .ok 1 w)
    (hx : a.eval x = .pointer (some ⟨g, 0, none⟩)) (hy : a.eval y = .int .i64 h) (hl : h ≤ n) : (execOp a.eval o).run P w = .ok (.value (.slice (some ⟨g, 0, none⟩) h n)) w := by
  have h1 : (0 : Int) ≤ h := by omega
  have h2 : (h : Int) ≤ n := by omega
  have hadd : (⟨g, 0, none⟩ : Addr).add 0 = ⟨g, 0, none⟩ := by unfold Addr.add; split <;> simp_all
  unfold execOp
  simp only [ho, hx, hy, Option.map_some, Option.map_none]
  simp [Instr.sliceAt, underlying, hu, Instr.sureAddr, Instr.sliceBounds, Instr.sliceBound, asIntOf, hs, h1, h2, hadd, hl]
/-- A Mac's cells. -/
def macL (held : List Int) (n R S T : Nat) : List Value := bv held ++ (.int .i64 (n : Int) :: (fb R ++ (nb S ++ nb T)))
theorem mac16 {held : List Int} (h : held.length = 16) (n R S T : Nat) : (macL held n R S T)[16]? = some (.int .i64 (n : Int)) := by
  unfold macL
  rw [List.getElem?_append_right (by rw [bv_len]; omega), bv_len, h]; rfl
theorem macLen {held : List Int} (h : held.length = 16) (n R S T : Nat) : (macL held n R S T).length = 25 := by simp [macL, bv_len, h, fb, nb]
theorem zero17 : (Tryd.prog.info? 113).map (fun i => i.zero) = some (some (.agg (bv (List.replicate 17 0)).toArray)) := by kernel_rfl
def SPc (g g3 n : Nat) (opn : Nat) (v : Value) : Prop :=
  match opn with
  | 0 => v = .slice (some ⟨g3, 0, none⟩) 17 17
  | 1 | 2 | 3 | 4 | 5 => v = .pointer (some ⟨g, 0, none⟩)
  | 6 => v = .pointer (some ⟨g, 16, none⟩)
  | 7 | 9 => v = .int .i64 (n : Int)
  | 8 => v = .slice (some ⟨g, 0, none⟩) n 16
  | _ => True

set_option maxRecDepth 100000 in
set_option maxHeartbeats 1000000 in
theorem piece_any (g n R S T : Nat) (held : List Int) (w : World) (hr : Row w 78 g (macL held n R S T)) (hh : held.length = 16) (hb : IsBy held) (hpos : 0 < n) (hn : n ≤ 16) :
    Calls Tryd.prog 62 #[.pointer (some ⟨g, 0, none⟩)] w fun e w' => e = .returned (.agg (nb (leN (held.take n ++ [1]))).toArray) ∧ Below w.heap.size w w' := by
  have c16 := mac16 hh n R S T
  have hbn : IsBy (held.take n ++ (1 :: List.replicate (16 - n) 0)) := (hb.take n).app fun x hx => by
    simp only [List.mem_cons, List.mem_replicate] at hx
    rcases hx with rfl | ⟨_, rfl⟩ <;> omega
  have hlen : (held.take n ++ (1 :: List.replicate (16 - n) 0)).length = 17 := by simp [hh]; omega
  have hval : leN (held.take n ++ (1 :: List.replicate (16 - n) 0)) = leN (held.take n ++ [1]) := by
    rw [leN_append, leN_append]
    simp [leN, leN_zeros]
  have HB : ∀ w', Row w' 78 g (macL held n R S T) → Bs w' (g + 1) (some ⟨g, 0, none⟩) n (held.take n) := fun w' h => by
    have e : macL held n R S T = [] ++ (bv (held.take n) ++ (bv (held.drop n) ++ (.int .i64 (n : Int) :: (fb R ++ (nb S ++ nb T))))) := by
      unfold macL
      rw [List.nil_append, ← List.append_assoc (bv (held.take n)), ← bv_app, List.take_append_drop]
    rw [e] at h
    have := h.bs (B := g + 1) rfl (by omega)
    rwa [List.length_take, Nat.min_eq_left (by omega)] at this
  have hmid : (bv (List.replicate 17 0)).take 0 ++ (bv (held.take n) ++ (bv (List.replicate 17 0)).drop (0 + n)) = bv (held.take n ++ List.replicate (17 - n) 0) := by
    rw [List.take_zero, List.nil_append, Nat.zero_add, bv_app, ← bv_drop, List.drop_replicate]
  have hset : (bv (held.take n ++ List.replicate (17 - n) 0)).set n (.int .u8 1) = bv (held.take n ++ (1 :: List.replicate (16 - n) 0)) := by
    rw [bv_set]
    congr 1
    rw [List.set_append_right _ _ (by rw [List.length_take]; omega), List.length_take, Nat.min_eq_left (by omega), Nat.sub_self, show 17 - n = (16 - n) + 1 by omega, List.replicate_succ]
    rfl
  have hln : n < (bv (held.take n ++ List.replicate (17 - n) 0)).length := by rw [bv_len]; simp [hh]; omega
  have HV := hide hval
  have HL := hide hlen
  have HS := hide hset
  have HM := hide hmid
  have hn3 := n3_nb hbn
  have hF := fun A m c w h => fromBytes_any A m c _ w h hbn
  clear hval hlen hset
  generalize hys : held.take n ++ (1 :: List.replicate (16 - n) 0) = ys at *
  clear hys
  rw [hn3] at hF
  go_enter Tryd.func62, Tryd.ntmps62
  go_wp2_with (first
    | (with_reducible refine wl_alloc rfl 71 _ (n3 0 0 0) rfl zeroN3 rfl ?_; intro g2 w1 r1 a1 l1 b1; have hr1 := hr.later b1)
    | (with_reducible refine wl_alloc rfl 113 _ (bv (List.replicate 17 0)) rfl zero17 rfl ?_; intro g3 w2 r2 a2 l2 b2; have hr3 := hr1.later b2))
  have hne : g ≠ g3 := by have := hr1.lt; omega
  have s1 := b1.size; have s2 := b2.size
  rename_i K1 hK1
  refine wp_region_vals [9] (SPc g g3 n) (JB g3 113 w2 0 (bv (List.replicate 17 0)) (bv (held.take n ++ List.replicate (17 - n) 0))) (by kernel_rfl) (by kernel_rfl) (by kernel_rfl) (by kernel_rfl) (by kernel_rfl) (JB.start r2 rfl) ?obs ?he
  case obs =>
    refine ⟨?_, ?_, ?_, ?_, ?_, ?_, ?_, ?_, ?_, ?_, trivial⟩
    · exact .inl ⟨by kernel_rfl, fun L a1 w1 n' h => ⟨_, rfl, run_sliceAll 113 (.tmp 3) 17 5 g3 rfl Tryd.underlying113 Tryd.sizeOf5 (h.var n' 3 (by kernel_rfl))⟩⟩
    · exact .inl ⟨by kernel_rfl, fun L a1 w1 n' h => ⟨_, rfl, run_move (.tmp 0) rfl (h.var n' 0 (by kernel_rfl))⟩⟩
    · refine .inl ⟨by kernel_rfl, fun L a1 w1 n' h => ⟨.pointer (some ⟨g, 0, none⟩), rfl, ?_⟩⟩
      have e0 : a1.eval (.tmp 5) = _ := h.dep n' 1 5 (by kernel_rfl) rfl
      unfold execOp
      simp only [e0]
      go_simp
    · refine .inl ⟨by kernel_rfl, fun L a1 w1 n' h => ⟨.pointer (some ⟨g, 0, none⟩), rfl, ?_⟩⟩
      have e0 : a1.eval (.tmp 6) = _ := h.dep n' 2 6 (by kernel_rfl) rfl
      unfold execOp
      simp only [e0]
      go_simp
    · exact .inl ⟨by kernel_rfl, fun L a1 w1 n' h => ⟨_, rfl, run_move (.tmp 0) rfl (h.var n' 0 (by kernel_rfl))⟩⟩
    · refine .inl ⟨by kernel_rfl, fun L a1 w1 n' h => ⟨.pointer (some ⟨g, 0, none⟩), rfl, ?_⟩⟩
      have e0 : a1.eval (.tmp 8) = _ := h.dep n' 4 8 (by kernel_rfl) rfl
      unfold execOp
      simp only [e0]
      go_simp
    · refine .inl ⟨by kernel_rfl, fun L a1 w1 n' h => ⟨.pointer (some ⟨g, 16, none⟩), rfl, ?_⟩⟩
      have e0 : a1.eval (.tmp 9) = _ := h.dep n' 5 9 (by kernel_rfl) rfl
      unfold execOp
      simp only [e0]
      go_simp
    · exact .inl ⟨by kernel_rfl, fun L a1 w1 n' h => ⟨_, rfl, run_loadA 3 (.tmp 10) ⟨g, 16, none⟩ rfl Tryd.isAgg3 (h.dep n' 6 10 (by kernel_rfl) rfl) ((hr3.but h.inv.2.2 hne).cell c16)⟩⟩
    · exact .inl ⟨by kernel_rfl, fun L a1 w1 n' h => ⟨_, rfl, run_sliceHi 36 (.tmp 7) (.tmp 11) 16 5 g n rfl Tryd.underlying36 Tryd.sizeOf5 (h.dep n' 3 7 (by kernel_rfl) rfl) (h.dep n' 7 11 (by kernel_rfl) rfl) hn⟩⟩
    · refine .inr fun L a1 w1 n' h K hK => ?_
      have no : L.getD 9 false = false := n'.not_yet
      refine st_copy (.tmp 4) (.tmp 12) _ _ rfl 5 Tryd.underlying24 u8_size g3 0 17 17 n 16 113 (g + 1) (some ⟨g, 0, none⟩) (h.dep n' 0 4 (by kernel_rfl) rfl) (h.dep n' 8 12 (by kernel_rfl) rfl) (bv (List.replicate 17 0)) (held.take n) (h.inv.1 no) (HB _ (hr3.but h.inv.2.2 hne)) (by omega) hpos (by rw [bv_len, List.length_replicate]; omega) ?_
      intro w3 r3 o3
      rw [hmid] at r3
      exact hK _ w3 rfl (h.inv.store (us := []) o3 r3 rfl)
  case he =>
    intro V w5 hV hJ
    have r5 := hJ.2.1 rfl
    have bx := hJ.2.2
    clear hV hJ
    simp only [putOps, List.setIfInBounds_toArray, List.set_cons_succ, List.set_cons_zero]
    refine hK1 _ _ ?_
    have hr5 := hr3.but bx hne
    have c5 := hr5.cell c16
    go_wp2_with (first
      | (with_reducible refine wl_store rfl 5 (.tmp 18) (.const (.int .u8 1)) g3 n 113 _ (.int .u8 1) rfl (by kernel_rfl) rfl rfl r5 hln rfl ?_; intro w7 r7 o7; rw [HS.out] at r7))
    have hbs := (Row.toOwn r7).bs (B := w7.heap.size) r7.lt
    rw [HL.out] at hbs
    refine (hF _ _ 17 _ hbs (by omega)).mono ?_
    rintro e w8 ⟨rfl, b8⟩
    have s5 := bx.size; have s7 := o7.size
    have hne2 : g2 ≠ g3 := by omega
    have r1' := (((r1.later b2).but bx hne2).only o7 hne2).later b8
    go_wp2_with (first
      | (with_reducible refine wl_store_row rfl 71 (.tmp 2) (.tmp 20) g2 71 _ (nb (leN ys)) rfl rfl rfl r1' (sizeNb _) rfl (oneNb _) ?_; intro w9 r9 o9))
    refine bodyPost_ret (v := .agg (nb (leN ys)).toArray) ?_ rfl ⟨by rw [HV.out], ?_⟩
    · exact results_cell_row Tryd.results62 _ _ g2 71 _ (0, 0) _ rfl r9 Tryd.underlying71 rfl (by simpa using sizeNb (leN ys))
    · exact (((((b1.trans (b2.mono (by omega))).trans (bx.below (by omega) (by omega))).trans (o7.below (by omega))).trans (b8.mono (by omega))).trans (o9.below (by omega)))
/-! ### The sum behind it -/
def SNx (g g2 n R S T : Nat) (held : List Int) (opn : Nat) (v : Value) : Prop :=
  match opn with
  | 0 | 1 | 4 | 5 | 6 | 9 | 10 => v = .pointer (some ⟨g, 0, none⟩)
  | 2 => v = .pointer (some ⟨g, 22, none⟩)
  | 3 => v = .agg (nb T).toArray
  | 7 => v = .agg (nb (leN (held.take n ++ [1]))).toArray
  | 8 => v = .agg (nb (T + leN (held.take n ++ [1]))).toArray
  | 11 => v = .pointer (some ⟨g, 17, none⟩)
  | 12 => v = .agg (fb R).toArray
  | 13 => v = .agg (nb (fold1 ((T + leN (held.take n ++ [1])) * R))).toArray
  | _ => True

set_option maxRecDepth 100000 in
set_option maxHeartbeats 2000000 in
theorem pnext_any (g n R S T : Nat) (held : List Int) (w : World) (hr0 : Row w 78 g (macL held n R S T)) (hh : held.length = 16) (hb : IsBy held) (hpos : 0 < n) (hn : n ≤ 16) (hR : R < 2 ^ 124) (hT : T < 1361129467683753853853498429727072845824 + 340282366920938463463374607431768211456) :
    Calls Tryd.prog 42 #[.pointer (some ⟨g, 0, none⟩)] w fun e w' => e = .returned (.agg (nb (stepI R T (held.take n))).toArray) ∧ Below w.heap.size w w' := by
  have hp := piece_lt (hb.take n) (by rw [List.length_take]; omega)
  have hX : T + leN (held.take n ++ [1]) < 2 ^ 131 := by omega
  clear hp hT
  unfold stepI
  go_enter Tryd.func42, Tryd.ntmps42
  go_wp2_with (first
    | (with_reducible refine wl_alloc rfl 71 _ (n3 0 0 0) rfl zeroN3 rfl ?_; intro g2 w1 r1 a1 l1 b1; have hr := hr0.later b1))
  have hne : g ≠ g2 := by have := hr0.lt; omega
  rename_i K1 hK1
  refine wp_region_vals [7, 8, 13, 14] (SNx g g2 n R S T held) (JB g2 71 w1 3 (n3 0 0 0) (nb (fold1 ((T + leN (held.take n ++ [1])) * R)))) (by kernel_rfl) (by kernel_rfl) (by kernel_rfl) (by kernel_rfl) (by kernel_rfl) (JB.start r1 rfl) ?obs ?he
  case obs =>
    refine ⟨?_, ?_, ?_, ?_, ?_, ?_, ?_, ?_, ?_, ?_, ?_, ?_, ?_, ?_, ?_, trivial⟩
    · exact .inl ⟨by kernel_rfl, fun L a1 w1 n' h => ⟨_, rfl, run_move (.tmp 0) rfl (h.var n' 0 (by kernel_rfl))⟩⟩
    · refine .inl ⟨by kernel_rfl, fun L a1 w1 n' h => ⟨.pointer (some ⟨g, 0, none⟩), rfl, ?_⟩⟩
      have e0 : a1.eval (.tmp 3) = _ := h.dep n' 0 3 (by kernel_rfl) rfl
      unfold execOp
      simp only [e0]
      go_simp
    · refine .inl ⟨by kernel_rfl, fun L a1 w1 n' h => ⟨.pointer (some ⟨g, 22, none⟩), rfl, ?_⟩⟩
      have e0 : a1.eval (.tmp 4) = _ := h.dep n' 1 4 (by kernel_rfl) rfl
      unfold execOp
      simp only [e0]
      go_simp
    · exact .inl ⟨by kernel_rfl, fun L a1 w1 n' h => ⟨_, rfl, run_loadP 71 (.tmp 5) g 22 78 (bv held ++ (.int .i64 (n : Int) :: (fb R ++ nb S))) (nb T) ([]) _ rfl (h.dep n' 2 5 (by kernel_rfl) rfl) (by have := hr.but h.inv.2.2 hne; simpa [macL] using this) (by simp [bv_len, fb, nb, hh]) Tryd.underlying71 rfl (sizeNb _)⟩⟩
    · exact .inl ⟨by kernel_rfl, fun L a1 w1 n' h => ⟨_, rfl, run_move (.tmp 0) rfl (h.var n' 0 (by kernel_rfl))⟩⟩
    · refine .inl ⟨by kernel_rfl, fun L a1 w1 n' h => ⟨.pointer (some ⟨g, 0, none⟩), rfl, ?_⟩⟩
      have e0 : a1.eval (.tmp 7) = _ := h.dep n' 4 7 (by kernel_rfl) rfl
      unfold execOp
      simp only [e0]
      go_simp
    · refine .inl ⟨by kernel_rfl, fun L a1 w1 n' h => ⟨.pointer (some ⟨g, 0, none⟩), rfl, ?_⟩⟩
      have e0 : a1.eval (.tmp 8) = _ := h.dep n' 5 8 (by kernel_rfl) rfl
      unfold execOp
      simp only [e0]
      go_simp
    · refine .inr fun L a1 w1 n' h K hK => ?_
      have e0 : a1.eval (.tmp 9) = .pointer (some ⟨g, 0, none⟩) := h.dep n' 6 9 (by kernel_rfl) rfl
      refine st_call 62 _ _ #[.pointer (some ⟨g, 0, none⟩)] rfl Tryd.call62 ?_ (piece_any g n R S T held w1 (hr.but h.inv.2.2 hne) hh hb hpos hn) ?_
      · simp only [List.map_toArray, List.map_cons, List.map_nil, e0]
      · rintro e w3 ⟨rfl, b9⟩
        exact ⟨_, rfl, hK _ w3 rfl (h.inv.call (us := []) b9)⟩
    · refine .inr fun L a1 w1 n' h K hK => ?_
      have e0 : a1.eval (.tmp 6) = .agg (nb T).toArray := h.dep n' 3 6 (by kernel_rfl) rfl
      have e1 : a1.eval (.tmp 10) = .agg (nb (leN (held.take n ++ [1]))).toArray := h.dep n' 7 10 (by kernel_rfl) rfl
      refine st_call 46 _ _ #[.agg (nb T).toArray, .agg (nb (leN (held.take n ++ [1]))).toArray] rfl Tryd.call46 ?_ (plus_any T (leN (held.take n ++ [1])) w1) ?_
      · simp only [List.map_toArray, List.map_cons, List.map_nil, e0, e1]
      · rintro e w3 ⟨rfl, b9⟩
        exact ⟨_, rfl, hK _ w3 rfl (h.inv.call (us := []) b9)⟩
    · exact .inl ⟨by kernel_rfl, fun L a1 w1 n' h => ⟨_, rfl, run_move (.tmp 0) rfl (h.var n' 0 (by kernel_rfl))⟩⟩
    · refine .inl ⟨by kernel_rfl, fun L a1 w1 n' h => ⟨.pointer (some ⟨g, 0, none⟩), rfl, ?_⟩⟩
      have e0 : a1.eval (.tmp 12) = _ := h.dep n' 9 12 (by kernel_rfl) rfl
      unfold execOp
      simp only [e0]
      go_simp
    · refine .inl ⟨by kernel_rfl, fun L a1 w1 n' h => ⟨.pointer (some ⟨g, 17, none⟩), rfl, ?_⟩⟩
      have e0 : a1.eval (.tmp 13) = _ := h.dep n' 10 13 (by kernel_rfl) rfl
      unfold execOp
      simp only [e0]
      go_simp
    · exact .inl ⟨by kernel_rfl, fun L a1 w1 n' h => ⟨_, rfl, run_loadP 74 (.tmp 14) g 17 78 (bv held ++ [.int .i64 (n : Int)]) (fb R) (nb S ++ nb T) _ rfl (h.dep n' 11 14 (by kernel_rfl) rfl) (by have := hr.but h.inv.2.2 hne; simpa [macL] using this) (by simp [bv_len, fb, nb, hh]) Tryd.underlying74 rfl (by kernel_rfl)⟩⟩
    · refine .inr fun L a1 w1 n' h K hK => ?_
      have e0 : a1.eval (.tmp 11) = .agg (nb (T + leN (held.take n ++ [1]))).toArray := h.dep n' 8 11 (by kernel_rfl) rfl
      have e1 : a1.eval (.tmp 15) = .agg (fb R).toArray := h.dep n' 12 15 (by kernel_rfl) rfl
      refine st_call 61 _ _ #[.agg (nb (T + leN (held.take n ++ [1]))).toArray, .agg (fb R).toArray] rfl Tryd.call61 ?_ (times_any (T + leN (held.take n ++ [1])) R w1 hX hR) ?_
      · simp only [List.map_toArray, List.map_cons, List.map_nil, e0, e1]
      · rintro e w3 ⟨rfl, b9⟩
        exact ⟨_, rfl, hK _ w3 rfl (h.inv.call (us := []) b9)⟩
    · refine .inr fun L a1 w1 n' h K hK => ?_
      have no : L.getD 14 false = false := n'.not_yet
      refine st_store_row 71 (.tmp 2) (.tmp 16) g2 71 (n3 0 0 0) (nb (fold1 ((T + leN (held.take n ++ [1])) * R))) rfl (h.var n' 2 (by kernel_rfl)) (h.dep n' 13 16 (by kernel_rfl) rfl) (h.inv.1 no) (sizeNb _) rfl (oneNb _) ?_
      intro w3 r3 o3
      exact hK undef w3 trivial (h.inv.store (us := []) o3 r3 rfl)
  case he =>
    intro V w5 hV hJ
    have r5 := hJ.2.1 rfl
    have bx := hJ.2.2
    clear hV hJ
    simp only [putOps, List.setIfInBounds_toArray, List.set_cons_succ, List.set_cons_zero]
    refine hK1 _ _ ?_
    go_wp2
    refine bodyPost_ret (v := .agg (nb (fold1 ((T + leN (held.take n ++ [1])) * R))).toArray) ?_ rfl ⟨rfl, ?_⟩
    · exact results_cell_row Tryd.results42 _ _ g2 71 _ (0, 0) _ rfl r5 Tryd.underlying71 rfl (by simpa using sizeNb (fold1 ((T + leN (held.take n ++ [1])) * R)))
    · exact b1.trans (bx.below a1 b1.size)
end Go.Proofs.YtpnlgmkkikmglabDoor

/-
  Poly: what is written: contract. Own work.
-/
namespace Go.Proofs.YtpnlgmkkikmglabDoor
open Go.RowKit
/-- The bytes that are no piece yet. -/
def restL (xs : List Int) : List Int := xs.drop (16 * (xs.length / 16))
/-- These, in sixteen places. -/
def heldL (xs : List Int) : List Int := restL xs ++ List.replicate (16 - xs.length % 16) 0
theorem restL_len (xs : List Int) : (restL xs).length = xs.length % 16 := by simp [restL]; omega
theorem heldL_len (xs : List Int) : (heldL xs).length = 16 := by simp [heldL, restL_len]; omega
theorem heldL_take (xs : List Int) : (heldL xs).take (xs.length % 16) = restL xs := by
  rw [heldL, List.take_append_of_le_length (by rw [restL_len]; omega), List.take_of_length_le (by rw [restL_len]; omega)]
theorem IsBy.rep (n : Nat) : IsBy (List.replicate n 0) := fun x hx => by
  obtain ⟨_, rfl⟩ := List.mem_replicate.1 hx; omega
theorem heldL_by {xs : List Int} (h : IsBy xs) : IsBy (heldL xs) := (h.drop _).app (IsBy.rep _)
theorem filled_eq (xs zs : List Int) (h : xs.length % 16 + zs.length ≤ 16) : (heldL xs).take (xs.length % 16) ++ (zs ++ (heldL xs).drop (xs.length % 16 + zs.length)) = restL xs ++ (zs ++ List.replicate (16 - (xs.length % 16 + zs.length)) 0) := by
  rw [heldL_take]
  congr 2
  rw [heldL, List.drop_append, List.drop_eq_nil_of_le (by rw [restL_len]; omega), restL_len, List.nil_append, List.drop_replicate]
  congr 1
  omega
/-- Memory holds a Mac that has taken in xs. -/
def MacAt (w : World) (g R S : Nat) (xs : List Int) : Prop := Row w 78 g (macL (heldL xs) (xs.length % 16) R S (totI R xs (xs.length / 16)))
theorem fill_short {xs zs : List Int} (h : xs.length % 16 + zs.length < 16) (R S : Nat) :
    macL (restL xs ++ (zs ++ List.replicate (16 - (xs.length % 16 + zs.length)) 0)) (xs.length % 16 + zs.length) R S (totI R xs (xs.length / 16)) = macL (heldL (xs ++ zs)) ((xs ++ zs).length % 16) R S (totI R (xs ++ zs) ((xs ++ zs).length / 16)) := by
  have e1 : (xs ++ zs).length / 16 = xs.length / 16 := by rw [List.length_append]; omega
  have e2 : (xs ++ zs).length % 16 = xs.length % 16 + zs.length := by rw [List.length_append]; omega
  have e3 : restL (xs ++ zs) = restL xs ++ zs := by
    unfold restL
    rw [e1, List.drop_append_of_le_length (by omega)]
  rw [e1, e2, totI_append _ _ _ _ (by omega), heldL, e3, e2, List.append_assoc]
theorem fill_full {xs zs : List Int} (h : xs.length % 16 + zs.length = 16) (R : Nat) :
    stepI R (totI R xs (xs.length / 16)) ((restL xs ++ (zs ++ List.replicate (16 - (xs.length % 16 + zs.length)) 0)).take 16) = totI R (xs ++ zs) ((xs ++ zs).length / 16) ∧ heldL (xs ++ zs) = List.replicate 16 0 ∧ (xs ++ zs).length % 16 = 0 := by
  have e1 : (xs ++ zs).length / 16 = xs.length / 16 + 1 := by rw [List.length_append]; omega
  have e2 : (xs ++ zs).length % 16 = 0 := by rw [List.length_append]; omega
  refine ⟨?_, ?_, e2⟩
  · rw [e1]
    simp only [totI]
    rw [totI_append _ _ _ _ (by omega)]
    congr 1
    rw [List.drop_append_of_le_length (by omega), restL, h]
    simp
  · have : restL (xs ++ zs) = [] := List.eq_nil_of_length_eq_zero (by rw [restL_len, e2])
    rw [heldL, this, e2]
    rfl
def lenOf : Value → Nat
  | .slice _ n _ => n
  | _ => 0
theorem builtPart : Tryd.prog.built 76 [] = some (bv (List.replicate 16 0) ++ [Value.int .i64 0]).toArray := by kernel_rfl
theorem sizePart : (Tryd.prog.info? 76).map (·.size) = some (bv (List.replicate 16 0) ++ [Value.int .i64 0]).length := by kernel_rfl
theorem onePart : ∀ u ∈ bv (List.replicate 16 0) ++ [Value.int .i64 0], u.oneCell' = true := by
  intro u hu
  rcases List.mem_append.1 hu with h | h
  · exact bv_one _ u h
  · exact one_int _ _ u h
set_option maxRecDepth 100000 in
set_option maxHeartbeats 2000000 in
theorem write_off (g R S m c B : Nat) (xs ys : List Int) (A : Option Addr) (w : World) (hm : MacAt w g R S xs) (hR : R < 2 ^ 124) (hx : IsBy xs) (hy : IsBy ys) (hb : Bs w B A m ys) (hB : Off g m A) (hBw : B ≤ w.heap.size) (hc : m ≤ c) :
    Calls Tryd.prog 26 #[.pointer (some ⟨g, 0, none⟩), .slice A m c] w fun e w' => e = .returned (.tuple #[]) ∧ MacAt w' g R S (xs ++ ys) ∧ But g w w' := by
  have HR := hide hR
  clear hR
  go_enter Tryd.func26, Tryd.ntmps26
  go_wp2_with fail
  go_loopw [1] (fun v wr => ∃ (j c' : Nat) (A' : Option Addr), j ≤ m ∧ v = .slice A' (m - j) c' ∧ m - j ≤ c' ∧ Bs wr B A' (m - j) (ys.drop j) ∧ Off g (m - j) A' ∧ MacAt wr g R S (xs ++ ys.take j) ∧ But g w wr) (fun v _ => lenOf v)
  case atStart => exact ⟨0, c, A, Nat.zero_le _, rfl, hc, by simpa using hb, by simpa using hB, by simpa using hm, But.refl _ _⟩
  case round =>
    obtain ⟨j, c', A', hj, rfl, hc', hbs, hof, hma, hbt⟩ := hrel
    have hBr := Nat.le_trans hBw hbt.size
    by_cases hlt : j < m
    · have hdec : decide ((0 : Int) < ((m - j : Nat) : Int)) = true := by simp; omega
      have hxj : IsBy (xs ++ ys.take j) := hx.app (hy.take j)
      have hzl : ((ys.drop j).take (min (m - j) (16 - (xs ++ ys.take j).length % 16))).length = min (m - j) (16 - (xs ++ ys.take j).length % 16) := by
        rw [List.length_take, List.length_drop, hb.1]; omega
      have hzb : IsBy ((ys.drop j).take (min (m - j) (16 - (xs ++ ys.take j).length % 16))) := (hy.drop j).take _
      have hcat : (xs ++ ys.take j) ++ (ys.drop j).take (min (m - j) (16 - (xs ++ ys.take j).length % 16)) = xs ++ ys.take (j + min (m - j) (16 - (xs ++ ys.take j).length % 16)) := by
        rw [List.append_assoc, List.take_add]
      have hn : (xs ++ ys.take j).length % 16 < 16 := Nat.mod_lt _ (by decide)
      generalize hk0 : min (m - j) (16 - (xs ++ ys.take j).length % 16) = k at *
      have hkp : 0 < k := by omega
      have hkm : k ≤ m - j := by omega
      have hkn : (xs ++ ys.take j).length % 16 + k ≤ 16 := by omega
      have HK := hide hk0.symm
      have hfe := filled_eq (xs ++ ys.take j) ((ys.drop j).take k) (by rw [hzl]; exact hkn)
      have hsh : (xs ++ ys.take j).length % 16 + k < 16 → _ := fun h => fill_short (xs := xs ++ ys.take j) (zs := (ys.drop j).take k) (by rw [hzl]; exact h) R S
      have hfu : (xs ++ ys.take j).length % 16 + k = 16 → _ := fun h => fill_full (xs := xs ++ ys.take j) (zs := (ys.drop j).take k) (by rw [hzl]; exact h) R
      have hFL := fill_any g 78 ((xs ++ ys.take j).length % 16) (m - j) c' B k (heldL (xs ++ ys.take j)) (ys.drop j) (fb R ++ (nb S ++ nb (totI R (xs ++ ys.take j) ((xs ++ ys.take j).length / 16)))) A' wr hma (heldL_len _) hn hbs hof hBr (by omega) HK.out hc'
      have hhb : IsBy (restL (xs ++ ys.take j) ++ ((ys.drop j).take k ++ List.replicate (16 - ((xs ++ ys.take j).length % 16 + k)) 0)) := (hxj.drop _).app (hzb.app (IsBy.rep _))
      have hhl : (restL (xs ++ ys.take j) ++ ((ys.drop j).take k ++ List.replicate (16 - ((xs ++ ys.take j).length % 16 + k)) 0)).length = 16 := by
        rw [List.length_append, List.length_append, restL_len, hzl, List.length_replicate]; omega
      have hTl := totI_lt HR.out hxj ((xs ++ ys.take j).length / 16)
      rw [hzl] at hfe hsh hfu
      rw [hfe] at hFL
      rw [hcat] at hsh hfu
      have hbs' : ∀ w', But g wr w' → Bs w' B (subA A' c' k) (m - (j + k)) (ys.drop (j + k)) := fun w' hw => by
        have h1 := (hbs.keepOff hw hof hBr).sub (I := k) (K := m - j) hkm (Nat.le_refl _) hc'
        rw [List.drop_drop, List.take_of_length_le (by rw [List.length_drop, hb.1]; omega), Nat.sub_sub] at h1
        exact h1
      have hof' : Off g (m - (j + k)) (subA A' c' k) := by rw [← Nat.sub_sub]; exact hof.sub c' k
      have HOF := hide hof'
      clear hof'
      have HSH := hide hsh
      have HFU := hide hfu
      have hmj := Nat.sub_sub m j k
      have HMJ := hide hmj
      clear hk0 hfe hsh hfu hcat hzl hzb hmj
      generalize (xs ++ ys.take j).length % 16 = n at *
      generalize totI R (xs ++ ys.take j) ((xs ++ ys.take j).length / 16) = T at *
      generalize restL (xs ++ ys.take j) ++ ((ys.drop j).take k ++ List.replicate (16 - (n + k)) 0) = held at *
      go_wp2_with fail
      refine hFL.mono ?_
      rintro e w1 ⟨rfl, r1, b1⟩
      go_wp2_with fail
      refine (full_any g 78 (n + k) _ w1 r1 (mac16 hhl (n + k) R S T)).mono ?_
      rintro e w2 ⟨rfl, rfl⟩
      by_cases h16 : n + k = 16
      · have hbt' : (((n + k : Nat) : Int) == 16) = true := beq_iff_eq.2 (by omega)
        rw [hbt']
        obtain ⟨f1, f2, f3⟩ := HFU.out h16
        have hN := pnext_any g 16 R S T held w1 (by rw [← h16]; exact r1) hhl hhb (by decide) (by decide) HR.out hTl
        rw [h16] at r1
        rw [show held.take 16 = held from List.take_of_length_le (by omega)] at hN
        have hfin : stepI R T held = totI R (xs ++ ys.take (j + k)) ((xs ++ ys.take (j + k)).length / 16) := by
          rw [← f1, List.take_of_length_le (by omega)]
        have HFI := hide hfin
        clear hfin f1
        generalize stepI R T held = T' at *
        go_wp2_with fail
        refine hN.mono ?_
        rintro e w2 ⟨rfl, b2⟩
        have r2 : Row w2 78 g ((bv held ++ (.int .i64 16 :: (fb R ++ nb S))) ++ (nb T ++ [])) := by
          have := r1.later b2
          simpa using this
        have l22 : (bv held ++ (Value.int .i64 16 :: (fb R ++ nb S))).length = 22 := by simp [bv_len, hhl, fb, nb]
        have hsh : (bv held ++ (Value.int .i64 16 :: (fb R ++ nb S))) ++ (nb T' ++ []) = [] ++ ((bv held ++ [Value.int .i64 16]) ++ (fb R ++ (nb S ++ nb T'))) := by simp
        have l17 : (bv held ++ [Value.int .i64 16]).length = (bv (List.replicate 16 0) ++ [Value.int .i64 0]).length := by simp [bv_len, hhl]
        go_wp2_with (first
          | (with_reducible refine wl_store_part rfl 71 (.tmp 22) (.tmp 20) g 22 78 _ (nb T) [] (nb T') rfl rfl rfl r2 l22 rfl (sizeNb _) (oneNb _) ?_; intro w3 r3 o3; rw [hsh] at r3)
          | ((with_reducible refine wl_build rfl 76 [] rfl [] ?hv _ builtPart ?hk); case hv => rfl)
          | (with_reducible refine wl_store_part rfl 76 (.tmp 26) (.tmp 24) g 0 78 [] (bv held ++ [Value.int .i64 16]) (fb R ++ (nb S ++ nb T')) (bv (List.replicate 16 0) ++ [Value.int .i64 0]) rfl rfl rfl r3 rfl l17 sizePart onePart ?_; intro w4 r4 o4))
        have s2 := b2.size
        simp only [Act.put]
        go_roundw
        case rel =>
          refine ⟨j + k, c' - k, _, by omega, by rw [HMJ.out], by omega, hbs' _ ?_, HOF.out, ?_, ?_⟩
          · exact ((b1.trans (But.of b2 g)).trans (But.only o3)).trans (But.only o4)
          · unfold MacAt
            rw [f2, f3, ← HFI.out]
            simpa [macL] using r4
          · exact hbt.trans (((b1.trans (But.of b2 g)).trans (But.only o3)).trans (But.only o4))
        case measure => simp [lenOf]; omega
      · have hbf : (((n + k : Nat) : Int) == 16) = false := beq_eq_false_iff_ne.2 (by omega)
        have r2 := HSH.out (by omega)
        rw [hbf]
        go_wp2
        refine ⟨⟨j + k, c' - k, _, by omega, by rw [HMJ.out], by omega, hbs' _ b1, HOF.out, ?_, hbt.trans b1⟩, by simp [lenOf]; omega⟩
        unfold MacAt
        rw [← r2]
        exact r1
    · have : j = m := by omega
      subst this
      go_wp2
      go_end0
      refine ⟨rfl, ?_, hbt⟩
      rw [List.take_of_length_le (Nat.le_of_eq hb.1)] at hma
      exact hma
theorem write_any (g R S m c B : Nat) (xs ys : List Int) (A : Option Addr) (w : World) (hm : MacAt w g R S xs) (hR : R < 2 ^ 124) (hx : IsBy xs) (hy : IsBy ys) (hb : Bs w B A m ys) (hB : B ≤ g) (hc : m ≤ c) :
    Calls Tryd.prog 26 #[.pointer (some ⟨g, 0, none⟩), .slice A m c] w fun e w' => e = .returned (.tuple #[]) ∧ MacAt w' g R S (xs ++ ys) ∧ But g w w' :=
  write_off g R S m c B xs ys A w hm hR hx hy hb (Off.of hb hB) (Nat.le_trans hB (Nat.le_of_lt hm.lt)) hc
end Go.Proofs.YtpnlgmkkikmglabDoor

/-
  Poly: the sum of what was written: contract. Own work.
-/
namespace Go.Proofs.YtpnlgmkkikmglabDoor
open Go.RowKit
/-- A slice that reads as the n bytes xs. -/
def HasBs (w : World) (v : Value) (n : Nat) (xs : List Int) : Prop := ∃ A c, v = .slice A n c ∧ Bs w w.heap.size A n xs ∧ n ≤ c
theorem HasBs.later {w w' : World} {v : Value} {n : Nat} {xs : List Int} (h : HasBs w v n xs) (hb : Below w.heap.size w w') : HasBs w' v n xs := by
  obtain ⟨A, c, e, h1, h2⟩ := h
  exact ⟨A, c, e, h1.later hb, h2⟩
theorem HasBs.drew {w : World} {v : Value} {n : Nat} {xs : List Int} (h : HasBs w v n xs) : HasBs w.drew v n xs := h
/-- '[][]byte{x, y}'. -/
theorem st_build2 {P : Program} {o : Oper} {a : Act} {w : World} {K : Act → World → Prop} {Q : Exit → Act → World → Prop} (t : TypeId) (x y : Operand) (ho : o.op = .buildSlice t 2 #[(0, x), (1, y)]) (e : TypeId) (i : TypeInfo) (z u v : Value) (ht : P.underlying t = some (.slice e)) (hi : P.info? e = some i) (hz : i.zero = some z) (hsz : i.size = 1) (hzc : z.cells = #[z]) (hx : a.eval x = u) (hy : a.eval y = v) (hu : u.cells = #[u]) (hv : v.cells = #[v])
    (hk : K (a.put o.dst (.slice (some ⟨w.heap.size, 0, none⟩) 2 2)) (w.alloc (.cells #[u, v] e))) : o.wp P a w K Q := by
  have hr : (Array.range 2) = #[0, 1] := rfl
  have hzz : ∀ w, (zeroValue e).run P w = .ok z w := fun w => by simp [zeroValue, typeInfo, hi, hz]
  have hss : ∀ w, (sizeOf e).run P w = .ok 1 w := fun w => by simp [sizeOf, typeInfo, hi, hsz]
  have hrun : (Instr.buildSlice t 2 #[(0, u), (1, v)]).run P w = .ok (.slice (some ⟨w.heap.size, 0, none⟩) 2 2) (w.alloc (.cells #[u, v] e)) := by
    simp [Instr.buildSlice, run_underlying ht, hss, hzz, hr, hzc, Instr.fill, hu, hv, newRow]
  unfold Oper.wp execOp
  simp only [ho, List.map_toArray, List.map_cons, List.map_nil, hx, hy, hrun, Sem.run_bind, Result.andThen_ok, Sem.run_pure]
  exact hk
theorem st_arr {P : Program} {o : Oper} {a : Act} {w : World} {K : Act → World → Prop} {Q : Exit → Act → World → Prop} (t : TypeId) (x : Operand) (ho : o.op = .sliceToArrayPointer t x) (n e : Nat) (ht : P.underlying t = some (.array n e)) (A : Option Addr) (m c : Nat) (hx : a.eval x = .slice A m c) (hm : n ≤ m)
    (hk : K (a.put o.dst (.pointer A)) w) : o.wp P a w K Q := by
  unfold Oper.wp execOp
  simp only [ho, hx]
  simp [Instr.arrayAt, run_underlying ht, show ¬ m < n by omega]
  exact hk
def HasPtr (w : World) (v : Value) (n : Nat) (xs : List Int) : Prop := ∃ A, v = .pointer A ∧ Bs w w.heap.size A n xs
theorem HasPtr.later {w w' : World} {v : Value} {n : Nat} {xs : List Int} (h : HasPtr w v n xs) (hb : Below w.heap.size w w') : HasPtr w' v n xs := by
  obtain ⟨A, e, h1⟩ := h
  exact ⟨A, e, h1.later hb⟩
def HasBss (w : World) (v : Value) (n : Nat) (xss : List (List Int)) : Prop := ∃ A c, v = .slice A n c ∧ Bss w w.heap.size A n xss
theorem HasBss.later {w w' : World} {v : Value} {n : Nat} {xss : List (List Int)} (h : HasBss w v n xss) (hb : Below w.heap.size w w') : HasBss w' v n xss := by
  obtain ⟨A, c, e, h1⟩ := h
  exact ⟨A, c, e, (h1.below hb).up hb.size⟩
/-- Two numbers' bytes, joined, as an array. -/
structure Five (X Y : List Int) (bs : List Bool) (vs : List Value) (w : World) : Prop where
  a : bs.getD 0 false = true → HasBs w (vs.getD 0 undef) 8 X
  b : bs.getD 1 false = true → HasBs w (vs.getD 1 undef) 8 Y
  c : bs.getD 2 false = true → HasBss w (vs.getD 2 undef) 2 [X, Y]
  d : bs.getD 3 false = true → HasBs w (vs.getD 3 undef) 16 (X ++ Y)
  e : bs.getD 4 false = true → HasPtr w (vs.getD 4 undef) 16 (X ++ Y)
theorem Five.later {X Y : List Int} {bs : List Bool} {vs : List Value} {w w' : World} (h : Five X Y bs vs w) (hb : Below w.heap.size w w') : Five X Y bs vs w' :=
  ⟨fun h1 => (h.a h1).later hb, fun h1 => (h.b h1).later hb, fun h1 => (h.c h1).later hb, fun h1 => (h.d h1).later hb, fun h1 => (h.e h1).later hb⟩
def J7 (g T : Nat) (w0 : World) (X Y : List Int) (cur new : List Value) (bs : List Bool) (vs : List Value) (w : World) : Prop :=
  (bs.getD 5 false = false → Five X Y bs vs w) ∧ JB g T w0 5 cur new bs [] w
theorem run_loadC {P : Program} {o : Oper} {a : Act} {w : World} (ty : TypeId) (x : Operand) (g off : Nat) (M : List Value) (d : TypeDesc) (ho : o.op = .load ty x) (hx : a.eval x = .pointer (some ⟨g, off, none⟩)) (h : ∀ j v, M[j]? = some v → w.cell? ⟨g, off + j, none⟩ = some v)
    (hu : P.underlying ty = some d) (hd : (match d with | .struct _ | .array _ _ => true | _ => false) = true) (hi : (P.info? ty).map (·.size) = some M.length) : (execOp a.eval o).run P w = .ok (.value (.agg M.toArray)) w := by
  unfold execOp
  simp only [ho, hx, Instr.loadAt, Instr.sureAddr, Sem.run_bind, Sem.run_pure, Result.andThen_ok, run_loadVar_cells ty g off M d h hu hd hi]
theorem bs_cells {w : World} {B n : Nat} {b o : Nat} {xs : List Int} (h : Bs w B (some ⟨b, o, none⟩) n xs) : ∀ j v, (bv xs)[j]? = some v → w.cell? ⟨b, o + j, none⟩ = some v := by
  intro j v hv
  have := h.cells rfl j v hv
  rwa [addr_plain] at this
theorem slB_info_ : (Tryd.prog.info? 24).map (fun i => (i.zero, i.size, i.bytes)) = some (some (.slice none 0 0), 1, 24) := by kernel_rfl
theorem slB_info : ∃ i, Tryd.prog.info? 24 = some i ∧ i.zero = some (.slice none 0 0) ∧ i.size = 1 := by
  obtain ⟨i, h0, h1, h2, h3⟩ := info_parts slB_info_
  exact ⟨i, h0, h1, h2⟩
theorem putLe64_has (x : Int) (w : World) (h0 : 0 ≤ x) (h1 : x < 18446744073709551616) :
    Calls Tryd.prog 27 #[.slice none 0 0, .int .u64 x] w fun e w' => ∃ v, e = .returned v ∧ HasBs w' v 8 (lowB x 8) ∧ Below w.heap.size w w' := by
  refine (putLe64_any none 0 0 [] x w Bs.nil_ (by omega) h0 (by omega)).mono ?_
  rintro e w' ⟨A, n, c, rfl, h1, h2, h3, h4⟩
  have : n = 8 := by rw [← h1.1]; simp [lowB_length]
  subst this
  exact ⟨_, rfl, ⟨A, c, rfl, h1, h2⟩, h4⟩
theorem lowB_two (x y : Int) (Z : Nat) (hx : x = (nW Z 0 : Int)) (hy : y = (nW Z 1 : Int)) : lowB x 8 ++ lowB y 8 = lowB (Z : Int) 16 := by
  subst hx
  subst hy
  have e0 : nW Z 0 = Z % 256 ^ 8 := by show Z / 1 % _ = _; rw [Nat.div_one]
  have e1 : nW Z 1 = Z / 256 ^ 8 % 256 ^ 8 := rfl
  have h := lowB_leN (xs := lowB (nW Z 0 : Int) 8 ++ lowB (nW Z 1 : Int) 8) ((lowB_by _ _).app (lowB_by _ _))
  rw [← h, leN_append, leN_lowB, leN_lowB, List.length_append, lowB_length, lowB_length, e0, e1, Nat.mod_mod, Nat.mod_mod, ← Nat.mod_mul, ← Nat.pow_add]
  exact lowB_mod Z 16
theorem zB16 : (Tryd.prog.info? 36).map (fun i => i.zero) = some (some (.agg (bv (List.replicate 16 0)).toArray)) := by kernel_rfl
theorem size16 {xs : List Int} (h : xs.length = 16) : (Tryd.prog.info? 36).map (·.size) = some (bv xs).length := by rw [bv_len, h]; kernel_rfl
def SS6 (g g3 R S T E n : Nat) (held : List Int) (opn : Nat) (v : Value) : Prop :=
  match opn with
  | 0 => v = .agg (nb E).toArray
  | 1 => v = .agg (nb (red E)).toArray
  | 2 | 3 => v = .pointer (some ⟨g, 0, none⟩)
  | 4 => v = .pointer (some ⟨g, 19, none⟩)
  | 5 => v = .agg (nb S).toArray
  | 6 => v = .agg (nb (red E + S)).toArray
  | _ => True

def SS7 (g3 x0 x1 : Nat) (opn : Nat) (v : Value) : Prop :=
  match opn with
  | 0 => v = .pointer (some ⟨g3, 0, none⟩)
  | 1 => v = .int .u64 (x0 : Int)
  | 3 => v = .pointer (some ⟨g3, 1, none⟩)
  | 4 => v = .int .u64 (x1 : Int)
  | 9 => v = .agg (bv (lowB (x0 : Int) 8 ++ lowB (x1 : Int) 8)).toArray
  | _ => True

set_option maxRecDepth 100000 in
set_option maxHeartbeats 4000000 in
theorem sum_any (g R S : Nat) (xs : List Int) (w : World) (hm : MacAt w g R S xs) (hR : R < 2 ^ 124) (hx : IsBy xs) :
    Calls Tryd.prog 28 #[.pointer (some ⟨g, 0, none⟩)] w fun e w' => e = .returned (.agg (bv (polyL R S xs)).toArray) ∧ Below w.heap.size w w' := by
  have hTl := totI_lt hR hx (xs.length / 16)
  have hEl := endI_lt hR hx
  have hbl := heldL_by hx
  have hh := heldL_len xs
  have htk := heldL_take xs
  have hEn : Hid (∀ E, E = endI R xs → bv (polyL R S xs) = bv (lowB ((red E + S : Nat) : Int) 16)) := fun E h => by rw [h]; rfl
  have hE0 : xs.length % 16 = 0 → endI R xs = totI R xs (xs.length / 16) := fun h => by unfold endI; rw [if_pos h]
  have hE1 : xs.length % 16 ≠ 0 → endI R xs = stepI R (totI R xs (xs.length / 16)) (restL xs) := fun h => by unfold endI; rw [if_neg h]; rfl
  have HE0 := hide hE0
  have HE1 := hide hE1
  have HTK := hide htk
  have hn : xs.length % 16 < 16 := Nat.mod_lt _ (by decide)
  unfold MacAt at hm
  clear hE0 hE1 htk
  generalize polyL R S xs = out at *
  generalize xs.length % 16 = n at *
  generalize totI R xs (xs.length / 16) = T at *
  generalize endI R xs = EE at *
  generalize restL xs = rl at *
  generalize heldL xs = held at *
  go_enter Tryd.func28, Tryd.ntmps28
  go_wp2_with (first
    | (with_reducible refine wl_alloc rfl 36 _ (bv (List.replicate 16 0)) rfl zB16 rfl ?_; intro g2 w1 r1 a1 l1 b1; have hm1 := hm.later b1)
    | (with_reducible refine wl_load_part rfl 71 (.tmp 9) g 22 78 (bv held ++ (.int .i64 (n : Int) :: (fb R ++ nb S))) (nb T) [] _ rfl rfl (by have := hm1; simpa [macL] using this) (by simp [bv_len, fb, nb, hh]) Tryd.underlying71 rfl (sizeNb _) ?_)
    | (with_reducible refine wl_alloc rfl 71 _ (n3 0 0 0) rfl zeroN3 rfl ?_; intro g3 w2 r2 a2 l2 b2)
    | (with_reducible refine wl_store_row rfl 71 (.tmp 3) (.tmp 10) g3 71 _ (nb T) rfl rfl rfl r2 (sizeNb _) rfl (oneNb _) ?_; intro w3 r3 o3))
  have s1 := b1.size; have s2 := b2.size; have s3 := o3.size
  have hgl := hm.lt
  have hne3 : g ≠ g3 := by omega
  have hne2 : g2 ≠ g3 := by omega
  have hne : g3 ≠ g2 := by omega
  have hg2 : w.heap.size ≤ g2 := a1
  have hg3 : w.heap.size ≤ g3 := by omega
  have hm3 := (hm1.later b2).only o3 hne3
  have rB3 := (r1.later b2).only o3 hne2
  have B3 := (b1.trans (b2.mono (by omega))).trans (o3.below (by omega))
  clear hm hm1 r1 r2 b1 b2 o3
  refine (begun_any g 78 n _ w3 hm3 (mac16 hh n R S T)).mono ?_
  rintro e w4 ⟨rfl, rfl⟩
  by_cases hn0 : n = 0
  · have hdb : decide ((0 : Int) < (n : Int)) = false := by simp; omega
    rw [hdb]
    have hEnd : Hid (bv out = bv (lowB ((red T + S : Nat) : Int) 16)) := hEn.out T (HE0.out hn0).symm
    have hE : T < 2 ^ 132 := by omega
    have hrM := hm3
    have rB := rB3
    have BS := B3
    clear hm3 rB3 B3 hn0
    generalize hTE : T = E at r3 hEnd hE
    clear hTE
    generalize w3 = wS at *
    go_wp2_with fail
    rename_i K1 hK1
    refine wp_region_vals [1, 6, 7] (SS6 g g3 R S T E n held) (JB g3 71 wS 2 (nb E) (nb (red E + S))) (by kernel_rfl) (by kernel_rfl) (by kernel_rfl) (by kernel_rfl) (by kernel_rfl) (JB.start r3 rfl) ?obs ?he
    case obs =>
      refine ⟨?_, ?_, ?_, ?_, ?_, ?_, ?_, ?_, trivial⟩
      · exact .inl ⟨by kernel_rfl, fun L a1 w1 n' h => ⟨_, rfl, run_loadRow 71 (.tmp 3) g3 71 _ _ rfl (h.var n' 3 (by kernel_rfl)) (h.inv.1 (n'.later (by kernel_rfl))) Tryd.underlying71 rfl (sizeNb _)⟩⟩
      · refine .inr fun L a1 w1 n' h K hK => ?_
        have e0 : a1.eval (.tmp 17) = .agg (nb E).toArray := h.dep n' 0 17 (by kernel_rfl) rfl
        refine st_call 45 _ _ #[.agg (nb E).toArray] rfl Tryd.call45 ?_ (reduced_any E w1 hE) ?_
        · simp only [List.map_toArray, List.map_cons, List.map_nil, e0]
        · rintro e w3 ⟨rfl, b9⟩
          exact ⟨_, rfl, hK _ w3 rfl (h.inv.call (us := []) b9)⟩
      · exact .inl ⟨by kernel_rfl, fun L a1 w1 n' h => ⟨_, rfl, run_move (.tmp 0) rfl (h.var n' 0 (by kernel_rfl))⟩⟩
      · refine .inl ⟨by kernel_rfl, fun L a1 w1 n' h => ⟨.pointer (some ⟨g, 0, none⟩), rfl, ?_⟩⟩
        have e0 : a1.eval (.tmp 19) = _ := h.dep n' 2 19 (by kernel_rfl) rfl
        unfold execOp
        simp only [e0]
        go_simp
      · refine .inl ⟨by kernel_rfl, fun L a1 w1 n' h => ⟨.pointer (some ⟨g, 19, none⟩), rfl, ?_⟩⟩
        have e0 : a1.eval (.tmp 20) = _ := h.dep n' 3 20 (by kernel_rfl) rfl
        unfold execOp
        simp only [e0]
        go_simp
      · exact .inl ⟨by kernel_rfl, fun L a1 w1 n' h => ⟨_, rfl, run_loadP 71 (.tmp 21) g 19 78 (bv held ++ (.int .i64 (n : Int) :: fb R)) (nb S) (nb T) _ rfl (h.dep n' 4 21 (by kernel_rfl) rfl) (by have := hrM.but h.inv.2.2 hne3; simpa [macL] using this) (by simp [bv_len, fb, nb, hh]) Tryd.underlying71 rfl (sizeNb _)⟩⟩
      · refine .inr fun L a1 w1 n' h K hK => ?_
        have e0 : a1.eval (.tmp 18) = .agg (nb (red E)).toArray := h.dep n' 1 18 (by kernel_rfl) rfl
        have e1 : a1.eval (.tmp 22) = .agg (nb S).toArray := h.dep n' 5 22 (by kernel_rfl) rfl
        refine st_call 46 _ _ #[.agg (nb (red E)).toArray, .agg (nb S).toArray] rfl Tryd.call46 ?_ (plus_any (red E) S w1) ?_
        · simp only [List.map_toArray, List.map_cons, List.map_nil, e0, e1]
        · rintro e w3 ⟨rfl, b9⟩
          exact ⟨_, rfl, hK _ w3 rfl (h.inv.call (us := []) b9)⟩
      · refine .inr fun L a1 w1 n' h K hK => ?_
        have no : L.getD 7 false = false := n'.not_yet
        refine st_store_row 71 (.tmp 3) (.tmp 23) g3 71 (nb E) (nb (red E + S)) rfl (h.var n' 3 (by kernel_rfl)) (h.dep n' 6 23 (by kernel_rfl) rfl) (h.inv.1 no) (sizeNb _) rfl (oneNb _) ?_
        intro w3 r3 o3
        exact hK undef w3 trivial (h.inv.store (us := []) o3 r3 rfl)
    case he =>
      intro V w5 hV hJ
      have r5 := hJ.2.1 rfl
      have bx := hJ.2.2
      clear hV hJ
      simp only [putOps, List.setIfInBounds_toArray, List.set_cons_succ, List.set_cons_zero]
      refine hK1 _ _ ?_
      clear hK1 K1
      go_wp2_with fail
      have r2 := rB.but bx hne2
      have cx0 := nb_get (X := red E + S) (i := 0) (by decide)
      have cx1 := nb_get (X := red E + S) (i := 1) (by decide)
      have hxl0 := nW_lt (red E + S) 0
      have hxl1 := nW_lt (red E + S) 1
      have HXY := hide (lowB_two (nW (red E + S) 0 : Int) (nW (red E + S) 1 : Int) (red E + S) rfl rfl)
      clear r3
      have r3 := r5
      generalize nW (red E + S) 0 = x0 at *
      generalize nW (red E + S) 1 = x1 at *
      rename_i K2 hK2
      refine wp_region_vals [2, 5, 6, 7, 8, 10] (SS7 g3 x0 x1) (J7 g2 36 w5 (lowB (x0 : Int) 8) (lowB (x1 : Int) 8) (bv (List.replicate 16 0)) (bv (lowB (x0 : Int) 8 ++ lowB (x1 : Int) 8))) (by kernel_rfl) (by kernel_rfl) (by kernel_rfl) (by kernel_rfl) (by kernel_rfl) ⟨fun _ => ⟨fun h => absurd h (by decide), fun h => absurd h (by decide), fun h => absurd h (by decide), fun h => absurd h (by decide), fun h => absurd h (by decide)⟩, JB.start r2 rfl⟩ ?obs ?he
      case obs =>
        refine ⟨?_, ?_, ?_, ?_, ?_, ?_, ?_, ?_, ?_, ?_, ?_, trivial⟩
        · exact .inl ⟨by kernel_rfl, fun L a1 w1 n' h => ⟨_, rfl, run_index0 71 (.tmp 3) (.const (.int .i64 0)) 3 54 g3 0 rfl Tryd.underlying71 Tryd.sizeOf54 (h.var n' 3 (by kernel_rfl)) rfl (by decide)⟩⟩
        · exact .inl ⟨by kernel_rfl, fun L a1 w1 n' h => ⟨_, rfl, run_loadA 54 (.tmp 24) ⟨g3, 0, none⟩ rfl Tryd.isAgg54 (h.dep n' 0 24 (by kernel_rfl) rfl) ((r3.but h.inv.2.2.2 hne).cell cx0)⟩⟩
        · refine .inr fun L a1 w1 n' h K hK => ?_
          have e1 : a1.eval (.tmp 25) = .int .u64 (x0 : Int) := h.dep n' 1 25 (by kernel_rfl) rfl
          refine st_call 27 _ _ #[.slice none 0 0, .int .u64 (x0 : Int)] rfl Tryd.call27 ?_ (putLe64_has (x0 : Int) w1 (by omega) (by omega)) ?_
          · simp only [List.map_toArray, List.map_cons, List.map_nil, e1]; rfl
          · rintro e w3 ⟨v9, rfl, hv, b9⟩
            exact ⟨_, rfl, hK _ w3 trivial ⟨(fun h5 => let q := (h.inv.1 (n'.later (by kernel_rfl))).later b9; ⟨fun _ => hv, fun h1 => q.b h1, fun h1 => q.c h1, fun h1 => q.d h1, fun h1 => q.e h1⟩), h.inv.2.call (us := []) b9⟩⟩
        · exact .inl ⟨by kernel_rfl, fun L a1 w1 n' h => ⟨_, rfl, run_index0 71 (.tmp 3) (.const (.int .i64 1)) 3 54 g3 1 rfl Tryd.underlying71 Tryd.sizeOf54 (h.var n' 3 (by kernel_rfl)) rfl (by decide)⟩⟩
        · exact .inl ⟨by kernel_rfl, fun L a1 w1 n' h => ⟨_, rfl, run_loadA 54 (.tmp 27) ⟨g3, 1, none⟩ rfl Tryd.isAgg54 (h.dep n' 3 27 (by kernel_rfl) rfl) ((r3.but h.inv.2.2.2 hne).cell cx1)⟩⟩
        · refine .inr fun L a1 w1 n' h K hK => ?_
          have e1 : a1.eval (.tmp 28) = .int .u64 (x1 : Int) := h.dep n' 4 28 (by kernel_rfl) rfl
          refine st_call 27 _ _ #[.slice none 0 0, .int .u64 (x1 : Int)] rfl Tryd.call27 ?_ (putLe64_has (x1 : Int) w1 (by omega) (by omega)) ?_
          · simp only [List.map_toArray, List.map_cons, List.map_nil, e1]; rfl
          · rintro e w3 ⟨v9, rfl, hv, b9⟩
            exact ⟨_, rfl, hK _ w3 trivial ⟨(fun h5 => let q := (h.inv.1 (n'.later (by kernel_rfl))).later b9; ⟨fun h1 => q.a h1, fun _ => hv, fun h1 => q.c h1, fun h1 => q.d h1, fun h1 => q.e h1⟩), h.inv.2.call (us := []) b9⟩⟩
        · refine .inr fun L a1 w1 n' h K hK => ?_
          have q0 := h.inv.1 (n'.later (by kernel_rfl))
          obtain ⟨A1, c1, e1, hb1, _⟩ := q0.a (n'.dep (by kernel_rfl))
          obtain ⟨A2, c2, e2, hb2, _⟩ := q0.b (n'.dep (by kernel_rfl))
          obtain ⟨i1, hi1, hz1, hs1⟩ := slB_info
          have b9 : Below w1.heap.size w1 (w1.alloc (.cells #[.slice A1 8 c1, .slice A2 8 c2] 24)) := (Below.refl _ _).alloc (Nat.le_refl _) _
          have hl := Bss.lit w1 24 [(A1, 8, c1, lowB (x0 : Int) 8), (A2, 8, c2, lowB (x1 : Int) 8)] (by
            intro x hx
            simp only [List.mem_cons, List.not_mem_nil, or_false] at hx
            rcases hx with rfl | rfl
            · exact hb1
            · exact hb2)
          refine st_build2 61 (.tmp 26) (.tmp 29) rfl 24 i1 _ (.slice A1 8 c1) (.slice A2 8 c2) Tryd.underlying61 hi1 hz1 hs1 rfl e1 e2 rfl rfl ?_
          exact hK _ _ trivial ⟨(fun h5 => let q := (h.inv.1 (n'.later (by kernel_rfl))).later b9; ⟨fun h1 => q.a h1, fun h1 => q.b h1, fun _ => ⟨_, _, rfl, hl.up (by simp)⟩, fun h1 => q.d h1, fun h1 => q.e h1⟩), h.inv.2.call (us := []) b9⟩
        · refine .inr fun L a1 w1 n' h K hK => ?_
          have q0 := h.inv.1 (n'.later (by kernel_rfl))
          obtain ⟨A1, c1, e1, hb1⟩ := q0.c (n'.dep (by kernel_rfl))
          have e0 : a1.eval (.tmp 30) = .slice A1 2 c1 := e1
          refine st_call 20 _ _ #[.slice A1 2 c1] rfl Tryd.call20 ?_ (join_any A1 2 c1 _ w1 hb1 (by omega) (by simp [sumLen, lowB_length])) ?_
          · simp only [List.map_toArray, List.map_cons, List.map_nil, e0]
          · rintro e w3 ⟨A3, n3, c3, rfl, h1, h2, h3, b9⟩
            have hn : n3 = 16 := by rw [← h1.1]; simp [lowB_length]
            subst hn
            simp only [List.flatten_cons, List.flatten_nil, List.append_nil] at h1
            exact ⟨_, rfl, hK _ w3 trivial ⟨(fun h5 => let q := (h.inv.1 (n'.later (by kernel_rfl))).later b9; ⟨fun h1 => q.a h1, fun h1 => q.b h1, fun h1 => q.c h1, fun _ => ⟨_, _, rfl, h1, h2⟩, fun h1 => q.e h1⟩), h.inv.2.call (us := []) b9⟩⟩
        · refine .inr fun L a1 w1 n' h K hK => ?_
          have q0 := h.inv.1 (n'.later (by kernel_rfl))
          obtain ⟨A1, c1, e1, hb1, _⟩ := q0.d (n'.dep (by kernel_rfl))
          refine st_arr 36 (.tmp 31) rfl 16 5 Tryd.underlying36 A1 16 c1 e1 (Nat.le_refl _) ?_
          exact hK _ _ trivial ⟨fun h5 => ⟨fun h1 => q0.a h1, fun h1 => q0.b h1, fun h1 => q0.c h1, fun h1 => q0.d h1, fun _ => ⟨A1, rfl, hb1⟩⟩, h.inv.2⟩
        · refine .inl ⟨by kernel_rfl, fun L a1 w1 n' h => ⟨_, rfl, ?_⟩⟩
          obtain ⟨A1, e1, hb1⟩ := (h.inv.1 (n'.later (by kernel_rfl))).e (n'.dep (by kernel_rfl))
          obtain ⟨b1, o1, rfl, _, _⟩ := hb1.2 (by decide)
          exact run_loadC 36 (.tmp 32) b1 o1 (bv (lowB (x0 : Int) 8 ++ lowB (x1 : Int) 8)) _ rfl e1 (bs_cells hb1) Tryd.underlying36 rfl (size16 (by simp [lowB_length]))
        · refine .inr fun L a1 w1 n' h K hK => ?_
          have no : L.getD 10 false = false := n'.not_yet
          refine st_store_row 36 (.tmp 2) (.tmp 33) g2 36 (bv (List.replicate 16 0)) (bv (lowB (x0 : Int) 8 ++ lowB (x1 : Int) 8)) rfl (h.var n' 2 (by kernel_rfl)) (h.dep n' 9 33 (by kernel_rfl) rfl) (h.inv.2.1 no) (size16 (by simp [lowB_length])) (by simp [bv_len, lowB_length]) (bv_one _) ?_
          intro w3 r3 o3
          exact hK undef w3 trivial ⟨fun h5 => absurd (show true = false from h5) (by decide), h.inv.2.store (us := []) o3 r3 rfl⟩
      case he =>
        intro V w6 hV hJ
        have r6 := hJ.2.2.1 rfl
        have by6 := hJ.2.2.2
        clear hV hJ
        simp only [putOps, List.setIfInBounds_toArray, List.set_cons_succ, List.set_cons_zero]
        refine hK2 _ _ ?_
        go_wp2
        rw [HXY.out] at r6
        have sx := bx.size
        refine bodyPost_ret (v := .agg (bv (lowB ((red E + S : Nat) : Int) 16)).toArray) ?_ rfl ⟨by rw [hEnd.out], ?_⟩
        · exact results_cell_row Tryd.results28 _ _ g2 36 _ (0, 0) _ rfl r6 Tryd.underlying36 rfl (by simpa using size16 (lowB_length _ _))
        · exact (BS.trans (bx.below hg3 BS.size)).trans (by6.below hg2 (by omega))
  · have hdb : decide ((0 : Int) < (n : Int)) = true := by simp; omega
    rw [hdb]
    have hN := pnext_any g n R S T held w3 hm3 hh hbl (by omega) (by omega) hR hTl
    have hEnd := hEn.out _ (HE1.out hn0).symm
    rw [HTK.out] at hN
    rw [HE1.out hn0] at hEl
    have HEnd := hide hEnd
    clear hEnd HE0 HE1 hEn HTK
    generalize stepI R T rl = E at *
    go_wp2_with fail
    refine hN.mono ?_
    rintro e w4 ⟨rfl, b4⟩
    have r3' := r3.later b4
    go_wp2_with (first
      | (with_reducible refine wl_store_row rfl 71 (.tmp 3) (.tmp 16) g3 71 _ (nb E) rfl rfl rfl r3' (sizeNb _) rfl (oneNb _) ?_; intro wS rS oS))
    have s4 := b4.size; have s5 := oS.size
    have hEnd : Hid (bv out = bv (lowB ((red E + S : Nat) : Int) 16)) := HEnd.out
    have hE : E < 2 ^ 132 := by omega
    have hrM := (hm3.later b4).only oS hne3
    have rB := (rB3.later b4).only oS hne2
    have BS := (B3.trans (b4.mono (by omega))).trans (oS.below (by omega))
    clear hm3 rB3 B3 hn0 r3 r3' oS b4
    have r3 := rS
    clear rS
    rename_i K1 hK1
    refine wp_region_vals [1, 6, 7] (SS6 g g3 R S T E n held) (JB g3 71 wS 2 (nb E) (nb (red E + S))) (by kernel_rfl) (by kernel_rfl) (by kernel_rfl) (by kernel_rfl) (by kernel_rfl) (JB.start r3 rfl) ?obs ?he
    case obs =>
      refine ⟨?_, ?_, ?_, ?_, ?_, ?_, ?_, ?_, trivial⟩
      · exact .inl ⟨by kernel_rfl, fun L a1 w1 n' h => ⟨_, rfl, run_loadRow 71 (.tmp 3) g3 71 _ _ rfl (h.var n' 3 (by kernel_rfl)) (h.inv.1 (n'.later (by kernel_rfl))) Tryd.underlying71 rfl (sizeNb _)⟩⟩
      · refine .inr fun L a1 w1 n' h K hK => ?_
        have e0 : a1.eval (.tmp 17) = .agg (nb E).toArray := h.dep n' 0 17 (by kernel_rfl) rfl
        refine st_call 45 _ _ #[.agg (nb E).toArray] rfl Tryd.call45 ?_ (reduced_any E w1 hE) ?_
        · simp only [List.map_toArray, List.map_cons, List.map_nil, e0]
        · rintro e w3 ⟨rfl, b9⟩
          exact ⟨_, rfl, hK _ w3 rfl (h.inv.call (us := []) b9)⟩
      · exact .inl ⟨by kernel_rfl, fun L a1 w1 n' h => ⟨_, rfl, run_move (.tmp 0) rfl (h.var n' 0 (by kernel_rfl))⟩⟩
      · refine .inl ⟨by kernel_rfl, fun L a1 w1 n' h => ⟨.pointer (some ⟨g, 0, none⟩), rfl, ?_⟩⟩
        have e0 : a1.eval (.tmp 19) = _ := h.dep n' 2 19 (by kernel_rfl) rfl
        unfold execOp
        simp only [e0]
        go_simp
      · refine .inl ⟨by kernel_rfl, fun L a1 w1 n' h => ⟨.pointer (some ⟨g, 19, none⟩), rfl, ?_⟩⟩
        have e0 : a1.eval (.tmp 20) = _ := h.dep n' 3 20 (by kernel_rfl) rfl
        unfold execOp
        simp only [e0]
        go_simp
      · exact .inl ⟨by kernel_rfl, fun L a1 w1 n' h => ⟨_, rfl, run_loadP 71 (.tmp 21) g 19 78 (bv held ++ (.int .i64 (n : Int) :: fb R)) (nb S) (nb T) _ rfl (h.dep n' 4 21 (by kernel_rfl) rfl) (by have := hrM.but h.inv.2.2 hne3; simpa [macL] using this) (by simp [bv_len, fb, nb, hh]) Tryd.underlying71 rfl (sizeNb _)⟩⟩
      · refine .inr fun L a1 w1 n' h K hK => ?_
        have e0 : a1.eval (.tmp 18) = .agg (nb (red E)).toArray := h.dep n' 1 18 (by kernel_rfl) rfl
        have e1 : a1.eval (.tmp 22) = .agg (nb S).toArray := h.dep n' 5 22 (by kernel_rfl) rfl
        refine st_call 46 _ _ #[.agg (nb (red E)).toArray, .agg (nb S).toArray] rfl Tryd.call46 ?_ (plus_any (red E) S w1) ?_
        · simp only [List.map_toArray, List.map_cons, List.map_nil, e0, e1]
        · rintro e w3 ⟨rfl, b9⟩
          exact ⟨_, rfl, hK _ w3 rfl (h.inv.call (us := []) b9)⟩
      · refine .inr fun L a1 w1 n' h K hK => ?_
        have no : L.getD 7 false = false := n'.not_yet
        refine st_store_row 71 (.tmp 3) (.tmp 23) g3 71 (nb E) (nb (red E + S)) rfl (h.var n' 3 (by kernel_rfl)) (h.dep n' 6 23 (by kernel_rfl) rfl) (h.inv.1 no) (sizeNb _) rfl (oneNb _) ?_
        intro w3 r3 o3
        exact hK undef w3 trivial (h.inv.store (us := []) o3 r3 rfl)
    case he =>
      intro V w5 hV hJ
      have r5 := hJ.2.1 rfl
      have bx := hJ.2.2
      clear hV hJ
      simp only [putOps, List.setIfInBounds_toArray, List.set_cons_succ, List.set_cons_zero]
      refine hK1 _ _ ?_
      clear hK1 K1
      go_wp2_with fail
      have r2 := rB.but bx hne2
      have cx0 := nb_get (X := red E + S) (i := 0) (by decide)
      have cx1 := nb_get (X := red E + S) (i := 1) (by decide)
      have hxl0 := nW_lt (red E + S) 0
      have hxl1 := nW_lt (red E + S) 1
      have HXY := hide (lowB_two (nW (red E + S) 0 : Int) (nW (red E + S) 1 : Int) (red E + S) rfl rfl)
      clear r3
      have r3 := r5
      generalize nW (red E + S) 0 = x0 at *
      generalize nW (red E + S) 1 = x1 at *
      rename_i K2 hK2
      refine wp_region_vals [2, 5, 6, 7, 8, 10] (SS7 g3 x0 x1) (J7 g2 36 w5 (lowB (x0 : Int) 8) (lowB (x1 : Int) 8) (bv (List.replicate 16 0)) (bv (lowB (x0 : Int) 8 ++ lowB (x1 : Int) 8))) (by kernel_rfl) (by kernel_rfl) (by kernel_rfl) (by kernel_rfl) (by kernel_rfl) ⟨fun _ => ⟨fun h => absurd h (by decide), fun h => absurd h (by decide), fun h => absurd h (by decide), fun h => absurd h (by decide), fun h => absurd h (by decide)⟩, JB.start r2 rfl⟩ ?obs ?he
      case obs =>
        refine ⟨?_, ?_, ?_, ?_, ?_, ?_, ?_, ?_, ?_, ?_, ?_, trivial⟩
        · exact .inl ⟨by kernel_rfl, fun L a1 w1 n' h => ⟨_, rfl, run_index0 71 (.tmp 3) (.const (.int .i64 0)) 3 54 g3 0 rfl Tryd.underlying71 Tryd.sizeOf54 (h.var n' 3 (by kernel_rfl)) rfl (by decide)⟩⟩
        · exact .inl ⟨by kernel_rfl, fun L a1 w1 n' h => ⟨_, rfl, run_loadA 54 (.tmp 24) ⟨g3, 0, none⟩ rfl Tryd.isAgg54 (h.dep n' 0 24 (by kernel_rfl) rfl) ((r3.but h.inv.2.2.2 hne).cell cx0)⟩⟩
        · refine .inr fun L a1 w1 n' h K hK => ?_
          have e1 : a1.eval (.tmp 25) = .int .u64 (x0 : Int) := h.dep n' 1 25 (by kernel_rfl) rfl
          refine st_call 27 _ _ #[.slice none 0 0, .int .u64 (x0 : Int)] rfl Tryd.call27 ?_ (putLe64_has (x0 : Int) w1 (by omega) (by omega)) ?_
          · simp only [List.map_toArray, List.map_cons, List.map_nil, e1]; rfl
          · rintro e w3 ⟨v9, rfl, hv, b9⟩
            exact ⟨_, rfl, hK _ w3 trivial ⟨(fun h5 => let q := (h.inv.1 (n'.later (by kernel_rfl))).later b9; ⟨fun _ => hv, fun h1 => q.b h1, fun h1 => q.c h1, fun h1 => q.d h1, fun h1 => q.e h1⟩), h.inv.2.call (us := []) b9⟩⟩
        · exact .inl ⟨by kernel_rfl, fun L a1 w1 n' h => ⟨_, rfl, run_index0 71 (.tmp 3) (.const (.int .i64 1)) 3 54 g3 1 rfl Tryd.underlying71 Tryd.sizeOf54 (h.var n' 3 (by kernel_rfl)) rfl (by decide)⟩⟩
        · exact .inl ⟨by kernel_rfl, fun L a1 w1 n' h => ⟨_, rfl, run_loadA 54 (.tmp 27) ⟨g3, 1, none⟩ rfl Tryd.isAgg54 (h.dep n' 3 27 (by kernel_rfl) rfl) ((r3.but h.inv.2.2.2 hne).cell cx1)⟩⟩
        · refine .inr fun L a1 w1 n' h K hK => ?_
          have e1 : a1.eval (.tmp 28) = .int .u64 (x1 : Int) := h.dep n' 4 28 (by kernel_rfl) rfl
          refine st_call 27 _ _ #[.slice none 0 0, .int .u64 (x1 : Int)] rfl Tryd.call27 ?_ (putLe64_has (x1 : Int) w1 (by omega) (by omega)) ?_
          · simp only [List.map_toArray, List.map_cons, List.map_nil, e1]; rfl
          · rintro e w3 ⟨v9, rfl, hv, b9⟩
            exact ⟨_, rfl, hK _ w3 trivial ⟨(fun h5 => let q := (h.inv.1 (n'.later (by kernel_rfl))).later b9; ⟨fun h1 => q.a h1, fun _ => hv, fun h1 => q.c h1, fun h1 => q.d h1, fun h1 => q.e h1⟩), h.inv.2.call (us := []) b9⟩⟩
        · refine .inr fun L a1 w1 n' h K hK => ?_
          have q0 := h.inv.1 (n'.later (by kernel_rfl))
          obtain ⟨A1, c1, e1, hb1, _⟩ := q0.a (n'.dep (by kernel_rfl))
          obtain ⟨A2, c2, e2, hb2, _⟩ := q0.b (n'.dep (by kernel_rfl))
          obtain ⟨i1, hi1, hz1, hs1⟩ := slB_info
          have b9 : Below w1.heap.size w1 (w1.alloc (.cells #[.slice A1 8 c1, .slice A2 8 c2] 24)) := (Below.refl _ _).alloc (Nat.le_refl _) _
          have hl := Bss.lit w1 24 [(A1, 8, c1, lowB (x0 : Int) 8), (A2, 8, c2, lowB (x1 : Int) 8)] (by
            intro x hx
            simp only [List.mem_cons, List.not_mem_nil, or_false] at hx
            rcases hx with rfl | rfl
            · exact hb1
            · exact hb2)
          refine st_build2 61 (.tmp 26) (.tmp 29) rfl 24 i1 _ (.slice A1 8 c1) (.slice A2 8 c2) Tryd.underlying61 hi1 hz1 hs1 rfl e1 e2 rfl rfl ?_
          exact hK _ _ trivial ⟨(fun h5 => let q := (h.inv.1 (n'.later (by kernel_rfl))).later b9; ⟨fun h1 => q.a h1, fun h1 => q.b h1, fun _ => ⟨_, _, rfl, hl.up (by simp)⟩, fun h1 => q.d h1, fun h1 => q.e h1⟩), h.inv.2.call (us := []) b9⟩
        · refine .inr fun L a1 w1 n' h K hK => ?_
          have q0 := h.inv.1 (n'.later (by kernel_rfl))
          obtain ⟨A1, c1, e1, hb1⟩ := q0.c (n'.dep (by kernel_rfl))
          have e0 : a1.eval (.tmp 30) = .slice A1 2 c1 := e1
          refine st_call 20 _ _ #[.slice A1 2 c1] rfl Tryd.call20 ?_ (join_any A1 2 c1 _ w1 hb1 (by omega) (by simp [sumLen, lowB_length])) ?_
          · simp only [List.map_toArray, List.map_cons, List.map_nil, e0]
          · rintro e w3 ⟨A3, n3, c3, rfl, h1, h2, h3, b9⟩
            have hn : n3 = 16 := by rw [← h1.1]; simp [lowB_length]
            subst hn
            simp only [List.flatten_cons, List.flatten_nil, List.append_nil] at h1
            exact ⟨_, rfl, hK _ w3 trivial ⟨(fun h5 => let q := (h.inv.1 (n'.later (by kernel_rfl))).later b9; ⟨fun h1 => q.a h1, fun h1 => q.b h1, fun h1 => q.c h1, fun _ => ⟨_, _, rfl, h1, h2⟩, fun h1 => q.e h1⟩), h.inv.2.call (us := []) b9⟩⟩
        · refine .inr fun L a1 w1 n' h K hK => ?_
          have q0 := h.inv.1 (n'.later (by kernel_rfl))
          obtain ⟨A1, c1, e1, hb1, _⟩ := q0.d (n'.dep (by kernel_rfl))
          refine st_arr 36 (.tmp 31) rfl 16 5 Tryd.underlying36 A1 16 c1 e1 (Nat.le_refl _) ?_
          exact hK _ _ trivial ⟨fun h5 => ⟨fun h1 => q0.a h1, fun h1 => q0.b h1, fun h1 => q0.c h1, fun h1 => q0.d h1, fun _ => ⟨A1, rfl, hb1⟩⟩, h.inv.2⟩
        · refine .inl ⟨by kernel_rfl, fun L a1 w1 n' h => ⟨_, rfl, ?_⟩⟩
          obtain ⟨A1, e1, hb1⟩ := (h.inv.1 (n'.later (by kernel_rfl))).e (n'.dep (by kernel_rfl))
          obtain ⟨b1, o1, rfl, _, _⟩ := hb1.2 (by decide)
          exact run_loadC 36 (.tmp 32) b1 o1 (bv (lowB (x0 : Int) 8 ++ lowB (x1 : Int) 8)) _ rfl e1 (bs_cells hb1) Tryd.underlying36 rfl (size16 (by simp [lowB_length]))
        · refine .inr fun L a1 w1 n' h K hK => ?_
          have no : L.getD 10 false = false := n'.not_yet
          refine st_store_row 36 (.tmp 2) (.tmp 33) g2 36 (bv (List.replicate 16 0)) (bv (lowB (x0 : Int) 8 ++ lowB (x1 : Int) 8)) rfl (h.var n' 2 (by kernel_rfl)) (h.dep n' 9 33 (by kernel_rfl) rfl) (h.inv.2.1 no) (size16 (by simp [lowB_length])) (by simp [bv_len, lowB_length]) (bv_one _) ?_
          intro w3 r3 o3
          exact hK undef w3 trivial ⟨fun h5 => absurd (show true = false from h5) (by decide), h.inv.2.store (us := []) o3 r3 rfl⟩
      case he =>
        intro V w6 hV hJ
        have r6 := hJ.2.2.1 rfl
        have by6 := hJ.2.2.2
        clear hV hJ
        simp only [putOps, List.setIfInBounds_toArray, List.set_cons_succ, List.set_cons_zero]
        refine hK2 _ _ ?_
        go_wp2
        rw [HXY.out] at r6
        have sx := bx.size
        refine bodyPost_ret (v := .agg (bv (lowB ((red E + S : Nat) : Int) 16)).toArray) ?_ rfl ⟨by rw [hEnd.out], ?_⟩
        · exact results_cell_row Tryd.results28 _ _ g2 36 _ (0, 0) _ rfl r6 Tryd.underlying36 rfl (by simpa using size16 (lowB_length _ _))
        · exact (BS.trans (bx.below hg3 BS.size)).trans (by6.below hg2 (by omega))
end Go.Proofs.YtpnlgmkkikmglabDoor

/-
  Poly: a sum of nothing; the sum of a text: contracts. Own work.
-/
namespace Go.Proofs.YtpnlgmkkikmglabDoor
open Go.RowKit
/-- Of the number of the key's first half, the bits that count. -/
def clN (X : Nat) : Nat := (nW X 0 &&& 1152921487695413247) + 18446744073709551616 * (nW X 1 &&& 1152921487695413244)
theorem and_lt60 (x m : Nat) (hm : m < 1152921504606846976) : x &&& m < 1152921504606846976 := Nat.lt_of_le_of_lt Nat.and_le_right hm
theorem clN_lt (X : Nat) : clN X < 2 ^ 124 := by
  unfold clN
  have h1 := and_lt60 (nW X 0) 1152921487695413247 (by decide)
  have h2 := and_lt60 (nW X 1) 1152921487695413244 (by decide)
  omega
theorem fb_clN (X : Nat) : uL [nW X 0 &&& 1152921487695413247, nW X 1 &&& 1152921487695413244] = fb (clN X) := by
  have h1 := and_lt60 (nW X 0) 1152921487695413247 (by decide)
  have h2 := and_lt60 (nW X 1) 1152921487695413244 (by decide)
  have e0 : nW (clN X) 0 = nW X 0 &&& 1152921487695413247 := by
    show clN X / 1 % 18446744073709551616 = _
    rw [Nat.div_one]
    unfold clN
    omega
  have e1 : nW (clN X) 1 = nW X 1 &&& 1152921487695413244 := by
    show clN X / 18446744073709551616 % 18446744073709551616 = _
    unfold clN
    omega
  simp only [uL, fb, e0, e1, List.map_cons, List.map_nil]
theorem builtF (a b : Nat) : Tryd.prog.built 74 [(0, .int .u64 (a : Int)), (1, .int .u64 (b : Int))] = some (uL [a, b]).toArray := by kernel_rfl
theorem builtMac (R S : Nat) : Tryd.prog.built 78 [(1, .agg (fb R).toArray), (2, .agg (nb S).toArray)] = some (macL (List.replicate 16 0) 0 R S 0).toArray := by kernel_rfl
theorem size32 {xs : List Int} (h : xs.length = 32) : (Tryd.prog.info? 22).map (·.size) = some (bv xs).length := by rw [bv_len, h]; kernel_rfl
theorem zero32 : (Tryd.prog.info? 22).map (fun i => i.zero) = some (some (.agg (bv (List.replicate 32 0)).toArray)) := by kernel_rfl
def JNew (w0 : World) (R S : Nat) (bs : List Bool) (vs : List Value) (w : World) : Prop :=
  Below w0.heap.size w0 w ∧ (bs.getD 1 false = true → ∃ g, vs.getD 1 undef = .pointer (some ⟨g, 0, none⟩) ∧ w0.heap.size ≤ g ∧ Row w 78 g (macL (List.replicate 16 0) 0 R S 0)) ∧
    (bs.getD 2 false = true → ∃ g, vs.getD 2 undef = .pointer (some ⟨g, 0, none⟩) ∧ w0.heap.size ≤ g ∧ Row w 78 g (macL (List.replicate 16 0) 0 R S 0))
def SNew (g1 g3 x0 x1 a0 a1' R S : Nat) (opn : Nat) (v : Value) : Prop :=
  match opn with
  | 0 => v = .pointer (some ⟨g3, 0, none⟩)
  | 1 => v = .int .u64 (x0 : Int)
  | 2 => v = .int .u64 (a0 : Int)
  | 3 => v = .pointer (some ⟨g3, 1, none⟩)
  | 4 => v = .int .u64 (x1 : Int)
  | 5 => v = .int .u64 (a1' : Int)
  | 6 => v = .agg (uL [a0, a1']).toArray
  | 7 => v = .slice (some ⟨g1, 16, none⟩) 16 16
  | 8 => v = .agg (nb S).toArray
  | 9 => v = .agg (macL (List.replicate 16 0) 0 R S 0).toArray
  | _ => True

theorem row_bs_at {w : World} {t g B off n : Nat} {ks : List Int} (h : Row w t g (bv ks)) (hn : off + n ≤ ks.length) (hB : g < B) : Bs w B (some ⟨g, off, none⟩) n ((ks.drop off).take n) := by
  have e : bv ks = bv (ks.take off) ++ (bv ((ks.drop off).take n) ++ bv ((ks.drop off).drop n)) := by
    rw [← bv_app, List.take_append_drop, ← bv_app, List.take_append_drop]
  rw [e] at h
  have := h.bs (B := B) (off := off) (by rw [bv_len, List.length_take]; omega) hB
  rwa [show ((ks.drop off).take n).length = n by rw [List.length_take, List.length_drop]; omega] at this
set_option maxRecDepth 100000 in
set_option maxHeartbeats 2000000 in
theorem pnew_any (ks : List Int) (w : World) (hk : ks.length = 32) (hb : IsBy ks) :
    Calls Tryd.prog 24 #[.agg (bv ks).toArray] w fun e w' => ∃ g, e = .returned (.pointer (some ⟨g, 0, none⟩)) ∧ w.heap.size ≤ g ∧ MacAt w' g (clN (leN (ks.take 16))) (leN (ks.drop 16)) [] ∧ Below w.heap.size w w' := by
  have h16 : (ks.take 16).length = 16 := by rw [List.length_take]; omega
  have hF1 : ∀ A m c w, Bs w w.heap.size A m (ks.take 16) → m ≤ 1000000 → _ := fun A m c w h1 h2 => fromBytes_any A m c (ks.take 16) w h1 (hb.take 16) h2
  have hF2 : ∀ A m c w, Bs w w.heap.size A m (ks.drop 16) → m ≤ 1000000 → _ := fun A m c w h1 h2 => fromBytes_any A m c (ks.drop 16) w h1 (hb.drop 16) h2
  rw [n3_nb (hb.take 16)] at hF1
  rw [n3_nb (hb.drop 16)] at hF2
  have hFB : ∀ A m c w, Bs w w.heap.size A m (ks.drop 16) → _ := fun A m c w h1 => hF2 A m c w h1 (by have := h1.1; rw [List.length_drop, hk] at this; omega)
  have hRf := fb_clN (leN (ks.take 16))
  have cx0 := nb_get (X := leN (ks.take 16)) (i := 0) (by decide)
  have cx1 := nb_get (X := leN (ks.take 16)) (i := 1) (by decide)
  have hA0 := bits_and_u64_nat (nW (leN (ks.take 16)) 0) 1152921487695413247 (nW_lt _ _) (by decide)
  have hA1 := bits_and_u64_nat (nW (leN (ks.take 16)) 1) 1152921487695413244 (nW_lt _ _) (by decide)
  have h00 : ∀ (g : Nat) (w' : World) (R S : Nat), Row w' 78 g (macL (List.replicate 16 0) 0 R S 0) → MacAt w' g R S [] := fun g w' R S h => h
  have hl0 := nW_lt (leN (ks.take 16)) 0
  have hl1' := nW_lt (leN (ks.take 16)) 1
  generalize clN (leN (ks.take 16)) = R at *
  generalize leN (ks.drop 16) = S at *
  generalize nW (leN (ks.take 16)) 0 &&& 1152921487695413247 = a0 at *
  generalize nW (leN (ks.take 16)) 1 &&& 1152921487695413244 = a1' at *
  generalize nW (leN (ks.take 16)) 0 = x0 at *
  generalize nW (leN (ks.take 16)) 1 = x1 at *
  generalize leN (ks.take 16) = X at *
  have HK := hide hk
  clear hk h16 hF2
  go_enter Tryd.func24, Tryd.ntmps24
  go_wp2_with (first
    | (with_reducible refine wl_box rfl 22 (.tmp 0) _ (bv ks) rfl rfl rfl ?_; intro g1 w1 r1 p1 l1 b1))
  have hb1 : Bs w1 w1.heap.size (some ⟨g1, 0, none⟩) 16 (ks.take 16) := by
    have := row_bs_at (off := 0) (n := 16) (B := w1.heap.size) r1 (by rw [HK.out]; decide) r1.lt
    rwa [List.drop_zero] at this
  refine (hF1 _ 16 32 w1 hb1 (by decide)).mono ?_
  rintro e w2 ⟨rfl, b2⟩
  go_wp2_with (first
    | (with_reducible refine wl_alloc rfl 71 _ (n3 0 0 0) rfl zeroN3 rfl ?_; intro g3 w3 r3 p3 l3 b3)
    | (with_reducible refine wl_store_row rfl 71 (.tmp 3) (.tmp 5) g3 71 _ (nb X) rfl rfl rfl r3 (sizeNb _) rfl (oneNb _) ?_; intro w4 r4 o4))
  have s1 := b1.size; have s2 := b2.size; have s3 := b3.size; have s4 := o4.size
  have B4 := ((b1.trans (b2.mono (by omega))).trans (b3.mono (by omega))).trans (o4.below (by omega))
  have r1' := ((r1.later b2).later b3).only o4 (by have := r1.lt; omega)
  have HB2 : ∀ w', Row w' 22 g1 (bv ks) → Bs w' w'.heap.size (some ⟨g1, 16, none⟩) 16 (ks.drop 16) := fun w' h => by
    have := row_bs_at (off := 16) (n := 16) (B := w'.heap.size) h (by rw [HK.out]; decide) h.lt
    rwa [List.take_of_length_le (by rw [List.length_drop, HK.out]; decide)] at this
  clear r1 r3 b1 b2 b3 o4 hb1 hF1
  have r1 := r1'
  have r3 := r4
  have hl1 := r1.lt
  have hl3 := r3.lt
  rename_i K1 hK1
  refine wp_region_vals [8, 10, 11] (SNew g1 g3 x0 x1 a0 a1' R S) (JNew w4 R S) (by kernel_rfl) (by kernel_rfl) (by kernel_rfl) (by kernel_rfl) (by kernel_rfl) ⟨(Below.refl _ _).drew, fun h => absurd h (by decide), fun h => absurd h (by decide)⟩ ?obs ?he
  case obs =>
    refine ⟨?_, ?_, ?_, ?_, ?_, ?_, ?_, ?_, ?_, ?_, ?_, ?_, trivial⟩
    · exact .inl ⟨by kernel_rfl, fun L a1 w1 n' h => ⟨_, rfl, run_index0 71 (.tmp 3) (.const (.int .i64 0)) 3 54 g3 0 rfl Tryd.underlying71 Tryd.sizeOf54 (h.var n' 3 (by kernel_rfl)) rfl (by decide)⟩⟩
    · exact .inl ⟨by kernel_rfl, fun L a1 w1 n' h => ⟨_, rfl, run_loadA 54 (.tmp 6) ⟨g3, 0, none⟩ rfl Tryd.isAgg54 (h.dep n' 0 6 (by kernel_rfl) rfl) ((r3.below h.inv.1 hl3).cell cx0)⟩⟩
    · refine .inl ⟨by kernel_rfl, fun L a1 w1 n' h => ⟨.int .u64 (a0 : Int), rfl, ?_⟩⟩
      have e0 : a1.eval (.tmp 7) = _ := h.dep n' 1 7 (by kernel_rfl) rfl
      unfold execOp
      simp only [e0]
      go_simp
      exact hA0
    · exact .inl ⟨by kernel_rfl, fun L a1 w1 n' h => ⟨_, rfl, run_index0 71 (.tmp 3) (.const (.int .i64 1)) 3 54 g3 1 rfl Tryd.underlying71 Tryd.sizeOf54 (h.var n' 3 (by kernel_rfl)) rfl (by decide)⟩⟩
    · exact .inl ⟨by kernel_rfl, fun L a1 w1 n' h => ⟨_, rfl, run_loadA 54 (.tmp 9) ⟨g3, 1, none⟩ rfl Tryd.isAgg54 (h.dep n' 3 9 (by kernel_rfl) rfl) ((r3.below h.inv.1 hl3).cell cx1)⟩⟩
    · refine .inl ⟨by kernel_rfl, fun L a1 w1 n' h => ⟨.int .u64 (a1' : Int), rfl, ?_⟩⟩
      have e0 : a1.eval (.tmp 10) = _ := h.dep n' 4 10 (by kernel_rfl) rfl
      unfold execOp
      simp only [e0]
      go_simp
      exact hA1
    · exact .inl ⟨by kernel_rfl, fun L a1 w1 n' h => ⟨_, rfl, run_buildX 74 [(0, .tmp 8), (1, .tmp 11)] rfl [(0, .int .u64 (a0 : Int)), (1, .int .u64 (a1' : Int))] (by
        have e0 : a1.eval (.tmp 8) = _ := h.dep n' 2 8 (by kernel_rfl) rfl
        have e1 : a1.eval (.tmp 11) = _ := h.dep n' 5 11 (by kernel_rfl) rfl
        simp only [List.map_cons, List.map_nil, e0, e1]) _ (builtF a0 a1')⟩⟩
    · exact .inl ⟨by kernel_rfl, fun L a1 w1 n' h => ⟨_, rfl, run_sliceLo 22 (.tmp 1) (.const (.int .i64 16)) 32 5 g1 16 rfl Tryd.underlying22 Tryd.sizeOf5 (h.var n' 1 (by kernel_rfl)) rfl (by decide)⟩⟩
    · refine .inr fun L a1 w1 n' h K hK => ?_
      have e0 : a1.eval (.tmp 13) = .slice (some ⟨g1, 16, none⟩) 16 16 := h.dep n' 7 13 (by kernel_rfl) rfl
      refine st_call 39 _ _ #[.slice (some ⟨g1, 16, none⟩) 16 16] rfl Tryd.call39 ?_ (hFB (some ⟨g1, 16, none⟩) 16 16 w1 (HB2 w1 (r1.below h.inv.1 hl1))) ?_
      · simp only [List.map_toArray, List.map_cons, List.map_nil, e0]
      · rintro e w3 ⟨rfl, b9⟩
        exact ⟨_, rfl, hK _ w3 rfl ⟨h.inv.1.trans (b9.mono h.inv.1.size), fun h1 => let ⟨g, e, k1, k2⟩ := h.inv.2.1 h1; ⟨g, e, k1, k2.later b9⟩, fun h1 => let ⟨g, e, k1, k2⟩ := h.inv.2.2 h1; ⟨g, e, k1, k2.later b9⟩⟩⟩
    · exact .inl ⟨by kernel_rfl, fun L a1 w1 n' h => ⟨_, rfl, run_buildX 78 [(1, .tmp 12), (2, .tmp 14)] rfl [(1, .agg (fb R).toArray), (2, .agg (nb S).toArray)] (by
        have e0 : a1.eval (.tmp 12) = _ := h.dep n' 6 12 (by kernel_rfl) rfl
        have e1 : a1.eval (.tmp 14) = _ := h.dep n' 8 14 (by kernel_rfl) rfl
        simp only [List.map_cons, List.map_nil, e0, e1, hRf]) _ (builtMac R S)⟩⟩
    · refine .inr fun L a1 w1 n' h K hK => ?_
      refine st_box 78 (.tmp 15) _ (macL (List.replicate 16 0) 0 R S 0) rfl (h.dep n' 9 15 (by kernel_rfl) rfl) rfl ?_
      intro g9 w3 r9 l9 m9 b9
      exact hK _ w3 trivial ⟨h.inv.1.trans (b9.mono h.inv.1.size), fun _ => ⟨g9, rfl, Nat.le_trans h.inv.1.size l9, r9⟩, fun h1 => let ⟨g, e, k1, k2⟩ := h.inv.2.2 h1; ⟨g, e, k1, k2.later b9⟩⟩
    · refine .inr fun L a1 w1 n' h K hK => ?_
      obtain ⟨g9, e9, l9, r9⟩ := h.inv.2.1 (n'.dep (by kernel_rfl))
      refine st_assign (.tmp 16) _ rfl e9 ?_
      exact hK _ _ trivial ⟨h.inv.1, h.inv.2.1, fun _ => ⟨g9, rfl, l9, r9⟩⟩
  case he =>
    intro V w5 hV hJ
    obtain ⟨hJ1, _, hJ2⟩ := hJ
    obtain ⟨g9, e9, l9, r9⟩ := hJ2 rfl
    have h11 : V 11 = .pointer (some ⟨g9, 0, none⟩) := e9
    clear hV hJ2
    simp only [putOps, List.setIfInBounds_toArray, List.set_cons_succ, List.set_cons_zero]
    refine hK1 _ _ ?_
    go_wp2
    go_ret
    exact ⟨g9, congrArg Ending.returned h11, by omega, h00 _ _ _ _ r9, B4.trans (hJ1.mono B4.size)⟩
end Go.Proofs.YtpnlgmkkikmglabDoor

/-
  Poly: the sum of a text, as a list: plain words. Own work.
-/
namespace Go.Proofs.YtpnlgmkkikmglabDoor
open Go.RowKit
/-- The sum of a text by a key. -/
def pS (ks ys : List Int) : List Int := polyL (clN (leN (ks.take 16))) (leN (ks.drop 16)) ys
theorem pS_len (ks ys : List Int) : (pS ks ys).length = 16 := lowB_length _ _
theorem pS_by (ks ys : List Int) : IsBy (pS ks ys) := lowB_by _ _
theorem eq16 (xs ys : List Int) (hx : xs.length = 16) (hy : ys.length = 16) (w : World) : (Op.equalIn 10000 36 (.agg (bv xs).toArray) (.agg (bv ys).toArray)).run Tryd.prog w = .ok (decide (xs = ys)) w := by
  obtain ⟨i0, hi, _⟩ := u8_info
  exact run_eqArr w Tryd.underlying36 hi (by kernel_rfl) Tryd.underlying5 Tryd.isAgg5 xs ys hx hy
def key1 : List Int := [1, 0, 0, 0, 0, 0, 0, 0, 0, 0, 0, 0, 0, 0, 0, 0, 9, 0, 0, 0, 0, 0, 0, 0, 0, 0, 0, 0, 0, 0, 0, 0]
def key2 : List Int := [0, 0, 0, 0, 0, 0, 0, 0, 0, 0, 0, 0, 0, 0, 0, 0, 0, 0, 0, 0, 7, 0, 0, 0, 0, 0, 0, 0, 0, 0, 0, 0]
def sum1 : List Int := [14, 1, 0, 0, 0, 0, 0, 0, 0, 0, 0, 0, 0, 0, 0, 0]
def sum2 : List Int := [0, 0, 0, 0, 7, 0, 0, 0, 0, 0, 0, 0, 0, 0, 0, 0]
theorem pS1 : pS key1 [5] = sum1 := by decide +kernel
theorem pS2 : pS key2 [97, 110, 121] = sum2 := by decide +kernel
theorem by_of_all {xs : List Int} (h : (xs.all fun x => decide (0 ≤ x ∧ x < 256)) = true) : IsBy xs := fun x hx => by simpa using List.all_eq_true.1 h x hx
end Go.Proofs.YtpnlgmkkikmglabDoor

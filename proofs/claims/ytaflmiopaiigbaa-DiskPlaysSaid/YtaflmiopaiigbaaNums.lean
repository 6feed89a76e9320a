/-
  The bytes of numbers, as lists: plain mathematics. Own work; nothing of the program is in it.
-/
namespace Go.Proofs.Ytaflmiopaiigbaa
set_option linter.unusedVariables false
set_option linter.unusedSimpArgs false

/-- The n lowest bytes of x, the lowest first. -/
def lowB (x : Int) : Nat → List Int
  | 0 => []
  | n + 1 => x % 256 :: lowB (x / 256) n

def highB (x : Int) (n : Nat) : List Int := (lowB x n).reverse

theorem lowB_length (x : Int) (n : Nat) : (lowB x n).length = n := by
  induction n generalizing x with
  | zero => rfl
  | succ n ih => simp [lowB, ih]
theorem highB_length (x : Int) (n : Nat) : (highB x n).length = n := by simp [highB, lowB_length]
theorem pow256_pos (k : Nat) : (0 : Int) < 256 ^ k := Int.pow_pos (by omega)
theorem pow256_ne (k : Nat) : ((256 : Int) ^ k) ≠ 0 := Int.ne_of_gt (pow256_pos k)
theorem pow256_two (k : Nat) : (256 : Int) ^ k = 2 ^ (8 * k) := by rw [Int.pow_mul]; rfl
theorem div_pow_succ (x : Int) (k : Nat) : x / 256 ^ k / 256 = x / 256 ^ (k + 1) := by
  rw [Int.pow_succ, ← Int.ediv_ediv_of_nonneg (Int.le_of_lt (pow256_pos k))]
theorem div_div_pow (x : Int) (k : Nat) : x / 256 / 256 ^ k = x / 256 ^ (k + 1) := by
  rw [Int.pow_succ, Int.mul_comm, ← Int.ediv_ediv_of_nonneg (by omega)]
theorem lowB_snoc (x : Int) (k : Nat) : lowB x (k + 1) = lowB x k ++ [x / 256 ^ k % 256] := by
  induction k generalizing x with
  | zero => simp [lowB]
  | succ k ih =>
    rw [lowB, ih, ← List.cons_append, div_div_pow]
    rfl
theorem highB_cons (x : Int) (k : Nat) : highB x (k + 1) = (x / 256 ^ k % 256) :: highB x k := by simp [highB, lowB_snoc]
theorem lowB_byte (x : Int) (n : Nat) : ∀ b ∈ lowB x n, 0 ≤ b ∧ b < 256 := by
  induction n generalizing x with
  | zero => intro b h; simp [lowB] at h
  | succ n ih =>
    intro b h
    simp only [lowB, List.mem_cons] at h
    rcases h with rfl | h
    · omega
    · exact ih _ b h
theorem div_pow_nonneg {x : Int} (h : 0 ≤ x) (k : Nat) : 0 ≤ x / 256 ^ k := Int.ediv_nonneg h (Int.le_of_lt (pow256_pos k))
theorem div_pow_le {x : Int} (h : 0 ≤ x) (k : Nat) : x / 256 ^ k ≤ x := Int.ediv_le_self _ h

/-- Bytes that are laid from the right: the next one. -/
theorem set_high {n k : Nat} (h : k < n) (R : List Int) (v : Int) (P : List Int) : (P ++ (List.replicate (n - k) 0 ++ R)).set (P.length + (n - 1 - k)) v = P ++ (List.replicate (n - (k + 1)) 0 ++ v :: R) := by
  rw [List.set_append_right _ _ (by omega), show P.length + (n - 1 - k) - P.length = n - 1 - k from by omega]
  congr 1
  rw [show n - k = (n - (k + 1)) + 1 from by omega, List.replicate_succ', List.append_assoc, List.set_append_right _ _ (by simp; omega)]
  simp
  rw [show n - 1 - k - (n - (k + 1)) = 0 from by omega]
  rfl
/-- Bytes that are laid from the left. -/
theorem set_low {n k : Nat} (h : k < n) (L : List Int) (hL : L.length = k) (v : Int) (P : List Int) : (P ++ (L ++ List.replicate (n - k) 0)).set (P.length + k) v = P ++ ((L ++ [v]) ++ List.replicate (n - (k + 1)) 0) := by
  rw [List.set_append_right _ _ (by omega), show P.length + k - P.length = k from by omega]
  congr 1
  rw [show n - k = (n - (k + 1)) + 1 from by omega, List.replicate_succ, List.set_append_right _ _ (by omega), hL, Nat.sub_self]
  simp

/-- The number whose n bytes stand in xs from a place on, the lowest first; what is not there counts 0. -/
def leV (xs : List Int) (p : Nat) : Nat → Int
  | 0 => 0
  | n + 1 => leV xs p n + xs.getD (p + n) 0 * 256 ^ n

theorem getD_byte {xs : List Int} (h : ∀ x, x ∈ xs → 0 ≤ x ∧ x < 256) (i : Nat) : 0 ≤ xs.getD i 0 ∧ xs.getD i 0 < 256 := by
  by_cases hi : i < xs.length
  · have := h xs[i] (by simp)
    simpa [List.getD, List.getElem?_eq_getElem hi] using this
  · simp [List.getD, List.getElem?_eq_none (show xs.length ≤ i by omega)]
theorem leV_bound {xs : List Int} (h : ∀ x, x ∈ xs → 0 ≤ x ∧ x < 256) (p n : Nat) : 0 ≤ leV xs p n ∧ leV xs p n < 256 ^ n := by
  induction n with
  | zero => simp [leV]
  | succ n ih =>
    obtain ⟨b0, b1⟩ := getD_byte h (p + n)
    have hp := pow256_pos n
    have h1 : 0 ≤ xs.getD (p + n) 0 * 256 ^ n := Int.mul_nonneg b0 (by omega)
    have h2 : xs.getD (p + n) 0 * 256 ^ n ≤ 255 * 256 ^ n := Int.mul_le_mul_of_nonneg_right (by omega) (by omega)
    simp only [leV]
    rw [Int.pow_succ]
    omega
theorem leV_append (P xs : List Int) (n : Nat) : leV (P ++ xs) P.length n = leV xs 0 n := by
  induction n with
  | zero => rfl
  | succ n ih =>
    simp only [leV, ih]
    congr 2
    simp [List.getD, List.getElem?_append_right]
theorem lowB_take (x : Int) (n m : Nat) : ∀ i, i < n → (lowB x (n + m)).getD i 0 = (lowB x n).getD i 0 := by
  intro i hi
  induction m with
  | zero => rfl
  | succ m ih =>
    rw [← Nat.add_assoc, lowB_snoc, ← ih]
    simp [List.getD, List.getElem?_append_left (show i < (lowB x (n + m)).length by rw [lowB_length]; omega)]
theorem leV_congr {xs ys : List Int} {p n : Nat} (h : ∀ i, i < n → xs.getD (p + i) 0 = ys.getD (p + i) 0) : leV xs p n = leV ys p n := by
  induction n with
  | zero => rfl
  | succ n ih =>
    simp only [leV]
    rw [ih fun i hi => h i (by omega), h n (by omega)]
theorem leV_lowB (x : Int) (n : Nat) : leV (lowB x n) 0 n = x % 256 ^ n := by
  induction n with
  | zero => simp [leV, Int.emod_one]
  | succ n ih =>
    have e : leV (lowB x (n + 1)) 0 n = leV (lowB x n) 0 n := leV_congr fun i hi => by rw [Nat.zero_add]; exact lowB_take x n 1 i hi
    simp only [leV, e, ih]
    have hl : (lowB x (n + 1)).getD (0 + n) 0 = x / 256 ^ n % 256 := by
      rw [lowB_snoc, Nat.zero_add]
      simp [List.getD, lowB_length]
    rw [hl]
    have h1 := Int.emod_add_mul_ediv x (256 ^ n)
    have h2 := Int.emod_add_mul_ediv (x / 256 ^ n) 256
    have h3 : x = x % 256 ^ n + x / 256 ^ n % 256 * 256 ^ n + 256 ^ (n + 1) * (x / 256 ^ n / 256) := by
      rw [Int.pow_succ]
      have e2 : 256 ^ n * (x / 256 ^ n) = 256 ^ n * (x / 256 ^ n % 256 + 256 * (x / 256 ^ n / 256)) := by rw [h2]
      rw [Int.mul_add, ← Int.mul_assoc, Int.mul_comm (256 ^ n) (x / 256 ^ n % 256)] at e2
      omega
    have hp := pow256_pos n
    have b1 := Int.emod_nonneg x (pow256_ne n)
    have b2 := Int.emod_lt_of_pos x hp
    have c1 := Int.emod_nonneg (x / 256 ^ n) (show (256 : Int) ≠ 0 by omega)
    have c2 := Int.emod_lt_of_pos (x / 256 ^ n) (show (0 : Int) < 256 by omega)
    have d1 : 0 ≤ x / 256 ^ n % 256 * 256 ^ n := Int.mul_nonneg c1 (by omega)
    have d2 : x / 256 ^ n % 256 * 256 ^ n ≤ 255 * 256 ^ n := Int.mul_le_mul_of_nonneg_right (by omega) (by omega)
    have hq : x % 256 ^ (n + 1) = (x % 256 ^ n + x / 256 ^ n % 256 * 256 ^ n) % 256 ^ (n + 1) := by
      conv => lhs; rw [h3]
      rw [Int.add_mul_emod_self_left]
    have hb : (x % 256 ^ n + x / 256 ^ n % 256 * 256 ^ n) % 256 ^ (n + 1) = x % 256 ^ n + x / 256 ^ n % 256 * 256 ^ n := Int.emod_eq_of_lt (by omega) (by rw [Int.pow_succ]; omega)
    rw [hq, hb]
theorem leV_back {x : Int} {n : Nat} (P : List Int) (h0 : 0 ≤ x) (h1 : x < 256 ^ n) : leV (P ++ lowB x n) P.length n = x := by
  rw [leV_append, leV_lowB, Int.emod_eq_of_lt h0 h1]
end Go.Proofs.Ytaflmiopaiigbaa

/-
  Several own texts in one: Nums, Bytes, Frame, Frame2, Open, Region, Vals, Row, Mem, Mem2, But, Mem3, Facts, EqArr, Facts2, Skip, Cmp, App, BuildA, BuildN, Run, Jba, PackU, ShaP1, LenS, SortS. Own work.
-/
import Derived.WalkKit
import Derived.Deep.Draws
import Derived.Lib.SliceRun
import Derived.Lib.Bytes
import Derived.Laws.CopyOwn
import Derived.Laws.OwnMore
import Derived.Lib.EndianBits
import Derived.Lib.SlBytesConst
import Derived.OpenShut
import Derived.Deep.Slices
import Derived.Lib.LaidTab
import Derived.MakeChecks
import Derived.Deep.WholeRow
import Derived.Laws.CopyRow
import Derived.ChangeKeysEq
import Derived.Laws.StructEq
import Derived.Maps.AppendAt
import Derived.Sort.EncStr
import Derived.StringKeys
import Derived.Test.YtpbkejmffddelaaGreatRows
import Derived.Test.YtpbkejmffddelaaGreatProg
import Derived.Shelf.Small.Bits
import Derived.Shelf.Sort.Plain
set_option linter.unusedVariables false
set_option linter.unusedSimpArgs false
/-
  The bytes of numbers, as lists: plain mathematics. Own work; nothing of the program is in it.
-/
namespace Go.Proofs.YtpbkejmffddelaaGreat

/-- The n lowest bytes of x, the lowest first. -/
def lowB (x : Int) : Nat → List Int
  | 0 => []
  | n + 1 => x % 256 :: lowB (x / 256) n

def highB (x : Int) (n : Nat) : List Int := (lowB x n).reverse

theorem lowB_length (x : Int) (n : Nat) : (lowB x n).length = n := by
  induction n generalizing x with
  | zero => rfl
  | succ n ih => simp [lowB, ih]
theorem highB_length (x : Int) (n : Nat) : (highB x n).length = n := by simp [highB, lowB_length]
theorem pow256_pos (k : Nat) : (0 : Int) < 256 ^ k := Int.pow_pos (by omega)
theorem pow256_ne (k : Nat) : ((256 : Int) ^ k) ≠ 0 := Int.ne_of_gt (pow256_pos k)
theorem pow256_two (k : Nat) : (256 : Int) ^ k = 2 ^ (8 * k) := by rw [Int.pow_mul]; rfl
theorem div_pow_succ (x : Int) (k : Nat) : x / 256 ^ k / 256 = x / 256 ^ (k + 1) := by
  rw [Int.pow_succ, ← Int.ediv_ediv_of_nonneg (Int.le_of_lt (pow256_pos k))]
theorem div_div_pow (x : Int) (k : Nat) : x / 256 / 256 ^ k = x / 256 ^ (k + 1) := by
  rw [Int.pow_succ, Int.mul_comm, ← Int.ediv_ediv_of_nonneg (by omega)]
theorem lowB_snoc (x : Int) (k : Nat) : lowB x (k + 1) = lowB x k ++ [x / 256 ^ k % 256] := by
  induction k generalizing x with
  | zero => simp [lowB]
  | succ k ih =>
    rw [lowB, ih, ← List.cons_append, div_div_pow]
    rfl
theorem highB_cons (x : Int) (k : Nat) : highB x (k + 1) = (x / 256 ^ k % 256) :: highB x k := by simp [highB, lowB_snoc]
theorem lowB_byte (x : Int) (n : Nat) : ∀ b ∈ lowB x n, 0 ≤ b ∧ b < 256 := by
  induction n generalizing x with
  | zero => intro b h; simp [lowB] at h
  | succ n ih =>
    intro b h
    simp only [lowB, List.mem_cons] at h
    rcases h with rfl | h
    · omega
    · exact ih _ b h
theorem div_pow_nonneg {x : Int} (h : 0 ≤ x) (k : Nat) : 0 ≤ x / 256 ^ k := Int.ediv_nonneg h (Int.le_of_lt (pow256_pos k))
theorem div_pow_le {x : Int} (h : 0 ≤ x) (k : Nat) : x / 256 ^ k ≤ x := Int.ediv_le_self _ h

/-- Bytes that are laid from the right: the next one. -/
theorem set_high {n k : Nat} (h : k < n) (R : List Int) (v : Int) (P : List Int) : (P ++ (List.replicate (n - k) 0 ++ R)).set (P.length + (n - 1 - k)) v = P ++ (List.replicate (n - (k + 1)) 0 ++ v :: R) := by
  rw [List.set_append_right _ _ (by omega), show P.length + (n - 1 - k) - P.length = n - 1 - k from by omega]
  congr 1
  rw [show n - k = (n - (k + 1)) + 1 from by omega, List.replicate_succ', List.append_assoc, List.set_append_right _ _ (by simp; omega)]
  simp
  rw [show n - 1 - k - (n - (k + 1)) = 0 from by omega]
  rfl
/-- Bytes that are laid from the left. -/
theorem set_low {n k : Nat} (h : k < n) (L : List Int) (hL : L.length = k) (v : Int) (P : List Int) : (P ++ (L ++ List.replicate (n - k) 0)).set (P.length + k) v = P ++ ((L ++ [v]) ++ List.replicate (n - (k + 1)) 0) := by
  rw [List.set_append_right _ _ (by omega), show P.length + k - P.length = k from by omega]
  congr 1
  rw [show n - k = (n - (k + 1)) + 1 from by omega, List.replicate_succ, List.set_append_right _ _ (by omega), hL, Nat.sub_self]
  simp

/-- The number whose n bytes stand in xs from a place on, the lowest first; what is not there counts 0. -/
def leV (xs : List Int) (p : Nat) : Nat → Int
  | 0 => 0
  | n + 1 => leV xs p n + xs.getD (p + n) 0 * 256 ^ n

theorem getD_byte {xs : List Int} (h : ∀ x, x ∈ xs → 0 ≤ x ∧ x < 256) (i : Nat) : 0 ≤ xs.getD i 0 ∧ xs.getD i 0 < 256 := by
  by_cases hi : i < xs.length
  · have := h xs[i] (by simp)
    simpa [List.getD, List.getElem?_eq_getElem hi] using this
  · simp [List.getD, List.getElem?_eq_none (show xs.length ≤ i by omega)]
theorem leV_bound {xs : List Int} (h : ∀ x, x ∈ xs → 0 ≤ x ∧ x < 256) (p n : Nat) : 0 ≤ leV xs p n ∧ leV xs p n < 256 ^ n := by
  induction n with
  | zero => simp [leV]
  | succ n ih =>
    obtain ⟨b0, b1⟩ := getD_byte h (p + n)
    have hp := pow256_pos n
    have h1 : 0 ≤ xs.getD (p + n) 0 * 256 ^ n := Int.mul_nonneg b0 (by omega)
    have h2 : xs.getD (p + n) 0 * 256 ^ n ≤ 255 * 256 ^ n := Int.mul_le_mul_of_nonneg_right (by omega) (by omega)
    simp only [leV]
    rw [Int.pow_succ]
    omega
theorem leV_append (P xs : List Int) (n : Nat) : leV (P ++ xs) P.length n = leV xs 0 n := by
  induction n with
  | zero => rfl
  | succ n ih =>
    simp only [leV, ih]
    congr 2
    simp [List.getD, List.getElem?_append_right]
theorem lowB_take (x : Int) (n m : Nat) : ∀ i, i < n → (lowB x (n + m)).getD i 0 = (lowB x n).getD i 0 := by
  intro i hi
  induction m with
  | zero => rfl
  | succ m ih =>
    rw [← Nat.add_assoc, lowB_snoc, ← ih]
    simp [List.getD, List.getElem?_append_left (show i < (lowB x (n + m)).length by rw [lowB_length]; omega)]
theorem leV_congr {xs ys : List Int} {p n : Nat} (h : ∀ i, i < n → xs.getD (p + i) 0 = ys.getD (p + i) 0) : leV xs p n = leV ys p n := by
  induction n with
  | zero => rfl
  | succ n ih =>
    simp only [leV]
    rw [ih fun i hi => h i (by omega), h n (by omega)]
theorem leV_lowB (x : Int) (n : Nat) : leV (lowB x n) 0 n = x % 256 ^ n := by
  induction n with
  | zero => simp [leV, Int.emod_one]
  | succ n ih =>
    have e : leV (lowB x (n + 1)) 0 n = leV (lowB x n) 0 n := leV_congr fun i hi => by rw [Nat.zero_add]; exact lowB_take x n 1 i hi
    simp only [leV, e, ih]
    have hl : (lowB x (n + 1)).getD (0 + n) 0 = x / 256 ^ n % 256 := by
      rw [lowB_snoc, Nat.zero_add]
      simp [List.getD, lowB_length]
    rw [hl]
    have h1 := Int.emod_add_mul_ediv x (256 ^ n)
    have h2 := Int.emod_add_mul_ediv (x / 256 ^ n) 256
    have h3 : x = x % 256 ^ n + x / 256 ^ n % 256 * 256 ^ n + 256 ^ (n + 1) * (x / 256 ^ n / 256) := by
      rw [Int.pow_succ]
      have e2 : 256 ^ n * (x / 256 ^ n) = 256 ^ n * (x / 256 ^ n % 256 + 256 * (x / 256 ^ n / 256)) := by rw [h2]
      rw [Int.mul_add, ← Int.mul_assoc, Int.mul_comm (256 ^ n) (x / 256 ^ n % 256)] at e2
      omega
    have hp := pow256_pos n
    have b1 := Int.emod_nonneg x (pow256_ne n)
    have b2 := Int.emod_lt_of_pos x hp
    have c1 := Int.emod_nonneg (x / 256 ^ n) (show (256 : Int) ≠ 0 by omega)
    have c2 := Int.emod_lt_of_pos (x / 256 ^ n) (show (0 : Int) < 256 by omega)
    have d1 : 0 ≤ x / 256 ^ n % 256 * 256 ^ n := Int.mul_nonneg c1 (by omega)
    have d2 : x / 256 ^ n % 256 * 256 ^ n ≤ 255 * 256 ^ n := Int.mul_le_mul_of_nonneg_right (by omega) (by omega)
    have hq : x % 256 ^ (n + 1) = (x % 256 ^ n + x / 256 ^ n % 256 * 256 ^ n) % 256 ^ (n + 1) := by
      conv => lhs; rw [h3]
      rw [Int.add_mul_emod_self_left]
    have hb : (x % 256 ^ n + x / 256 ^ n % 256 * 256 ^ n) % 256 ^ (n + 1) = x % 256 ^ n + x / 256 ^ n % 256 * 256 ^ n := Int.emod_eq_of_lt (by omega) (by rw [Int.pow_succ]; omega)
    rw [hq, hb]
theorem leV_back {x : Int} {n : Nat} (P : List Int) (h0 : 0 ≤ x) (h1 : x < 256 ^ n) : leV (P ++ lowB x n) P.length n = x := by
  rw [leV_append, leV_lowB, Int.emod_eq_of_lt h0 h1]
end Go.Proofs.YtpbkejmffddelaaGreat

/-
  Lists of bytes in memory: plain words and lemmas for walks, over whatever program. Own work.
-/
namespace Go.Proofs.YtpbkejmffddelaaGreat
open Go.RowKit

theorem hide {p : Prop} (h : p) : Hid p := h

theorem addr_plain (b o j : Nat) : (⟨b, o, none⟩ : Addr).add j = ⟨b, o + j, none⟩ := by unfold Addr.add; split <;> simp_all

/-- 'x | b << 8k' where x lies below. -/
theorem or_next (kd : IntKind) (j : Nat) (hj : j ≤ kd.bits) (hk : ∀ n : Int, 0 ≤ n → n < 2 ^ j → kd.wrap n = n) (k : Nat) (h8 : 8 * (k + 1) ≤ j) {q b : Int} (q0 : 0 ≤ q) (q1 : q < 256 ^ k) (b0 : 0 ≤ b) (b1 : b < 256) :
    bits .or kd q (b * 2 ^ (8 * k)) = q + b * 256 ^ k ∧ 0 ≤ b * 2 ^ (8 * k) ∧ b * 2 ^ (8 * k) < 2 ^ j := by
  have hp : (0 : Int) < 2 ^ (8 * k) := Int.pow_pos (by omega)
  have e : (2 : Int) ^ (8 * (k + 1)) = 256 * 2 ^ (8 * k) := by rw [show 8 * (k + 1) = 8 * k + 8 from by omega, Int.pow_add, Int.mul_comm]; rfl
  have hle : (2 : Int) ^ (8 * (k + 1)) ≤ 2 ^ j := by exact_mod_cast Nat.pow_le_pow_right (show 0 < 2 by omega) h8
  have hle0 : (2 : Int) ^ (8 * k) ≤ 2 ^ j := by exact_mod_cast Nat.pow_le_pow_right (show 0 < 2 by omega) (show 8 * k ≤ j by omega)
  have h0 : 0 ≤ b * 2 ^ (8 * k) := Int.mul_nonneg b0 (by omega)
  have h1 : b * 2 ^ (8 * k) ≤ 255 * 2 ^ (8 * k) := Int.mul_le_mul_of_nonneg_right (by omega) (by omega)
  rw [pow256_two] at q1
  refine ⟨?_, h0, by omega⟩
  rw [bits_join_low kd j hj hk (8 * k) q (b * 2 ^ (8 * k)) q0 q1 (by omega) h0 (Int.mul_emod_left _ _) (by omega), pow256_two]
theorem or_next32 (k : Nat) (hk : k < 4) {q b : Int} (q0 : 0 ≤ q) (q1 : q < 256 ^ k) (b0 : 0 ≤ b) (b1 : b < 256) : bits .or .u32 q (b % 4294967296 * 2 ^ (8 * k) % 4294967296) = q + b * 256 ^ k := by
  obtain ⟨h1, h2, h3⟩ := or_next .u32 32 (by decide) wraps_u32 k (by omega) q0 q1 b0 b1
  rw [Int.emod_eq_of_lt b0 (by omega), Int.emod_eq_of_lt h2 (by omega), h1]
theorem or_next64 (k : Nat) (hk : k < 8) {q b : Int} (q0 : 0 ≤ q) (q1 : q < 256 ^ k) (b0 : 0 ≤ b) (b1 : b < 256) : bits .or .u64 q (IntKind.u64.wrap (IntKind.u64.wrap b * 2 ^ (8 * k))) = q + b * 256 ^ k := by
  obtain ⟨h1, h2, h3⟩ := or_next .u64 64 (by decide) wraps_u64 k (by omega) q0 q1 b0 b1
  rw [wraps_u64 b b0 (by omega), wraps_u64 _ h2 h3, h1]

/-- 'x << 8 | b'. -/
theorem or_high (kd : IntKind) (j : Nat) (hj : j ≤ kd.bits) (hk : ∀ n : Int, 0 ≤ n → n < 2 ^ j → kd.wrap n = n) (k : Nat) (h8 : 8 * (k + 1) ≤ j) {q b : Int} (q0 : 0 ≤ q) (q1 : q < 256 ^ k) (b0 : 0 ≤ b) (b1 : b < 256) :
    bits .or kd (q * 256) b = q * 256 + b ∧ 0 ≤ q * 256 ∧ q * 256 < 2 ^ j ∧ b < 2 ^ j := by
  have e : (256 : Int) ^ (k + 1) = 2 ^ (8 * (k + 1)) := pow256_two (k + 1)
  have hle : (2 : Int) ^ (8 * (k + 1)) ≤ 2 ^ j := by exact_mod_cast Nat.pow_le_pow_right (show 0 < 2 by omega) h8
  have hle8 : (2 : Int) ^ 8 ≤ 2 ^ j := by exact_mod_cast Nat.pow_le_pow_right (show 0 < 2 by omega) (show 8 ≤ j by omega)
  rw [Int.pow_succ] at e
  have h3 : q * 256 < 2 ^ j := by omega
  refine ⟨bits_join kd j hj hk 8 (q * 256) b (by omega) (Int.mul_emod_left _ _) h3 b0 (by omega) (by omega), by omega, h3, by omega⟩
theorem or_high32 (k : Nat) (hk : k < 4) {q b : Int} (q0 : 0 ≤ q) (q1 : q < 256 ^ k) (b0 : 0 ≤ b) (b1 : b < 256) : bits .or .u32 (q * 256 % 4294967296) (b % 4294967296) = q * 256 + b := by
  obtain ⟨h1, h2, h3, h4⟩ := or_high .u32 32 (by decide) wraps_u32 k (by omega) q0 q1 b0 b1
  rw [Int.emod_eq_of_lt h2 (by omega), Int.emod_eq_of_lt b0 (by omega), h1]
theorem or_high64 (k : Nat) (hk : k < 8) {q b : Int} (q0 : 0 ≤ q) (q1 : q < 256 ^ k) (b0 : 0 ≤ b) (b1 : b < 256) : bits .or .u64 (IntKind.u64.wrap (q * 256)) (IntKind.u64.wrap b) = q * 256 + b := by
  obtain ⟨h1, h2, h3, h4⟩ := or_high .u64 64 (by decide) wraps_u64 k (by omega) q0 q1 b0 b1
  rw [wraps_u64 _ h2 h3, wraps_u64 b b0 h4, h1]

/-- The slice '.slice A n c' reads as the bytes xs, and lies below block B. -/
def Bs (w : World) (B : Nat) (A : Option Addr) (n : Nat) (xs : List Int) : Prop :=
  xs.length = n ∧ (0 < n → ∃ b o, A = some ⟨b, o, none⟩ ∧ b < B ∧ ∀ j, j < n → w.cell? ⟨b, o + j, none⟩ = some (.int .u8 (xs.getD j 0)))

/-- Numbers that are bytes. -/
def IsBy (xs : List Int) : Prop := ∀ x, x ∈ xs → 0 ≤ x ∧ x < 256

section
variable {w w' : World} {B B' n : Nat} {A : Option Addr} {xs : List Int}
theorem Bs.nil_ : Bs w B A 0 [] := ⟨rfl, fun h => absurd h (by omega)⟩
theorem Bs.keep (h : Bs w B A n xs) (hk : ∀ p : Addr, p.block < B → w'.cell? p = w.cell? p) : Bs w' B A n xs :=
  ⟨h.1, fun hn => let ⟨b, o, e, hb, hc⟩ := h.2 hn; ⟨b, o, e, hb, fun j hj => (hk _ hb).trans (hc j hj)⟩⟩
theorem Bs.up (h : Bs w B A n xs) (hB : B ≤ B') : Bs w B' A n xs :=
  ⟨h.1, fun hn => let ⟨b, o, e, hb, hc⟩ := h.2 hn; ⟨b, o, e, Nat.lt_of_lt_of_le hb hB, hc⟩⟩
theorem Bs.below (h : Bs w B A n xs) (hb : Below B w w') : Bs w' B A n xs := h.keep fun _ hp => hb.cell hp
/-- Memory has grown; nothing that was there has turned. -/
theorem Bs.later (h : Bs w w.heap.size A n xs) (hb : Below w.heap.size w w') : Bs w' w'.heap.size A n xs := (h.below hb).up hb.size
theorem Bs.at_ (h : Bs w B A n xs) {k : Nat} (hk : k < n) : ∃ b o, A = some ⟨b, o, none⟩ ∧ b < B ∧ w.cell? ⟨b, o + k, none⟩ = some (.int .u8 (xs.getD k 0)) := by
  obtain ⟨b, o, e, hb, hc⟩ := h.2 (by omega); exact ⟨b, o, e, hb, hc k hk⟩
theorem Bs.cells (h : Bs w B A n xs) {ad : Addr} (hA : A = some ad) : ∀ j u, (xs.map (Value.int .u8))[j]? = some u → w.cell? (ad.add j) = some u := by
  intro j u hu
  have hj : j < xs.length := by
    have := (List.getElem?_eq_some_iff.1 hu).1
    simpa using this
  obtain ⟨b, o, e, _, hc⟩ := h.2 (by have := h.1; omega)
  rw [hA] at e
  injection e with e
  subst e
  rw [addr_plain, hc j (by have := h.1; omega)]
  simp [List.getElem?_eq_getElem hj] at hu
  subst hu
  simp [List.getD, List.getElem?_eq_getElem hj]
/-- 'string(b)'. -/
theorem Bs.convert {P : Program} (h : Bs w B A n xs) (c : Nat) (src e dst : TypeId) (hs : P.underlying src = some (.slice e)) (he : P.underlying e = some (.int .u8)) (hd : P.underlying dst = some .string) :
    (convert src dst (.slice A n c)).run P w = .ok (.string (strOfNums xs)) w := by
  rcases Nat.eq_zero_or_pos n with hn | hn
  · subst hn
    obtain rfl : xs = [] := List.eq_nil_of_length_eq_zero h.1
    rw [run_convert_bytes_string w src dst e _ 0 c hs he hd]
    cases A <;> simp [Conv.bytesToString, loadCells, strOfNums] <;> rfl
  · obtain ⟨b, o, rfl, _, hc⟩ := h.2 hn
    exact run_convert_bytes_arg (P := P) w src e hs he b o n c xs h.1 hc dst hd
end

/-- What a function that makes bytes answers. -/
def RetBs (out : List Int) (w : World) (e : Ending) (w' : World) : Prop :=
  ∃ A n c, e = .returned (.slice A n c) ∧ Bs w' w'.heap.size A n out ∧ n ≤ c ∧ c ≤ maxLen ∧ Below w.heap.size w w'

theorem RetBs.trans {out : List Int} {w w1 w2 : World} {e : Ending} (h : RetBs out w1 e w2) (hb : Below w.heap.size w w1) : RetBs out w e w2 := by
  obtain ⟨A, n, c, he, h1, h2, h3, h4⟩ := h
  exact ⟨A, n, c, he, h1, h2, h3, hb.trans (h4.mono hb.size)⟩

/-- The slice of slices '.slice A k c' reads as the lists xss, and all of it lies below block B. -/
def Bss (w : World) (B : Nat) (A : Option Addr) (k : Nat) (xss : List (List Int)) : Prop :=
  xss.length = k ∧ (0 < k → ∃ b o, A = some ⟨b, o, none⟩ ∧ b < B ∧ ∀ j, j < k → ∃ A' n' c', w.cell? ⟨b, o + j, none⟩ = some (.slice A' n' c') ∧ Bs w B A' n' (xss.getD j []))

theorem Bss.below {w w' : World} {B k : Nat} {A : Option Addr} {xss : List (List Int)} (h : Bss w B A k xss) (hb : Below B w w') : Bss w' B A k xss :=
  ⟨h.1, fun hk => let ⟨b, o, e, hlt, hc⟩ := h.2 hk; ⟨b, o, e, hlt, fun j hj => let ⟨A', n', c', h1, h2⟩ := hc j hj; ⟨A', n', c', (hb.cell hlt).trans h1, h2.below hb⟩⟩⟩
theorem Bss.up {w : World} {B B' k : Nat} {A : Option Addr} {xss : List (List Int)} (h : Bss w B A k xss) (hB : B ≤ B') : Bss w B' A k xss :=
  ⟨h.1, fun hk => let ⟨b, o, e, hlt, hc⟩ := h.2 hk; ⟨b, o, e, Nat.lt_of_lt_of_le hlt hB, fun j hj => let ⟨A', n', c', h1, h2⟩ := hc j hj; ⟨A', n', c', h1, h2.up hB⟩⟩⟩

/-- A list of slices in a new block. -/
theorem Bss.lit (w : World) (t : TypeId) (l : List (Option Addr × Nat × Nat × List Int)) (h : ∀ x ∈ l, Bs w w.heap.size x.1 x.2.1 x.2.2.2) :
    Bss (w.alloc (.cells (l.map fun x => Value.slice x.1 x.2.1 x.2.2.1).toArray t)) (w.heap.size + 1) (some ⟨w.heap.size, 0, none⟩) l.length (l.map fun x => x.2.2.2) := by
  refine ⟨by simp, fun _ => ⟨w.heap.size, 0, rfl, by omega, fun j hj => ⟨l[j].1, l[j].2.1, l[j].2.2.1, ?_, ?_⟩⟩⟩
  · rw [cell_of_row _ _ _ _ _ _ (heap_alloc_new w _)]
    simp [hj]
  · have := (h l[j] (by simp)).later ((Below.refl _ _).alloc (Nat.le_refl _) (.cells (l.map fun x => Value.slice x.1 x.2.1 x.2.2.1).toArray t))
    simpa [List.getD, List.getElem?_eq_getElem (show j < (l.map fun x => x.2.2.2).length by simpa using hj)] using this

/-- How many bytes the first k lists have. -/
def sumLen (xss : List (List Int)) (k : Nat) : Nat := (xss.take k).flatten.length
theorem take_flat (xss : List (List Int)) (k : Nat) (hk : k < xss.length) : (xss.take (k + 1)).flatten = (xss.take k).flatten ++ xss.getD k [] := by
  rw [List.take_succ_eq_append_getElem hk, List.flatten_append]
  simp [List.getD, List.getElem?_eq_getElem hk]
theorem sumLen_succ (xss : List (List Int)) (k : Nat) (hk : k < xss.length) : sumLen xss (k + 1) = sumLen xss k + (xss.getD k []).length := by
  unfold sumLen
  rw [take_flat _ _ hk, List.length_append]
theorem sumLen_le (xss : List (List Int)) (k : Nat) : sumLen xss k ≤ sumLen xss xss.length := by
  unfold sumLen
  rw [List.take_length]
  conv => rhs; rw [← List.take_append_drop k xss, List.flatten_append, List.length_append]
  omega

/-! ### A block that is just these bytes -/

def bv (xs : List Int) : List Value := xs.map (Value.int .u8)
theorem bv_one (xs : List Int) : ∀ u ∈ bv xs, u.oneCell' = true := by
  intro u hu; simp only [bv, List.mem_map] at hu; obtain ⟨x, _, rfl⟩ := hu; rfl
theorem bv_len (xs : List Int) : (bv xs).length = xs.length := by simp [bv]

/-- Block g of w is the bytes cs, of element type t; none is frozen. -/
def Own (w : World) (t g : Nat) (cs : List Int) : Prop := w.heap[g]? = some (.cells (bv cs).toArray t (0, 0))

section
variable {w w' : World} {t g : Nat} {cs : List Int}
theorem Own.lt (h : Own w t g cs) : g < w.heap.size := by
  rcases Nat.lt_or_ge g w.heap.size with h1 | h1
  · exact h1
  · unfold Own at h; rw [Array.getElem?_eq_none h1] at h; cases h
theorem Own.cell (h : Own w t g cs) {j : Nat} (hj : j < cs.length) : w.cell? ⟨g, j, none⟩ = some (.int .u8 (cs.getD j 0)) := by
  rw [cell_of_row w g j _ t (0, 0) h]
  simp [bv, List.getElem?_eq_getElem hj, List.getD]
theorem Own.frozen (h : Own w t g cs) (j : Nat) : w.frozen? ⟨g, j, none⟩ = false := frozen_of_row w g j _ t h
theorem Own.set (h : Own w t g cs) (i : Nat) (x : Int) : Own (w.setCell ⟨g, i, none⟩ (.int .u8 x)) t g (cs.set i x) := by
  have := heap_setCell_same w g i _ t (.int .u8 x) h
  unfold Own
  rw [this]
  simp [bv, List.map_set]
theorem Own.bs (h : Own w t g cs) {B : Nat} (hB : g < B) : Bs w B (some ⟨g, 0, none⟩) cs.length cs :=
  ⟨rfl, fun _ => ⟨g, 0, rfl, hB, fun j hj => by rw [Nat.zero_add]; exact h.cell hj⟩⟩
theorem Own.below {B : Nat} (h : Own w t g cs) (hb : Below B w w') (hg : g < B) : Own w' t g cs := (hb.block g hg).trans h
end

theorem ownsRow_bs {w : World} {base e n : Nat} {v : Value} {xs : List Int} (h : w.ownsRow base e 1 v n (bv xs)) :
    ∃ A c, v = .slice A n c ∧ Bs w w.heap.size A n xs ∧ n ≤ c ∧ c ≤ maxLen := by
  have hl : xs.length = n := by have := h.1; rw [bv_len] at this; omega
  rcases h.2 with ⟨rfl, rfl⟩ | ⟨g, cap, cur, rfl, _, hg, hnc, hcm, _, _⟩
  · exact ⟨none, 0, rfl, ⟨hl, fun h0 => absurd h0 (by omega)⟩, Nat.le_refl _, by simp⟩
  · refine ⟨some ⟨g, 0, none⟩, cap, rfl, ⟨hl, fun _ => ⟨g, 0, rfl, (Array.getElem?_eq_some_iff.1 hg).1, fun j hj => ?_⟩⟩, hnc, hcm⟩
    have hc := h.cells (g := g) rfl j (.int .u8 (xs.getD j 0)) (by simp [bv, List.getD, List.getElem?_eq_getElem (show j < xs.length by omega)])
    rw [addr_plain] at hc
    exact hc

/-- A byte in a new block of its own. -/
theorem Bs.new1 (w : World) (v : Int) (t : TypeId) : Bs (w.alloc (.cells #[.int .u8 v] t)) (w.heap.size + 1) (some ⟨w.heap.size, 0, none⟩) 1 [v] := by
  refine ⟨rfl, fun _ => ⟨w.heap.size, 0, rfl, by omega, fun j hj => ?_⟩⟩
  obtain rfl : j = 0 := by omega
  rw [cell_of_row _ _ _ _ _ _ (heap_alloc_new w _)]
  rfl

/-- What a call owns, handed back. -/
theorem ret_owns {w w1 : World} {base e n : Nat} {v : Value} {xs ys : List Int} (h : w1.ownsRow base e 1 v n (bv xs)) (hb : Below w.heap.size w w1) (he : ys = xs) : RetBs ys w (.returned v) w1 := by
  obtain ⟨A, c, rfl, h1, h2, h3⟩ := ownsRow_bs h
  subst he
  exact ⟨A, n, c, rfl, h1, h2, h3, hb⟩
theorem ret_own {w w1 : World} {t g n c : Nat} {xs ys : List Int} (h : Own w1 t g xs) (hb : Below w.heap.size w w1) (he : ys = xs) (hn : xs.length = n) (hc : n ≤ c) (hm : c ≤ maxLen) : RetBs ys w (.returned (.slice (some ⟨g, 0, none⟩) n c)) w1 := by
  subst he
  subst hn
  exact ⟨_, _, c, rfl, h.bs h.lt, hc, hm, hb⟩
theorem grown_below {w0 w w1 : World} {v : Value} {base e n : Nat} {xs : List Value} (hb : Below w0.heap.size w0 w) (hown : w.ownsRow base e 1 v n xs) (hbase : w0.heap.size ≤ base) (hg : w.grownBy w1 v.ownBlock) : Below w0.heap.size w0 w1 :=
  hb.grown hg hb.size fun k hk => Nat.le_trans hbase (hown.lt k hk).1

section
variable {P : Program}

/-- 'append(out, src...)' where the call owns out and src reads as bytes, nil too. -/
theorem run_append_bs (w : World) (base : Nat) (t ty e : TypeId) (i : TypeInfo) (ht : P.underlying t = some (.slice e)) (hi : P.info? e = some i) (hz : i.zero = some (.int .u8 0)) (hsz : i.size = 1) (hby : i.bytes = 1)
    (v : Value) (n : Nat) (xs : List Int) (hown : w.ownsRow base e 1 v n (bv xs)) (B : Nat) (A : Option Addr) (m c : Nat) (ys : List Int) (hr : Bs w B A m ys)
    (hlen : n + m ≤ 140737488355328) (hbase : base ≤ w.heap.size) :
    ∃ v' w', (Builtin.append_ #[t, t] ty #[v, .slice A m c]).run P w = .ok v' w' ∧ w'.ownsRow base e 1 v' (n + m) (bv (xs ++ ys)) ∧ w.grownBy w' v.ownBlock ∧ (v = .slice none 0 0 → 0 < m → v'.ownBlock ≠ none) := by
  have hmap : bv (xs ++ ys) = bv xs ++ bv ys := by simp [bv]
  rcases A with _ | ad
  · have hm : m = 0 := by
      rcases Nat.eq_zero_or_pos m with h0 | h0
      · exact h0
      · obtain ⟨_, _, h, _⟩ := hr.2 h0; cases h
    subst hm
    obtain rfl : ys = [] := List.eq_nil_of_length_eq_zero hr.1
    refine ⟨v, w, ?_, by rw [hmap]; simpa [bv] using hown, ⟨rfl, rfl, rfl, Nat.le_refl _, fun _ _ _ => rfl⟩, fun _ h => absurd h (by omega)⟩
    rcases hown.2 with ⟨rfl, rfl⟩ | ⟨g, cap, cur, rfl, _, _, hnc, _⟩
    · simp [Builtin.append_, run_underlying ht, sizeOf, typeInfo, hi, Builtin.lenOf, Builtin.firstCells]
    · simp [Builtin.append_, run_underlying ht, sizeOf, typeInfo, hi, Builtin.lenOf, Builtin.firstCells, hnc, storeCells]
  · obtain ⟨v', w', h1, h2, h3, h4⟩ := run_append_own (P := P) w base t ty e i (.int .u8 0) 1 1 ht hi hz hsz hby rfl (by decide) v n (bv xs) hown ad m c (bv ys) (by rw [bv_len, hr.1, Nat.mul_one]) (hr.cells rfl) (bv_one ys)
      (by simp only [maxLen]; omega) (by omega) hbase
    refine ⟨v', w', h1, by rw [hmap]; exact h2, h3, fun hv hm hn => ?_⟩
    rcases h2.2 with ⟨rfl, h0⟩ | ⟨g, cap, cur, rfl, _⟩
    · omega
    · simp [Value.ownBlock] at hn

theorem wpList_append_bs {w : World} {ops : Array Oper} {rest : List Oper} {o : Oper} {a : Act} {Q : Exit → Act → World → Prop} (hgd : o.guard = none) (s x : Operand) (t : TypeId)
    (ho : o.op = .call { callee := .builtin .append, args := #[s, x], argTypes := #[t, t] })
    (base : Nat) (e : TypeId) (i : TypeInfo) (ht : P.underlying t = some (.slice e)) (hi : P.info? e = some i) (hz : i.zero = some (.int .u8 0)) (hsz : i.size = 1) (hby : i.bytes = 1)
    (v : Value) (n : Nat) (xs : List Int) (hs : a.eval s = v) (hown : w.ownsRow base e 1 v n (bv xs)) (B : Nat) (A : Option Addr) (m c : Nat) (ys : List Int) (hx : a.eval x = .slice A m c) (hr : Bs w B A m ys)
    (hlen : n + m ≤ 140737488355328) (hbase : base ≤ w.heap.size)
    (h : ∀ v' w', w'.ownsRow base e 1 v' (n + m) (bv (xs ++ ys)) → w.grownBy w' v.ownBlock → wpList P ops Q rest (a.put o.dst v') w') : wpList P ops Q (o :: rest) a w := by
  refine wpList_plain hgd fun K hK => ?_
  obtain ⟨v', w', hrun, h2, h3, _⟩ := run_append_bs (P := P) w base t o.type e i ht hi hz hsz hby v n xs hown B A m c ys hr hlen hbase
  unfold Oper.wp execOp
  simp only [ho, resolve, invoke, builtin, Sem.run_bind, Sem.run_pure, Result.andThen_ok, List.map_toArray, List.map_cons, List.map_nil, hs, hx, hrun]
  exact hK _ _ (h v' w' h2 h3)

/-- 'make([]byte, n)': the world behind it is a new name. -/
theorem wpList_make_bs {w : World} {ops : Array Oper} {rest : List Oper} {o : Oper} {a : Act} {Q : Exit → Act → World → Prop} (hgd : o.guard = none) (t : TypeId) (x y : Operand) (ho : o.op = .makeSlice t x y)
    (e : TypeId) (i : TypeInfo) (ht : P.underlying t = some (.slice e)) (hi : P.info? e = some i) (hz : i.zero = some (.int .u8 0)) (hsz : i.size = 1) (hby : i.bytes = 1)
    (n : Nat) (hx : a.eval x = .int .i64 (n : Int)) (hy : a.eval y = .int .i64 (n : Int)) (hlen : n ≤ 140737488355328)
    (h : ∀ w', Own w' e w.heap.size (List.replicate n 0) → w'.heap.size = w.heap.size + 1 → Below w.heap.size w w' → wpList P ops Q rest (a.put o.dst (.slice (some ⟨w.heap.size, 0, none⟩) n n)) w') : wpList P ops Q (o :: rest) a w := by
  refine wpList_plain hgd fun K hK => ?_
  have hrun := run_make (P := P) w t e i (.int .u8 0) ht hi hz .i64 .i64 n n (by omega) (by omega) (by rw [hby]; omega) (by omega)
  unfold Oper.wp execOp
  simp only [ho, hx, hy, hrun, Sem.run_bind, Result.andThen_ok, Sem.run_pure, Int.toNat_natCast]
  refine hK _ _ (h _ ?_ (by simp) ((Below.refl _ _).alloc (Nat.le_refl _) _))
  unfold Own
  rw [heap_alloc_new]
  congr 2
  rw [hsz, Nat.mul_one]
  apply Array.toList_inj.1
  rw [show (Value.int IntKind.u8 0).cells = #[Value.int IntKind.u8 0] from rfl, toList_madeCells_one]
  simp [bv]

/-- 'make([]byte, 0, n)'. -/
theorem wpList_make0_bs {w : World} {ops : Array Oper} {rest : List Oper} {o : Oper} {a : Act} {Q : Exit → Act → World → Prop} (hgd : o.guard = none) (t : TypeId) (x y : Operand) (ho : o.op = .makeSlice t x y)
    (e : TypeId) (i : TypeInfo) (ht : P.underlying t = some (.slice e)) (hi : P.info? e = some i) (hz : i.zero = some (.int .u8 0)) (hsz : i.size = 1) (hby : i.bytes = 1)
    (n : Nat) (hx : a.eval x = .int .i64 0) (hy : a.eval y = .int .i64 (n : Int)) (hlen : n ≤ 140737488355328)
    (h : ∀ w', w'.ownsRow w.heap.size e 1 (.slice (some ⟨w.heap.size, 0, none⟩) 0 n) 0 (bv []) → Below w.heap.size w w' → wpList P ops Q rest (a.put o.dst (.slice (some ⟨w.heap.size, 0, none⟩) 0 n)) w') : wpList P ops Q (o :: rest) a w := by
  refine wpList_plain hgd fun K hK => ?_
  obtain ⟨w', hrun, hown, hg⟩ := run_make_own (P := P) w w.heap.size t e i (.int .u8 0) 1 ht hi hz hsz .i64 .i64 n (by rw [hby]; omega) (by simp only [maxLen]; omega) (Nat.le_refl _)
  unfold Oper.wp execOp
  simp only [ho, hx, hy, hrun, Sem.run_bind, Result.andThen_ok, Sem.run_pure]
  exact hK _ _ (h _ hown ((Below.refl _ _).grown hg (Nat.le_refl _) (by simp)))

/-- 'copy(dst, src)' from the head of a block of the call's own; src reads as bytes. -/
theorem wpList_copy_bs {w : World} {ops : Array Oper} {rest : List Oper} {o : Oper} {a : Act} {Q : Exit → Act → World → Prop} (hgd : o.guard = none) (d s : Operand) (dT sT : TypeId)
    (ho : o.op = .call { callee := .builtin .copy, args := #[d, s], argTypes := #[dT, sT] }) (elem : TypeId) (hu : P.underlying dT = some (.slice elem)) (hsz : (P.info? elem).map (·.size) = some 1)
    (g off dLen dCap n c : Nat) (A : Option Addr) (hd : a.eval d = .slice (some ⟨g, off, none⟩) dLen dCap) (hs : a.eval s = .slice A n c) (cur xs : List Int) (t B : Nat) (hg : Own w t g cur) (hx : Bs w B A n xs) (hn : n ≤ dLen) (hfit : off + n ≤ cur.length) (B0 : Nat) (w0 : World) (hb : Below B0 w0 w) (hBg : B0 ≤ g)
    (h : ∀ w', Own w' t g (cur.take off ++ xs ++ cur.drop (off + n)) → Below B0 w0 w' → wpList P ops Q rest (a.put o.dst (goInt n)) w') : wpList P ops Q (o :: rest) a w := by
  have hl : (bv xs).length = Nat.min n dLen := by rw [bv_len, hx.1]; exact (Nat.min_eq_left hn).symm
  refine wpList_copy_splice hgd d s dT sT ho elem hu hsz (some ⟨g, off, none⟩) A dLen dCap n c hd hs g off (bv cur) t hg (bv xs) hl ?_ (by rw [bv_len, bv_len, hx.1]; exact hfit) (bv_one xs) B0 w0 hb hBg ?_
  · intro hp
    rw [bv_len, hx.1] at hp
    obtain ⟨b, o', rfl, _, _⟩ := hx.2 hp
    exact ⟨rfl, _, rfl, hx.cells rfl⟩
  · intro w' hw hbw
    rw [bv_len, hx.1]
    refine h w' ?_ hbw
    unfold Own
    rw [hw.out]
    congr 2
    simp [splice, bv, hx.1]
end

/-- Bytes in a new block, whatever of it is frozen. -/
theorem Bs.lit (w : World) (t : TypeId) (fr : Nat × Nat) (xs : List Int) : Bs (w.alloc (.cells (bv xs).toArray t fr)) (w.heap.size + 1) (some ⟨w.heap.size, 0, none⟩) xs.length xs := by
  refine ⟨rfl, fun _ => ⟨w.heap.size, 0, rfl, by omega, fun j hj => ?_⟩⟩
  rw [cell_of_row _ _ _ _ _ _ (heap_alloc_new w _), Nat.zero_add]
  simp [bv, List.getD, List.getElem?_eq_getElem hj]
theorem Bs.lit' (w : World) (t : TypeId) (fr : Nat × Nat) (xs : List Int) (C : Array Value) (n g : Nat) (hg : g = w.heap.size) (hC : C = (bv xs).toArray) (hn : xs.length = n) :
    Bs (w.alloc (.cells C t fr)) (w.alloc (.cells C t fr)).heap.size (some ⟨g, 0, none⟩) n xs := by
  subst hg
  subst hC
  subst hn
  exact (Bs.lit w t fr xs).up (by simp)
theorem Bs.new {w : World} {A : Option Addr} {n : Nat} {xs : List Int} (h : Bs w w.heap.size A n xs) (o : Obj) : Bs (w.alloc o) (w.alloc o).heap.size A n xs := h.later ((Below.refl _ _).alloc (Nat.le_refl _) o)
theorem equal_self (xs : List Int) : (Lib.bytesOf xs == Lib.bytesOf xs) = true := by simp
theorem Bs.take {w : World} {B n : Nat} {A : Option Addr} {xs : List Int} (h : Bs w B A n xs) {k : Nat} (hk : k ≤ n) : Bs w B A k (xs.take k) := by
  have hl := h.1
  refine ⟨by rw [List.length_take]; omega, fun hp => ?_⟩
  obtain ⟨b, o, rfl, hb, hc⟩ := h.2 (by omega)
  exact ⟨b, o, rfl, hb, fun j hj => by rw [hc j (by omega)]; simp [List.getD, List.getElem?_take, hj]⟩
theorem IsBy.take {xs : List Int} (h : IsBy xs) (n : Nat) : IsBy (xs.take n) := fun x hx => h x (List.mem_of_mem_take hx)
theorem IsBy.drop {xs : List Int} (h : IsBy xs) (n : Nat) : IsBy (xs.drop n) := fun x hx => h x (List.mem_of_mem_drop hx)
end Go.Proofs.YtpbkejmffddelaaGreat

/-
  From the frame's words on arguments to the walks' words. Own work.
-/
namespace Go.Proofs.YtpbkejmffddelaaGreat
open Go.RowKit
/-- A slice of bytes that came in. -/
theorem row_bs {w : World} {a : Option Addr} {len cap : Nat} {zs : List Int}
    (h : (a = none ∧ len = 0 ∧ cap = 0 ∧ zs = []) ∨
      ∃ x, a = some x ∧ len ≤ cap ∧ cap ≤ maxLen ∧ zs.length = cap ∧ (∀ i, i < zs.length → w.cell? (x.add i) = some (.int .u8 (zs.getD i 0))) ∧ ∀ n ∈ zs, (Lit.int .u8 n).wf = true) :
    Bs w w.heap.size a len (zs.take len) ∧ IsBy (zs.take len) ∧ len ≤ cap ∧ cap ≤ maxLen := by
  rcases h with ⟨rfl, rfl, rfl, rfl⟩ | ⟨x, rfl, hl, hm, hz, hc, hw⟩
  · exact ⟨Bs.nil_, fun x hx => by simp at hx, Nat.le_refl _, by simp⟩
  · refine ⟨⟨by simp; omega, fun h0 => ?_⟩, fun y hy => ?_, hl, hm⟩
    · obtain ⟨b, off, rfl, hc'⟩ := ints_at hc (by omega)
      refine ⟨b, off, rfl, block_lt_of_cell (hc' 0 (by omega)), fun j hj => ?_⟩
      rw [hc' j (by omega)]
      simp [List.getD, hj]
    · have := hw y (List.mem_of_mem_take hy)
      simp only [Lit.wf, Bool.and_eq_true, decide_eq_true_eq] at this
      have hmin : IntKind.u8.min = 0 := rfl
      have hmax : IntKind.u8.max = 255 := rfl
      rw [hmin, hmax] at this
      omega
theorem wf_u64 {x : Int} (h : (Lit.int .u64 x).wf = true) : 0 ≤ x ∧ x < 18446744073709551616 := by
  simp only [Lit.wf, Bool.and_eq_true, decide_eq_true_eq] at h
  have hmin : IntKind.u64.min = 0 := rfl
  have hmax : IntKind.u64.max = 18446744073709551615 := rfl
  rw [hmin, hmax] at h
  omega
theorem wf_u32 {x : Int} (h : (Lit.int .u32 x).wf = true) : 0 ≤ x ∧ x < 4294967296 := by
  simp only [Lit.wf, Bool.and_eq_true, decide_eq_true_eq] at h
  have hmin : IntKind.u32.min = 0 := rfl
  have hmax : IntKind.u32.max = 4294967295 := rfl
  rw [hmin, hmax] at h
  omega
theorem wf_i64 {x : Int} (h : (Lit.int .i64 x).wf = true) : -9223372036854775808 ≤ x ∧ x ≤ 9223372036854775807 := by
  simp only [Lit.wf, Bool.and_eq_true, decide_eq_true_eq] at h
  have hmin : IntKind.i64.min = -9223372036854775808 := rfl
  have hmax : IntKind.i64.max = 9223372036854775807 := rfl
  rw [hmin, hmax] at h
  exact h
end Go.Proofs.YtpbkejmffddelaaGreat

/-
  From the readings of arguments to the walks' words: slices of slices, of structs. Own work.
-/
namespace Go.Proofs.YtpbkejmffddelaaGreat
open Go.RowKit Go.ChangeShapes Go.WideShapes
section
variable {H : Type} {enc : TypeId × Value → H} {P : Program} {w : World} {spare : Nat → Bool} {held : Bool}
/-- A slice of bytes, wherever its reading stands. -/
theorem trod_bs {base : Nat} {t e : TypeId} {fuel : Nat} {v : Value} {x : DataW H × List MemPlace} (ht : P.underlying t = some (.slice e)) (he : P.underlying e = some (.int .u8)) (hc : P.cellsOf e = 1)
    (h : DataW.trod enc P w base spare held fuel t [v] = some x) : ∃ A n c xs, v = .slice A n c ∧ Bs w w.heap.size A n xs ∧ IsBy xs ∧ n ≤ c ∧ c ≤ maxLen := by
  rcases open_ints ht he hc h with ⟨hcs, _⟩ | ⟨a, l, c, zs, hcs, _, hl, hm, hz, _, hcell, hwz⟩
  · simp at hcs
    exact ⟨none, 0, 0, [], hcs, Bs.nil_, fun _ h => by simp at h, Nat.le_refl _, by simp⟩
  · simp at hcs
    have hlz : l ≤ zs.length := by rw [hz]; split <;> omega
    refine ⟨some a, l, c, zs.take l, hcs, ⟨by simp; omega, fun h0 => ?_⟩, fun y hy => ?_, hl, hm⟩
    · obtain ⟨b, off, rfl, hc'⟩ := ints_at hcell (by omega)
      refine ⟨b, off, rfl, block_lt_of_cell (hc' 0 (by omega)), fun j hj => ?_⟩
      rw [hc' j (by omega)]
      simp [List.getD, hj]
    · have := hwz y (List.mem_of_mem_take hy)
      have := bounds_u8 this
      omega
/-- A slice of slices of bytes that came in. -/
theorem trod_bss {t e e1 : TypeId} {A : Option Addr} {n c : Nat} {d : DataW H} {p : List MemPlace} (ht : P.underlying t = some (.slice e)) (hc : P.cellsOf e = 1) (ht1 : P.underlying e = some (.slice e1)) (he1 : P.underlying e1 = some (.int .u8)) (hc1 : P.cellsOf e1 = 1)
    (h : DataW.Trod enc P w 0 spare held t (.slice A n c) d p) : ∃ xss, Bss w w.heap.size A n xss ∧ (∀ xs ∈ xss, IsBy xs) := by
  obtain ⟨fuel, hf⟩ := h
  rcases Go.Deep.open_slice1 ht hc hf with ⟨hcs, _⟩ | ⟨a, len, cap, m, k, V, D, Pl, hcs, _, hl, hm, hmm, _, hx⟩
  · simp [Value.cells] at hcs
    obtain ⟨rfl, rfl, rfl⟩ := hcs
    exact ⟨[], ⟨rfl, fun h => absurd h (by omega)⟩, fun _ h => by simp at h⟩
  · simp [Value.cells] at hcs
    obtain ⟨rfl, rfl, rfl⟩ := hcs
    have hnm : n ≤ m := by rw [hmm]; split <;> omega
    have key : ∀ i, i < n → ∃ xs, IsBy xs ∧ ∃ A' n' c', w.cell? (a.add i) = some (.slice A' n' c') ∧ Bs w w.heap.size A' n' xs := by
      intro i hi
      obtain ⟨h1, h2⟩ := hx i (by omega)
      obtain ⟨A', n', c', xs, hv, hb, hby, _, _⟩ := trod_bs ht1 he1 hc1 h2
      exact ⟨xs, hby, A', n', c', by rw [h1, hv], hb⟩
    obtain ⟨f, hf'⟩ := Go.Deep.choose_lt (α := List Int) key
    refine ⟨(List.range n).map f, ⟨by simp, fun h0 => ?_⟩, fun xs hxs => ?_⟩
    · obtain ⟨b, off, spot⟩ := a
      obtain ⟨_, A0, n0, c0, hc0, _⟩ := hf' 0 h0
      have hspot : spot = none := by simpa [Addr.add] using World.cell?_spot hc0
      subst hspot
      refine ⟨b, off, rfl, ?_, fun j hj => ?_⟩
      · have := block_lt_of_cell hc0
        simpa [Addr.add] using this
      · obtain ⟨_, A', n', c', hc', hb'⟩ := hf' j hj
        rw [addr_plain] at hc'
        exact ⟨A', n', c', hc', by simpa [List.getD, hj] using hb'⟩
    · simp only [List.mem_map, List.mem_range] at hxs
      obtain ⟨i, hi, rfl⟩ := hxs
      exact (hf' i hi).1
end
end Go.Proofs.YtpbkejmffddelaaGreat

/-
  From the readings of arguments to the walks' words: arrays of bytes, by value. Own work.
-/
namespace Go.Proofs.YtpbkejmffddelaaGreat
open Go.RowKit Go.ChangeShapes Go.WideShapes
section
variable {H : Type} {enc : TypeId × Value → H} {P : Program} {w : World} {spare : Nat → Bool} {held : Bool} {base : Nat}
theorem by_of_wf {z : Int} (h : (Lit.int .u8 z).wf = true) : 0 ≤ z ∧ z < 256 := by
  have := bounds_u8 h
  omega
/-- An array of bytes. -/
theorem trod_bytes {t e n : Nat} {fuel : Nat} {cs : List Value} {x : DataW H × List MemPlace} (ht : P.underlying t = some (.array n e)) (he : P.underlying e = some (.int .u8)) (hce : P.cellsOf e = 1) (hct : P.cellsOf t = n)
    (h : DataW.trod enc P w base spare held fuel t cs = some x) : ∃ xs : List Int, cs = bv xs ∧ xs.length = n ∧ IsBy xs := by
  obtain ⟨ys, m, _, _, hl, hn, hel⟩ := DataW.trod_array ht h
  rw [hct] at hl
  have key : ∀ i, i < n → ∃ z : Int, cs[i]? = some (.int .u8 z) ∧ 0 ≤ z ∧ z < 256 := by
    intro i hi
    have h1 := hel i hi
    rw [List.getElem?_eq_getElem (show i < ys.length by omega), hce] at h1
    obtain ⟨z, hz, _, hw⟩ := DataW.trod_int he h1
    have h2 : cs[i]? = some (.int .u8 z) := by
      have := congrArg (·[0]?) hz
      simpa [List.getElem?_take, List.getElem?_drop] using this
    exact ⟨z, h2, by_of_wf hw⟩
  refine ⟨cs.map intOf, ?_, by rw [List.length_map, hl], fun y hy => ?_⟩
  · apply List.ext_getElem?
    intro i
    by_cases hi : i < n
    · obtain ⟨z, hz, _⟩ := key i hi
      simp [bv, hz, intOf]
    · rw [List.getElem?_eq_none (by omega), List.getElem?_eq_none (by simp [bv]; omega)]
  · obtain ⟨v, hv, rfl⟩ := List.mem_map.1 hy
    obtain ⟨i, hi⟩ := List.getElem?_of_mem hv
    have hin : i < n := by
      have := (List.getElem?_eq_some_iff.1 hi).1
      omega
    obtain ⟨z, hz, hb⟩ := key i hin
    rw [hi] at hz
    injection hz with hz
    rw [hz]
    exact hb
/-- An array of numbers. -/
theorem trod_nums {t e n : Nat} {kd : IntKind} {fuel : Nat} {cs : List Value} {x : DataW H × List MemPlace} (ht : P.underlying t = some (.array n e)) (he : P.underlying e = some (.int kd)) (hce : P.cellsOf e = 1) (hct : P.cellsOf t = n)
    (h : DataW.trod enc P w base spare held fuel t cs = some x) : ∃ xs : List Int, cs = xs.map (Value.int kd) ∧ xs.length = n ∧ ∀ y ∈ xs, (Lit.int kd y).wf = true := by
  obtain ⟨ys, m, _, _, hl, hn, hel⟩ := DataW.trod_array ht h
  rw [hct] at hl
  have key : ∀ i, i < n → ∃ z : Int, cs[i]? = some (.int kd z) ∧ (Lit.int kd z).wf = true := by
    intro i hi
    have h1 := hel i hi
    rw [List.getElem?_eq_getElem (show i < ys.length by omega), hce] at h1
    obtain ⟨z, hz, _, hw⟩ := DataW.trod_int he h1
    have h2 : cs[i]? = some (.int kd z) := by
      have := congrArg (·[0]?) hz
      simpa [List.getElem?_take, List.getElem?_drop] using this
    exact ⟨z, h2, hw⟩
  refine ⟨cs.map intOf, ?_, by rw [List.length_map, hl], fun y hy => ?_⟩
  · apply List.ext_getElem?
    intro i
    by_cases hi : i < n
    · obtain ⟨z, hz, _⟩ := key i hi
      simp [hz, intOf]
    · rw [List.getElem?_eq_none (by omega), List.getElem?_eq_none (by simp; omega)]
  · obtain ⟨v, hv, rfl⟩ := List.mem_map.1 hy
    obtain ⟨i, hi⟩ := List.getElem?_of_mem hv
    have hin : i < n := by
      have := (List.getElem?_eq_some_iff.1 hi).1
      omega
    obtain ⟨z, hz, hb⟩ := key i hin
    rw [hi] at hz
    injection hz with hz
    rw [hz]
    exact hb
end
theorem wf_u16 {x : Int} (h : (Lit.int .u16 x).wf = true) : 0 ≤ x ∧ x < 65536 := by
  simp only [Lit.wf, Bool.and_eq_true, decide_eq_true_eq] at h
  have hmin : IntKind.u16.min = 0 := rfl
  have hmax : IntKind.u16.max = 65535 := rfl
  rw [hmin, hmax] at h
  omega
end Go.Proofs.YtpbkejmffddelaaGreat

/-
  A region whose order of evaluation is open, walked once whatever the order: every operation has a specification of the value that it leaves; the specifications hang on no order.
  Plain theorems about the model's regions, over whatever program. Own work; nothing of the program is in it.
-/
namespace Go.Proofs.YtpbkejmffddelaaGreat
open Go.RowKit

/-- Each operation waits for earlier ones alone. -/
def dagB (ops : Array Oper) : Bool := (List.range ops.size).all fun i => ((ops[i]?).map fun o => o.after.all fun e => decide (e.on < i) || !Region.binds .any e).getD false

/-- What has been carried out is closed: with an operation all that it waits for. -/
def ClosedL (ops : Array Oper) (L : Array Bool) : Prop := ∀ (j : Nat) (o : Oper), ops[j]? = some o → L.getD j false = true → ∀ e, e ∈ o.after → Region.binds .any e = true → L.getD e.on false = true

theorem getD_set_ne {L : Array Bool} {i j : Nat} (b d : Bool) (h : j ≠ i) : (L.setIfInBounds i b).getD j d = L.getD j d := by
  simp [Array.getD_eq_getD_getElem?, Ne.symm h]

theorem getD_set_eq {L : Array Bool} {i : Nat} (b d : Bool) (h : i < L.size) : (L.setIfInBounds i b).getD i d = b := by
  simp [Array.getD_eq_getD_getElem?, h]

theorem ready_spec {ops : Array Oper} {L : Array Bool} {i : Nat} (h : i ∈ Region.ready .any ops L) :
    i < ops.size ∧ L.getD i true = false ∧ ∃ o, ops[i]? = some o ∧ ∀ e, e ∈ o.after → Region.binds .any e = true → L.getD e.on false = true := by
  simp only [Region.ready, List.mem_filter, List.mem_range, Bool.and_eq_true, Bool.not_eq_true'] at h
  obtain ⟨h1, h2, h3⟩ := h
  refine ⟨h1, h2, ops[i], Array.getElem?_eq_getElem h1, fun e he hb => ?_⟩
  simp only [Array.getElem?_eq_getElem h1, Option.map_some, Option.getD_some, Array.all_eq_true, Bool.or_eq_true, Bool.not_eq_true'] at h3
  obtain ⟨k, hk, rfl⟩ := Array.getElem_of_mem he
  rcases h3 k hk with h4 | h4
  · rw [hb] at h4; cases h4
  · exact h4

theorem all_of_ready {ops : Array Oper} {L : Array Bool} (hd : dagB ops = true) (hs : L.size = ops.size) (h : Region.ready .any ops L = []) : ∀ i, i < ops.size → L.getD i false = true := by
  intro i
  induction i using Nat.strongRecOn with
  | _ i ih =>
    intro hi
    rcases Bool.eq_false_or_eq_true (L.getD i true) with ht | hf
    · simp [Array.getD_eq_getD_getElem?, Array.getElem?_eq_getElem (show i < L.size by omega)] at ht ⊢
      exact ht
    · exfalso
      have hm : i ∈ Region.ready .any ops L := by
        simp only [Region.ready, List.mem_filter, List.mem_range, Bool.and_eq_true, Bool.not_eq_true']
        refine ⟨hi, hf, ?_⟩
        simp only [dagB, List.all_eq_true, List.mem_range] at hd
        have hdi := hd i hi
        simp only [Array.getElem?_eq_getElem hi, Option.map_some, Option.getD_some, Array.all_eq_true, decide_eq_true_eq, Bool.or_eq_true] at hdi ⊢
        intro k hk
        rcases hdi k hk with h1 | h1
        · exact .inr (ih _ h1 (by omega))
        · exact .inl h1
      rw [h] at hm
      cases hm

/-- THE RULE: an invariant over what has been carried out. -/
theorem wp_region_inv {P : Program} {id : Nat} {ops : Array Oper} {Q : Exit → Act → World → Prop} {a : Act} {w : World} (hm : P.follows .mixedOrders = true) (hd : dagB ops = true)
    (Inv : Array Bool → Act → World → Prop) (h0 : Inv (Array.replicate ops.size false) a w.drew)
    (hs : ∀ (i : Nat) (o : Oper), ops[i]? = some o → ∀ (L : Array Bool) (a : Act) (w : World), L.size = ops.size → ClosedL ops L → L.getD i false = false → (∀ e, e ∈ o.after → Region.binds .any e = true → L.getD e.on false = true) → Inv L a w →
      ∀ K : Act → World → Prop, (∀ a w, Inv (L.setIfInBounds i true) a w → K a w) → if Region.wanted o (yielded ops a.tmps) = true then Oper.wp P o a w K Q else K (a.put o.dst undef) w)
    (he : ∀ (L : Array Bool) (a : Act) (w : World), (∀ i, i < ops.size → L.getD i false = true) → Inv L a w → Q .normal a w) : (Code.region id ops true).wp P Q a w := by
  refine wp_region_any hm ?_
  change wpAny P .any ops Q ops.size (Array.replicate ops.size false) a w.drew
  have key : ∀ (fuel : Nat) (L : Array Bool) (a : Act) (w : World), L.size = ops.size → ClosedL ops L → (L.toList.filter (! ·)).length ≤ fuel → Inv L a w → wpAny P .any ops Q fuel L a w := by
    intro fuel
    induction fuel with
    | zero =>
      intro L a w hL _ hc hI
      have hall : ∀ i, i < ops.size → L.getD i false = true := by
        intro i hi
        have hnil : L.toList.filter (! ·) = [] := List.eq_nil_of_length_eq_zero (by omega)
        rw [List.filter_eq_nil_iff] at hnil
        have := hnil L[i] (by simp)
        simp only [Array.getD_eq_getD_getElem?, Array.getElem?_eq_getElem (show i < L.size by omega), Option.getD_some]
        simpa using this
      refine ⟨?_, he L a w hall hI⟩
      apply List.eq_nil_iff_forall_not_mem.2
      intro i hi
      obtain ⟨h1, h2, _⟩ := ready_spec hi
      have := hall i h1
      simp only [Array.getD_eq_getD_getElem?, Array.getElem?_eq_getElem (show i < L.size by omega), Option.getD_some] at this h2
      rw [this] at h2; cases h2
    | succ fuel ih =>
      intro L a w hL hcl hc hI
      refine ⟨fun hr => he L a w (all_of_ready hd hL hr) hI, fun i hi => ?_⟩
      obtain ⟨h1, h2, o, ho, haf⟩ := ready_spec hi
      have hif : L.getD i false = false := by
        simp only [Array.getD_eq_getD_getElem?, Array.getElem?_eq_getElem (show i < L.size by omega), Option.getD_some] at h2 ⊢; exact h2
      refine wpOp_step ho fun K' hK' => hs i o ho L a w hL hcl hif haf hI K' fun a' w' hI' => hK' a' w' (ih _ a' w' (by simpa using hL) ?_ ?_ hI')
      · intro j oj hoj hj e hej heb
        by_cases hji : j = i
        · subst hji
          rw [ho] at hoj
          injection hoj with hoj
          subst hoj
          by_cases hei : e.on = j
          · rw [hei]; exact getD_set_eq _ _ (by omega)
          · rw [getD_set_ne _ _ hei]; exact haf e hej heb
        · rw [getD_set_ne _ _ hji] at hj
          by_cases hei : e.on = i
          · rw [hei]; exact getD_set_eq _ _ (by omega)
          · rw [getD_set_ne _ _ hei]; exact hcl j oj hoj hj e hej heb
      · have hlt : i < L.toList.length := by simpa using (show i < L.size by omega)
        have hLi : L.toList[i] = false := by
          simp only [Array.getD_eq_getD_getElem?, Array.getElem?_eq_getElem (show i < L.size by omega), Option.getD_some] at hif
          simpa using hif
        have e1 : L.toList = L.toList.take i ++ L.toList[i] :: L.toList.drop (i + 1) := by rw [← List.drop_eq_getElem_cons hlt, List.take_append_drop]
        have e2 : (L.setIfInBounds i true).toList = L.toList.take i ++ true :: L.toList.drop (i + 1) := by
          rw [Array.toList_setIfInBounds, List.set_eq_take_append_cons_drop, if_pos hlt]
        rw [e1, hLi] at hc
        rw [e2]
        simp only [List.filter_append, List.length_append, List.filter_cons, Bool.not_false, Bool.not_true, if_true, List.length_cons] at hc ⊢
        simp
        omega
  refine key _ _ a _ (by simp) ?_ ?_ h0
  · intro j o _ hj
    simp [Array.getD_eq_getD_getElem?, Array.getElem?_replicate] at hj
    split at hj <;> simp at hj
  · simp

/-! ### What must have been carried out ahead of an operation, reckoned by the kernel on numbers' bits -/

def maskOf (after : Array Edge) : Nat := after.toList.foldl (fun m e => if Region.binds .any e then m ||| 2 ^ e.on else m) 0

def sweep (l : List Oper) : Nat → Nat → Nat
  | 0, M => M
  | k + 1, M => sweep l k (if M.testBit k then M ||| ((l[k]?).map fun o => maskOf o.after).getD 0 else M)

/-- Operation j is carried out ahead of operation i. -/
def depB (l : List Oper) (i j : Nat) : Bool := (sweep l i (((l[i]?).map fun o => maskOf o.after).getD 0)).testBit j

/-- Operation j is carried out behind operation i, or is it. -/
def laterB (l : List Oper) (i j : Nat) : Bool := (sweep l (j + 1) (2 ^ j)).testBit i

/-- No operation that may come ahead of operation i writes slot s. -/
def oldB (l : List Oper) (i s : Nat) : Bool := (List.range l.length).all fun j => ((l[j]?).map fun o => o.dst != some s || laterB l i j).getD true

theorem maskOf_bit {after : Array Edge} {m : Nat} (h : (maskOf after).testBit m = true) : ∃ e, e ∈ after ∧ Region.binds .any e = true ∧ e.on = m := by
  have key : ∀ (l : List Edge) (acc : Nat), (l.foldl (fun m e => if Region.binds .any e then m ||| 2 ^ e.on else m) acc).testBit m = true → acc.testBit m = true ∨ ∃ e, e ∈ l ∧ Region.binds .any e = true ∧ e.on = m := by
    intro l
    induction l with
    | nil => intro acc h; exact .inl h
    | cons e l ih =>
      intro acc h
      simp only [List.foldl_cons] at h
      rcases ih _ h with h | ⟨e', he, hb, ho⟩
      · by_cases hb : Region.binds .any e = true
        · rw [if_pos hb, Nat.testBit_or, Bool.or_eq_true] at h
          rcases h with h | h
          · exact .inl h
          · rw [Nat.testBit_two_pow] at h
            exact .inr ⟨e, by simp, hb, of_decide_eq_true h⟩
        · rw [if_neg hb] at h; exact .inl h
      · exact .inr ⟨e', List.mem_cons_of_mem _ he, hb, ho⟩
  rcases key after.toList 0 h with h | ⟨e, he, hb, ho⟩
  · simp at h
  · exact ⟨e, Array.mem_toList_iff.1 he, hb, ho⟩

theorem sweep_closed {l : List Oper} {L : Array Bool} (hc : ClosedL l.toArray L) : ∀ (k M : Nat), (∀ m, M.testBit m = true → L.getD m false = true) → ∀ m, (sweep l k M).testBit m = true → L.getD m false = true := by
  intro k
  induction k with
  | zero => intro M h; exact h
  | succ k ih =>
    intro M h
    refine ih _ fun m hm => ?_
    by_cases hk : M.testBit k = true
    · rw [if_pos hk, Nat.testBit_or, Bool.or_eq_true] at hm
      rcases hm with hm | hm
      · exact h m hm
      · cases ho : l[k]? with
        | none => simp [ho] at hm
        | some o =>
          simp only [ho, Option.map_some, Option.getD_some] at hm
          obtain ⟨e, he, hb, rfl⟩ := maskOf_bit hm
          exact hc k o (by simpa using ho) (h k hk) e he hb
    · rw [if_neg hk] at hm; exact h m hm

/-- Where operation i stands when it is carried out. -/
structure Now (l : List Oper) (i : Nat) (o : Oper) (L : Array Bool) : Prop where
  size : L.size = l.length
  op : l[i]? = some o
  closed : ClosedL l.toArray L
  not_yet : L.getD i false = false
  after : ∀ e, e ∈ o.after → Region.binds .any e = true → L.getD e.on false = true

section
variable {l : List Oper} {i : Nat} {o : Oper} {L : Array Bool}
theorem Now.dep (h : Now l i o L) {j : Nat} (hb : depB l i j = true) : L.getD j false = true := by
  refine sweep_closed h.closed _ _ (fun m hm => ?_) j hb
  simp only [h.op, Option.map_some, Option.getD_some] at hm
  obtain ⟨e, he, hb, rfl⟩ := maskOf_bit hm
  exact h.after e he hb
theorem Now.later (h : Now l i o L) {j : Nat} (hb : laterB l i j = true) : L.getD j false = false := by
  cases hj : L.getD j false with
  | false => rfl
  | true =>
    have := sweep_closed h.closed (j + 1) (2 ^ j) (fun m hm => by rw [Nat.testBit_two_pow] at hm; rw [← of_decide_eq_true hm]; exact hj) i hb
    rw [h.not_yet] at this; cases this
end

/-- What holds in the middle of the region. -/
structure At (l : List Oper) (t0 : Array Value) (ds0 : List Deferred) (S : Nat → Value → World → Prop) (R : World → World → Prop) (I : Array Bool → Act → World → Prop) (w0 : World) (L : Array Bool) (a : Act) (w : World) : Prop where
  defers : a.defers = ds0
  size : a.tmps.size = t0.size
  old : ∀ s, (∀ (j : Nat) (o : Oper), l[j]? = some o → L.getD j false = true → o.dst ≠ some s) → a.tmps.getD s undef = t0.getD s undef
  rel : R w0 w
  inv : I L a w
  spec : ∀ (j : Nat) (o : Oper) (d : Tmp), l[j]? = some o → L.getD j false = true → o.dst = some d → S j (a.tmps.getD d undef) w

section
variable {l : List Oper} {t0 : Array Value} {ds0 : List Deferred} {S : Nat → Value → World → Prop} {R : World → World → Prop} {I : Array Bool → Act → World → Prop} {w0 : World} {L : Array Bool} {a : Act} {w : World} {i : Nat} {o : Oper}

/-- What an operation carried out ahead has left. -/
theorem At.dep (h : At l t0 ds0 S R I w0 L a w) (n : Now l i o L) (j d : Nat) (hb : depB l i j = true) (hd : (l[j]?).bind (·.dst) = some d) : S j (a.tmps.getD d undef) w := by
  cases hj : l[j]? with
  | none => simp [hj] at hd
  | some oj => exact h.spec j oj d hj (n.dep hb) (by simpa [hj] using hd)

/-- A slot that nobody has written yet. -/
theorem At.var (h : At l t0 ds0 S R I w0 L a w) (n : Now l i o L) (s : Nat) (hb : oldB l i s = true) : a.tmps.getD s undef = t0.getD s undef := by
  refine h.old s fun j oj hj hl hd => ?_
  simp only [oldB, List.all_eq_true, List.mem_range] at hb
  have hlt : j < l.length := (List.getElem?_eq_some_iff.1 hj).1
  have := hb j hlt
  simp only [hj, Option.map_some, Option.getD_some, Bool.or_eq_true, bne_iff_ne, ne_eq] at this
  rcases this with h1 | h1
  · exact h1 hd
  · rw [n.later h1] at hl; cases hl

/-- A guard. -/
theorem At.wanted (h : At l t0 ds0 S R I w0 L a w) (g : Nat) (b : Bool) (d : Nat) (ho : o.guard = some (g, b)) (hd : (l[g]?).bind (·.dst) = some d) (hs : d < t0.size) (hv : a.tmps.getD d undef = .bool b) :
    Region.wanted o (yielded l.toArray a.tmps) = true := by
  have hlt : d < a.tmps.size := by rw [h.size]; exact hs
  have hv' : a.tmps[d]? = some (.bool b) := by
    simp only [Array.getD_eq_getD_getElem?, Array.getElem?_eq_getElem hlt, Option.getD_some] at hv
    rw [Array.getElem?_eq_getElem hlt, hv]
  simp [Region.wanted, ho, yielded, hd, hv']
end

def AllOps (Pr : Nat → Oper → Prop) : Nat → List Oper → Prop
  | _, [] => True
  | k, o :: os => Pr k o ∧ AllOps Pr (k + 1) os

theorem AllOps.nil_ {Pr : Nat → Oper → Prop} {k : Nat} : AllOps Pr k [] := trivial
theorem AllOps.cons_ {Pr : Nat → Oper → Prop} {k : Nat} {o : Oper} {os : List Oper} (h : Pr k o) (t : AllOps Pr (k + 1) os) : AllOps Pr k (o :: os) := ⟨h, t⟩
theorem AllOps.get {Pr : Nat → Oper → Prop} : ∀ (l : List Oper) (k : Nat), AllOps Pr k l → ∀ (i : Nat) (o : Oper), l[i]? = some o → Pr (k + i) o := by
  intro l
  induction l with
  | nil => intro k _ i o h; simp at h
  | cons x l ih =>
    intro k hall i o h
    obtain ⟨h1, h2⟩ := hall
    cases i with
    | zero => simp at h; subst h; exact h1
    | succ i =>
      have := ih (k + 1) h2 i o (by simpa using h)
      rw [show k + (i + 1) = k + 1 + i from by omega]
      exact this
theorem AllOps.mk {Pr : Nat → Oper → Prop} : ∀ (l : List Oper) (k : Nat), (∀ (i : Nat) (o : Oper), l[i]? = some o → Pr (k + i) o) → AllOps Pr k l := by
  intro l
  induction l with
  | nil => intro k _; trivial
  | cons x l ih =>
    intro k h
    refine ⟨by simpa using h 0 x rfl, ih (k + 1) fun i o ho => ?_⟩
    have := h (i + 1) o (by simpa using ho)
    rwa [show k + (i + 1) = k + 1 + i from by omega] at this

/-- The slots behind the region. -/
def putOps : List Oper → Nat → (Nat → Value) → Array Value → Array Value
  | [], _, _, t => t
  | o :: os, k, V, t => putOps os (k + 1) V (match o.dst with | some d => t.setIfInBounds d (V k) | none => t)

theorem getD_setV (t : Array Value) (d s : Nat) (v : Value) (h : d < t.size) : (t.setIfInBounds d v).getD s undef = if d = s then v else t.getD s undef := by
  simp only [Array.getD_eq_getD_getElem?, Array.getElem?_setIfInBounds]
  by_cases hds : d = s
  · subst hds; simp [h]
  · simp [hds]

theorem putOps_eq (t1 : Array Value) (V : Nat → Value) : ∀ (l : List Oper) (k : Nat) (t : Array Value), t.size = t1.size → (∀ (i : Nat) (o : Oper) (d : Tmp), l[i]? = some o → o.dst = some d → d < t1.size ∧ V (k + i) = t1.getD d undef) →
    (∀ s, (∀ o ∈ l, o.dst ≠ some s) → t.getD s undef = t1.getD s undef) → putOps l k V t = t1 := by
  intro l
  induction l with
  | nil =>
    intro k t hs _ h
    simp only [putOps]
    refine Array.ext hs fun i h1 h2 => ?_
    have := h i (by simp)
    simpa [Array.getD_eq_getD_getElem?, Array.getElem?_eq_getElem h1, Array.getElem?_eq_getElem h2] using this
  | cons o os ih =>
    intro k t hs hV h
    simp only [putOps]
    refine ih (k + 1) _ ?_ (fun i o' d ho hd => ?_) fun s hno => ?_
    · cases o.dst <;> simp [hs]
    · have := hV (i + 1) o' d (by simpa using ho) hd
      rwa [show k + (i + 1) = k + 1 + i from by omega] at this
    · cases hd : o.dst with
      | none => exact h s fun o' ho' => by rcases List.mem_cons.1 ho' with rfl | h'; (· rw [hd]; simp); exact hno o' h'
      | some d =>
        obtain ⟨hlt, hv⟩ := hV 0 o d (by simp) hd
        simp only
        rw [getD_setV _ _ _ _ (by rw [hs]; exact hlt)]
        by_cases hds : d = s
        · subst hds; rw [if_pos rfl]; simpa using hv
        · rw [if_neg hds]
          refine h s fun o' ho' => ?_
          rcases List.mem_cons.1 ho' with rfl | h'
          · rw [hd]; intro hc; injection hc with hc; exact hds hc
          · exact hno o' h'

/-- No two operations write one slot; all slots are there. -/
def dstsB (l : List Oper) (n : Nat) : Bool := (List.range l.length).all fun i => ((l[i]?).bind (·.dst)).all fun d => decide (d < n) && (List.range l.length).all fun j => j == i || ((l[j]?).bind (·.dst)) != some d

theorem dstsB_spec {l : List Oper} {n : Nat} (h : dstsB l n = true) {i : Nat} {o : Oper} {d : Tmp} (ho : l[i]? = some o) (hd : o.dst = some d) : d < n ∧ ∀ (j : Nat) (oj : Oper), l[j]? = some oj → oj.dst = some d → j = i := by
  simp only [dstsB, List.all_eq_true, List.mem_range] at h
  have hi : i < l.length := (List.getElem?_eq_some_iff.1 ho).1
  have h1 := h i hi
  simp only [ho, Option.bind_some, hd, Option.all_some, Bool.and_eq_true, decide_eq_true_eq, List.all_eq_true, List.mem_range, Bool.or_eq_true, beq_iff_eq, bne_iff_ne, ne_eq] at h1
  refine ⟨h1.1, fun j oj hj hdj => ?_⟩
  rcases h1.2 j (List.getElem?_eq_some_iff.1 hj).1 with h2 | h2
  · exact h2
  · exact absurd (by simp [hj, hdj]) h2

/-- THE RULE BY SPECIFICATIONS. S: what each operation leaves; R: what may befall memory; I: of memory that is written, by how far the region has come. -/
theorem wp_region_specs {P : Program} {id : Nat} {l : List Oper} {Q : Exit → Act → World → Prop} {t0 : Array Value} {ds0 : List Deferred} {w : World}
    (S : Nat → Value → World → Prop) (R : World → World → Prop) (I : Array Bool → Act → World → Prop)
    (hm : P.follows .mixedOrders = true) (hd : dagB l.toArray = true) (hu : dstsB l t0.size = true)
    (hR0 : ∀ w, R w w) (hRt : ∀ a b c, R a b → R b c → R a c) (hS : ∀ j v w w', R w w' → S j v w → S j v w') (hI0 : I (Array.replicate l.length false) ⟨t0, ds0⟩ w.drew)
    (obs : AllOps (fun i o => ∀ (L : Array Bool) (a : Act) (w1 : World), Now l i o L → At l t0 ds0 S R I w.drew L a w1 → ∀ K : Act → World → Prop, (∀ v w', S i v w' → R w1 w' → I (L.setIfInBounds i true) (a.put o.dst v) w' → K (a.put o.dst v) w') →
      if Region.wanted o (yielded l.toArray a.tmps) = true then Oper.wp P o a w1 K Q else K (a.put o.dst undef) w1) 0 l)
    (he : ∀ (V : Nat → Value) (L : Array Bool) (w' : World), (∀ i, i < l.length → L.getD i false = true) → (∀ (i d : Nat), (l[i]?).bind (·.dst) = some d → S i (V i) w') → R w.drew w' → I L ⟨putOps l 0 V t0, ds0⟩ w' → Q .normal ⟨putOps l 0 V t0, ds0⟩ w') :
    (Code.region id l.toArray true).wp P Q ⟨t0, ds0⟩ w := by
  refine wp_region_inv hm hd (At l t0 ds0 S R I w.drew) ⟨rfl, rfl, fun _ _ => rfl, hR0 _, by simpa using hI0, fun j o d _ hL _ => ?_⟩ ?_ ?_
  · simp [Array.getD_eq_getD_getElem?, Array.getElem?_replicate] at hL
    split at hL <;> simp at hL
  · intro i o ho L a w1 hsz hcl hif haf hAt K hK
    have ho' : l[i]? = some o := by simpa using ho
    have hi : i < l.length := (List.getElem?_eq_some_iff.1 ho').1
    have hn : Now l i o L := ⟨by simpa using hsz, ho', hcl, hif, haf⟩
    have hob := AllOps.get l 0 obs i o ho'
    rw [Nat.zero_add] at hob
    refine hob L a w1 hn hAt K fun v w' hv hr hi' => hK _ _ ?_
    have hset : ∀ j, j ≠ i → (L.setIfInBounds i true).getD j false = L.getD j false := fun j hj => getD_set_ne _ _ hj
    refine ⟨?_, ?_, fun s hno => ?_, hRt _ _ _ hAt.rel hr, hi', fun j oj d hj hL hdj => ?_⟩
    · cases o.dst <;> exact hAt.defers
    · cases o.dst <;> simp [Act.put, hAt.size]
    · have hold : a.tmps.getD s undef = t0.getD s undef := hAt.old s fun j oj hj hL => hno j oj hj (by
        by_cases hji : j = i
        · subst hji; exact getD_set_eq _ _ (by rw [hn.size]; exact hi)
        · rw [hset j hji]; exact hL)
      have hne := hno i o ho' (getD_set_eq _ _ (by rw [hn.size]; exact hi))
      cases hdo : o.dst with
      | none => simpa [Act.put] using hold
      | some d =>
        simp only [Act.put]
        rw [getD_setV _ _ _ _ (by rw [hAt.size]; exact (dstsB_spec hu ho' hdo).1), if_neg (fun e => hne (by rw [hdo, e]))]
        exact hold
    · by_cases hji : j = i
      · subst hji
        rw [ho'] at hj
        injection hj with hj
        subst hj
        rw [hdj]
        simp only [Act.put]
        rw [getD_setV _ _ _ _ (by rw [hAt.size]; exact (dstsB_spec hu ho' hdj).1), if_pos rfl]
        exact hv
      · rw [hset j hji] at hL
        have h1 := hS _ _ _ _ hr (hAt.spec j oj d hj hL hdj)
        cases hdo : o.dst with
        | none => simpa [Act.put] using h1
        | some d' =>
          simp only [Act.put]
          rw [getD_setV _ _ _ _ (by rw [hAt.size]; exact (dstsB_spec hu ho' hdo).1), if_neg (fun e => hji ((dstsB_spec hu ho' hdo).2 j oj hj (by rw [hdj, e])))]
          exact h1
  · intro L a w1 hL hAt
    have hput := putOps_eq a.tmps (fun i => match (l[i]?).bind (·.dst) with | some d => a.tmps.getD d undef | none => undef) l 0 t0 hAt.size.symm (fun i o d ho hdo => ⟨by rw [hAt.size]; exact (dstsB_spec hu ho hdo).1, by simp [ho, hdo]⟩) (fun s hno => (hAt.old s fun j o hj _ => hno o (List.mem_of_getElem? hj)).symm)
    have ha : (⟨putOps l 0 (fun i => match (l[i]?).bind (·.dst) with | some d => a.tmps.getD d undef | none => undef) t0, ds0⟩ : Act) = a := by
      rw [hput, ← hAt.defers]
    have hV := he (fun i => match (l[i]?).bind (·.dst) with | some d => a.tmps.getD d undef | none => undef) L w1 (by simpa using hL) (fun i d hid => by
      simp only [hid]
      cases hi : l[i]? with
      | none => simp [hi] at hid
      | some o => exact hAt.spec i o d hi (hL i (by simpa using (List.getElem?_eq_some_iff.1 hi).1)) (by simpa [hi] using hid)) hAt.rel (by rw [ha]; exact hAt.inv)
    rw [ha] at hV
    exact hV

end Go.Proofs.YtpbkejmffddelaaGreat

/-
  Regions whose order of evaluation is open: all operations but a few leave values that hang on no order; the few (calls, stores, what makes memory) keep an invariant.
  Plain theorems about the model's regions, over whatever program. Own work; nothing of the program is in it.
-/
namespace Go.Proofs.YtpbkejmffddelaaGreat
open Go.RowKit

/-- Which of the few have been carried out. -/
def bitsOf (E : List Nat) (L : Array Bool) : List Bool := E.map fun i => L.getD i false
/-- The slots of the few. -/
def slotOf (l : List Oper) (i : Nat) (t : Array Value) : Value := match (l[i]?).bind (·.dst) with | some d => t.getD d undef | none => undef
def slotsOf (l : List Oper) (E : List Nat) (t : Array Value) : List Value := E.map fun i => slotOf l i t

/-- In the middle of a region. -/
structure Mid (l : List Oper) (t0 : Array Value) (ds0 : List Deferred) (Sv : Nat → Value → Prop) (E : List Nat) (J : List Bool → List Value → World → Prop) (L : Array Bool) (a : Act) (w : World) : Prop where
  atL : At l t0 ds0 (fun n v _ => Sv n v) (fun _ _ => True) (fun L a w => J (bitsOf E L) (slotsOf l E a.tmps) w) w L a w
  inv : J (bitsOf E L) (slotsOf l E a.tmps) w

section
variable {P : Program} {l : List Oper} {t0 : Array Value} {ds0 : List Deferred} {Sv : Nat → Value → Prop} {E : List Nat} {J : List Bool → List Value → World → Prop} {L : Array Bool} {a : Act} {w : World} {i : Nat} {o : Oper}

theorem Mid.dep (h : Mid l t0 ds0 Sv E J L a w) (n : Now l i o L) (j d : Nat) (hb : depB l i j = true) (hd : (l[j]?).bind (·.dst) = some d) : Sv j (a.tmps.getD d undef) := h.atL.dep n j d hb hd
theorem Mid.var (h : Mid l t0 ds0 Sv E J L a w) (n : Now l i o L) (s : Nat) (hb : oldB l i s = true) : a.tmps.getD s undef = t0.getD s undef := h.atL.var n s hb

/-- What a plain operation has to show: its value, whenever it comes up. -/
def PlainOb (P : Program) (l : List Oper) (t0 : Array Value) (ds0 : List Deferred) (Sv : Nat → Value → Prop) (E : List Nat) (J : List Bool → List Value → World → Prop) (i : Nat) (o : Oper) : Prop :=
  E.contains i = false ∧ ∀ (L : Array Bool) (a : Act) (w : World), Now l i o L → Mid l t0 ds0 Sv E J L a w → ∃ v, Sv i v ∧ (execOp a.eval o).run P w = .ok (.value v) w
/-- What one of the few has to show. -/
def FewOb (P : Program) (l : List Oper) (t0 : Array Value) (ds0 : List Deferred) (Sv : Nat → Value → Prop) (E : List Nat) (J : List Bool → List Value → World → Prop) (Q : Exit → Act → World → Prop) (i : Nat) (o : Oper) : Prop :=
  ∀ (L : Array Bool) (a : Act) (w : World), Now l i o L → Mid l t0 ds0 Sv E J L a w → ∀ K : Act → World → Prop,
    (∀ v w', Sv i v → J (E.map fun j => if j = i then true else L.getD j false) (E.map fun j => if j = i then (if o.dst = none then undef else v) else slotOf l j a.tmps) w' → K (a.put o.dst v) w') → Oper.wp P o a w K Q

theorem bits_few (h : Now l i o L) : bitsOf E (L.setIfInBounds i true) = E.map fun j => if j = i then true else L.getD j false := by
  unfold bitsOf
  apply List.map_congr_left
  intro j _
  have hi : i < L.size := by rw [h.size]; exact (List.getElem?_eq_some_iff.1 h.op).1
  by_cases e : j = i
  · rw [if_pos e, e]; exact getD_set_eq _ _ hi
  · rw [if_neg e]; exact getD_set_ne _ _ e
theorem slots_few (hu : dstsB l t0.size = true) (h : Now l i o L) (hs : a.tmps.size = t0.size) (v : Value) :
    slotsOf l E (a.put o.dst v).tmps = E.map fun j => if j = i then (if o.dst = none then undef else v) else slotOf l j a.tmps := by
  unfold slotsOf
  apply List.map_congr_left
  intro j _
  by_cases e : j = i
  · subst e
    rw [if_pos rfl]
    unfold slotOf
    rw [h.op]
    simp only [Option.bind_some]
    cases hd : o.dst with
    | none => simp
    | some d =>
      simp only [Act.put]
      rw [if_neg (by simp), getD_setV _ _ _ _ (by rw [hs]; exact (dstsB_spec hu h.op hd).1), if_pos rfl]
  · rw [if_neg e]
    unfold slotOf
    cases hj : l[j]? with
    | none => rfl
    | some oj =>
      simp only [Option.bind_some]
      cases hdj : oj.dst with
      | none => rfl
      | some d =>
        simp only
        cases hd : o.dst with
        | none => rfl
        | some d' =>
          simp only [Act.put]
          rw [getD_setV _ _ _ _ (by rw [hs]; exact (dstsB_spec hu h.op hd).1), if_neg (fun e' => e ((dstsB_spec hu h.op hd).2 j oj hj (by rw [hdj, e'])))]
theorem bits_plain (h : Now l i o L) (hE : E.contains i = false) : bitsOf E (L.setIfInBounds i true) = bitsOf E L := by
  rw [bits_few h]
  unfold bitsOf
  apply List.map_congr_left
  intro j hj
  have hji : j ≠ i := by
    intro hji
    rw [hji] at hj
    rw [List.contains_iff_mem.2 hj] at hE
    cases hE
  simp only [if_neg hji]
theorem slots_plain (hu : dstsB l t0.size = true) (h : Now l i o L) (hs : a.tmps.size = t0.size) (hE : E.contains i = false) (v : Value) : slotsOf l E (a.put o.dst v).tmps = slotsOf l E a.tmps := by
  rw [slots_few hu h hs]
  unfold slotsOf
  apply List.map_congr_left
  intro j hj
  have hji : j ≠ i := by
    intro hji
    rw [hji] at hj
    rw [List.contains_iff_mem.2 hj] at hE
    cases hE
  simp only [if_neg hji]
end

theorem putOps_other (V : Nat → Value) (d : Nat) : ∀ (l : List Oper) (k : Nat) (t : Array Value), (∀ o ∈ l, o.dst ≠ some d) → (putOps l k V t).getD d undef = t.getD d undef := by
  intro l
  induction l with
  | nil => intro k t _; rfl
  | cons o os ih =>
    intro k t h
    simp only [putOps]
    rw [ih _ _ fun o' ho' => h o' (List.mem_cons_of_mem _ ho')]
    cases hd : o.dst with
    | none => rfl
    | some d' =>
      have hne : d' ≠ d := fun e => h o (by simp) (by rw [hd, e])
      simp [Array.getD_eq_getD_getElem?, hne]
theorem putOps_slot (V : Nat → Value) (d : Nat) : ∀ (l : List Oper) (k i : Nat) (t : Array Value), d < t.size → (∀ (j : Nat) (oj : Oper), l[j]? = some oj → oj.dst = some d → j = i) → (l[i]?).bind (·.dst) = some d → (putOps l k V t).getD d undef = V (k + i) := by
  intro l
  induction l with
  | nil => intro k i t _ _ h; simp at h
  | cons o os ih =>
    intro k i t hs hu h
    simp only [putOps]
    cases i with
    | zero =>
      have hd : o.dst = some d := by simpa using h
      rw [putOps_other V d os _ _ fun o' ho' hd' => ?_]
      · rw [hd]
        simp only [Nat.add_zero]
        rw [getD_setV _ _ _ _ hs, if_pos rfl]
      · obtain ⟨j, hj⟩ := List.getElem?_of_mem ho'
        have := hu (j + 1) o' (by simpa using hj) hd'
        omega
    | succ i =>
      rw [ih (k + 1) i _ (by cases o.dst <;> simp [hs]) (fun j oj hj hdj => by have := hu (j + 1) oj (by simpa using hj) hdj; omega) (by simpa using h)]
      congr 1
      omega
/-- What the few leave in their slots. -/
def lastOf (l : List Oper) (V : Nat → Value) (i : Nat) : Value := if ((l[i]?).bind (·.dst)).isSome then V i else undef
theorem slots_last {l : List Oper} {t0 : Array Value} (hu : dstsB l t0.size = true) (E : List Nat) (V : Nat → Value) : slotsOf l E (putOps l 0 V t0) = E.map (lastOf l V) := by
  unfold slotsOf
  apply List.map_congr_left
  intro i _
  unfold slotOf lastOf
  cases hd : (l[i]?).bind (·.dst) with
  | none => simp
  | some d =>
    cases hi : l[i]? with
    | none => simp [hi] at hd
    | some o =>
      have hdo : o.dst = some d := by simpa [hi] using hd
      obtain ⟨h1, h2⟩ := dstsB_spec hu hi hdo
      simp only [Option.isSome_some, if_true]
      rw [putOps_slot V d l 0 i t0 h1 h2 hd, Nat.zero_add]

/-- THE RULE: E: the few; Sv: what each operation leaves; J: what the few keep, by which of them have been carried out, and by their slots. No operation is guarded. -/
theorem wp_region_vals {P : Program} {id : Nat} {l : List Oper} {Q : Exit → Act → World → Prop} {t0 : Array Value} {ds0 : List Deferred} {w : World}
    (E : List Nat) (Sv : Nat → Value → Prop) (J : List Bool → List Value → World → Prop)
    (hm : P.follows .mixedOrders = true) (hd : dagB l.toArray = true) (hu : dstsB l t0.size = true) (hg : (l.all fun o => o.guard.isNone) = true)
    (hE : (E.all fun i => decide (i < l.length)) = true) (hI0 : J (E.map fun _ => false) (slotsOf l E t0) w.drew)
    (obs : AllOps (fun i o => PlainOb P l t0 ds0 Sv E J i o ∨ FewOb P l t0 ds0 Sv E J Q i o) 0 l)
    (he : ∀ (V : Nat → Value) (w' : World), (∀ (i d : Nat), (l[i]?).bind (·.dst) = some d → Sv i (V i)) → J (E.map fun _ => true) (E.map (lastOf l V)) w' → Q .normal ⟨putOps l 0 V t0, ds0⟩ w') :
    (Code.region id l.toArray true).wp P Q ⟨t0, ds0⟩ w := by
  refine wp_region_specs (fun n v _ => Sv n v) (fun _ _ => True) (fun L a w => J (bitsOf E L) (slotsOf l E a.tmps) w) hm hd hu (fun _ => trivial) (fun _ _ _ _ _ => trivial) (fun _ _ _ _ _ h => h) ?_ ?_ ?_
  · have : bitsOf E (Array.replicate l.length false) = E.map fun _ => false := by
      unfold bitsOf
      apply List.map_congr_left
      intro j _
      simp only [Array.getD_eq_getD_getElem?, Array.getElem?_replicate]
      split <;> rfl
    show J (bitsOf E (Array.replicate l.length false)) _ _
    rw [this]; exact hI0
  · refine AllOps.mk l 0 fun i o ho => ?_
    rw [Nat.zero_add]
    have hob := AllOps.get l 0 obs i o ho
    rw [Nat.zero_add] at hob
    intro L a w1 n hAt K hK
    have hgo : o.guard = none := by
      have := List.all_eq_true.1 hg o (List.mem_of_getElem? ho)
      cases h : o.guard with
      | none => rfl
      | some _ => rw [h] at this; cases this
    have hw : Region.wanted o (yielded l.toArray a.tmps) = true := by simp [Region.wanted, hgo]
    rw [if_pos hw]
    have hMid : Mid l t0 ds0 Sv E J L a w1 := ⟨⟨hAt.defers, hAt.size, hAt.old, trivial, hAt.inv, hAt.spec⟩, hAt.inv⟩
    rcases hob with ⟨hE, hob⟩ | hob
    · obtain ⟨v, hv, hrun⟩ := hob L a w1 n hMid
      unfold Oper.wp
      rw [hrun]
      refine hK v w1 hv trivial ?_
      rw [bits_plain n hE, slots_plain hu n hAt.size hE]
      exact hAt.inv
    · refine hob L a w1 n hMid K fun v w' hv hJ => hK v w' hv trivial ?_
      rw [bits_few n, slots_few hu n hAt.size]
      exact hJ
  · intro V L w' hall hV _ hJ
    refine he V w' hV ?_
    have : bitsOf E L = E.map fun _ => true := by
      unfold bitsOf
      apply List.map_congr_left
      intro j hj
      exact hall j (of_decide_eq_true (List.all_eq_true.1 hE j hj))
    rw [← this, ← slots_last hu]; exact hJ

/-- An operation's guard: none, or one that holds. -/
def GOk (l : List Oper) (t0 : Array Value) (Sv : Nat → Value → Prop) (i : Nat) (o : Oper) : Prop :=
  o.guard = none ∨ ∃ (g : Nat) (b : Bool) (d : Nat), o.guard = some (g, b) ∧ depB l i g = true ∧ (l[g]?).bind (·.dst) = some d ∧ d < t0.size ∧ ∀ v, Sv g v → v = .bool b
/-- The same where operations are guarded and each guard holds. -/
theorem wp_region_valsG {P : Program} {id : Nat} {l : List Oper} {Q : Exit → Act → World → Prop} {t0 : Array Value} {ds0 : List Deferred} {w : World}
    (E : List Nat) (Sv : Nat → Value → Prop) (J : List Bool → List Value → World → Prop)
    (hm : P.follows .mixedOrders = true) (hd : dagB l.toArray = true) (hu : dstsB l t0.size = true)
    (hE : (E.all fun i => decide (i < l.length)) = true) (hI0 : J (E.map fun _ => false) (slotsOf l E t0) w.drew)
    (obs : AllOps (fun i o => GOk l t0 Sv i o ∧ (PlainOb P l t0 ds0 Sv E J i o ∨ FewOb P l t0 ds0 Sv E J Q i o)) 0 l)
    (he : ∀ (V : Nat → Value) (w' : World), (∀ (i d : Nat), (l[i]?).bind (·.dst) = some d → Sv i (V i)) → J (E.map fun _ => true) (E.map (lastOf l V)) w' → Q .normal ⟨putOps l 0 V t0, ds0⟩ w') :
    (Code.region id l.toArray true).wp P Q ⟨t0, ds0⟩ w := by
  refine wp_region_specs (fun n v _ => Sv n v) (fun _ _ => True) (fun L a w => J (bitsOf E L) (slotsOf l E a.tmps) w) hm hd hu (fun _ => trivial) (fun _ _ _ _ _ => trivial) (fun _ _ _ _ _ h => h) ?_ ?_ ?_
  · have : bitsOf E (Array.replicate l.length false) = E.map fun _ => false := by
      unfold bitsOf
      apply List.map_congr_left
      intro j _
      simp only [Array.getD_eq_getD_getElem?, Array.getElem?_replicate]
      split <;> rfl
    show J (bitsOf E (Array.replicate l.length false)) _ _
    rw [this]; exact hI0
  · refine AllOps.mk l 0 fun i o ho => ?_
    rw [Nat.zero_add]
    have hob := AllOps.get l 0 obs i o ho
    rw [Nat.zero_add] at hob
    intro L a w1 n hAt K hK
    have hMid0 : Mid l t0 ds0 Sv E J L a w1 := ⟨⟨hAt.defers, hAt.size, hAt.old, trivial, hAt.inv, hAt.spec⟩, hAt.inv⟩
    have hw : Region.wanted o (yielded l.toArray a.tmps) = true := by
      rcases hob.1 with hgo | ⟨g, b, d, hgo, hdep, hd, hs, hsv⟩
      · simp [Region.wanted, hgo]
      · exact hAt.wanted g b d hgo hd hs (hsv _ (hMid0.dep n g d hdep hd))
    replace hob := hob.2
    rw [if_pos hw]
    have hMid : Mid l t0 ds0 Sv E J L a w1 := ⟨⟨hAt.defers, hAt.size, hAt.old, trivial, hAt.inv, hAt.spec⟩, hAt.inv⟩
    rcases hob with ⟨hE, hob⟩ | hob
    · obtain ⟨v, hv, hrun⟩ := hob L a w1 n hMid
      unfold Oper.wp
      rw [hrun]
      refine hK v w1 hv trivial ?_
      rw [bits_plain n hE, slots_plain hu n hAt.size hE]
      exact hAt.inv
    · refine hob L a w1 n hMid K fun v w' hv hJ => hK v w' hv trivial ?_
      rw [bits_few n, slots_few hu n hAt.size]
      exact hJ
  · intro V L w' hall hV _ hJ
    refine he V w' hV ?_
    have : bitsOf E L = E.map fun _ => true := by
      unfold bitsOf
      apply List.map_congr_left
      intro j hj
      exact hall j (of_decide_eq_true (List.all_eq_true.1 hE j hj))
    rw [← this, ← slots_last hu]; exact hJ

/-! ### The values of plain operations -/
section
variable {P : Program} {o : Oper} {a : Act} {w : World} {v : Value}
theorem run_move (x : Operand) (ho : o.op = .move x) (hx : a.eval x = v) : (execOp a.eval o).run P w = .ok (.value v) w := by
  unfold execOp; simp only [ho, hx]; rfl
theorem run_assign (x : Operand) (ho : o.op = .assign x) (hx : a.eval x = v) : (execOp a.eval o).run P w = .ok (.value v) w := by
  unfold execOp; simp only [ho, hx]; rfl
theorem run_pick (c x y : Operand) (b : Bool) (ho : o.op = .pick c x y) (hc : a.eval c = .bool b) (hv : (if b then a.eval x else a.eval y) = v) : (execOp a.eval o).run P w = .ok (.value v) w := by
  unfold execOp
  simp only [ho, hc]
  cases b <;> simp at hv <;> simp [asBool, hv]
theorem run_pickT (c x y : Operand) (ho : o.op = .pick c x y) (hc : a.eval c = .bool true) (hv : a.eval x = v) : (execOp a.eval o).run P w = .ok (.value v) w := run_pick c x y true ho hc (by simpa using hv)
theorem run_pickF (c x y : Operand) (ho : o.op = .pick c x y) (hc : a.eval c = .bool false) (hv : a.eval y = v) : (execOp a.eval o).run P w = .ok (.value v) w := run_pick c x y false ho hc (by simpa using hv)
/-- 'x[:]' of an array. -/
theorem run_sliceAll (t : TypeId) (x : Operand) (n e : Nat) (g : Nat) (ho : o.op = .slice t x none none none) (hu : P.underlying t = some (.array n e)) (hs : ∀ w, (sizeOf e).run P w = .ok 1 w)
    (hx : a.eval x = .pointer (some ⟨g, 0, none⟩)) : (execOp a.eval o).run P w = .ok (.value (.slice (some ⟨g, 0, none⟩) n n)) w := by
  have hadd : (⟨g, 0, none⟩ : Addr).add 0 = ⟨g, 0, none⟩ := by unfold Addr.add; split <;> simp_all
  unfold execOp
  simp only [ho, hx, Option.map_none]
  simp [Instr.sliceAt, underlying, hu, Instr.sureAddr, Instr.sliceBounds, hs, hadd]
theorem run_indexA (t : TypeId) (x y : Operand) (n e : Nat) (g b i : Nat)
    (ho : o.op = .indexAddr t x y) (hu : P.underlying t = some (.array n e)) (hs : ∀ w, (sizeOf e).run P w = .ok 1 w) (hx : a.eval x = .pointer (some ⟨g, b, none⟩)) (hy : a.eval y = .int .i64 i) (hi : i < n) : (execOp a.eval o).run P w = .ok (.value (.pointer (some ⟨g, b + i, none⟩))) w := by
  unfold execOp
  simp only [ho, hx, hy]
  go_simp
theorem run_index0 (t : TypeId) (x y : Operand) (n e : Nat) (g i : Nat)
    (ho : o.op = .indexAddr t x y) (hu : P.underlying t = some (.array n e)) (hs : ∀ w, (sizeOf e).run P w = .ok 1 w) (hx : a.eval x = .pointer (some ⟨g, 0, none⟩)) (hy : a.eval y = .int .i64 i) (hi : i < n) : (execOp a.eval o).run P w = .ok (.value (.pointer (some ⟨g, i, none⟩))) w := by
  have := run_indexA (P := P) (o := o) (a := a) (w := w) t x y n e g 0 i ho hu hs hx hy hi
  rwa [Nat.zero_add] at this
/-- 'x[lo:]' of an array. -/
theorem run_sliceLo (t : TypeId) (x y : Operand) (n e : Nat) (g l : Nat) (ho : o.op = .slice t x (some y) none none) (hu : P.underlying t = some (.array n e)) (hs : ∀ w, (sizeOf e).run P w = .ok 1 w)
    (hx : a.eval x = .pointer (some ⟨g, 0, none⟩)) (hy : a.eval y = .int .i64 l) (hl : l < n) : (execOp a.eval o).run P w = .ok (.value (.slice (some ⟨g, l, none⟩) (n - l) (n - l))) w := by
  have h1 : (0 : Int) ≤ l := by omega
  have h2 : (l : Int) ≤ n := by omega
  have h3 : n ≠ l := by omega
  have hadd : (⟨g, 0, none⟩ : Addr).add l = ⟨g, l, none⟩ := by unfold Addr.add; split <;> simp_all
  unfold execOp
  simp only [ho, hx, hy, Option.map_some, Option.map_none]
  simp [Instr.sliceAt, underlying, hu, Instr.sureAddr, Instr.sliceBounds, Instr.sliceBound, asIntOf, hs, h1, h2, h3, hadd, show l ≤ n by omega]
theorem run_loadA (t : TypeId) (x : Operand) (p : Addr)
    (ho : o.op = .load t x) (ha : ∀ w, (isAgg t).run P w = .ok false w) (hx : a.eval x = .pointer (some p)) (hc : w.cell? p = some v) : (execOp a.eval o).run P w = .ok (.value v) w := by
  unfold execOp
  simp only [ho, hx]
  go_simp
theorem run_extractA (x : Operand) (k : Nat) (vs : Array Value) (ho : o.op = .extract x k) (hx : a.eval x = .tuple vs) (hk : vs[k]? = some v) : (execOp a.eval o).run P w = .ok (.value v) w := by
  unfold execOp
  simp only [ho, hx]
  go_simp
end
theorem st_assign {P : Program} {o : Oper} {a : Act} {w : World} {K : Act → World → Prop} {Q : Exit → Act → World → Prop} (x : Operand) (v : Value) (ho : o.op = .assign x) (hx : a.eval x = v) (hk : K (a.put o.dst v) w) : o.wp P a w K Q := by
  unfold Oper.wp
  rw [run_assign x ho hx]
  exact hk
/-- A call of a Go function. -/
theorem st_call {P : Program} {o : Oper} {a : Act} {w : World} {K : Act → World → Prop} {Q : Exit → Act → World → Prop} (f : FuncId) (args : Array Operand) (ats : Array TypeId) (vals : Array Value) (ho : o.op = .call { callee := .value (.func f), args := args, argTypes := ats }) (hf : ∀ (xs : Array Value) (w : World), (callFunc f xs).run P w = .ok (.enter f xs) w) (hv : args.map a.eval = vals)
    {R : Ending → World → Prop} (hc : Calls P f vals w R) (hk : ∀ e w', R e w' → ∃ v, e = .returned v ∧ K (a.put o.dst v) w') : o.wp P a w K Q := by
  unfold Oper.wp execOp
  simp only [ho, resolve, hv]
  go_simp
  refine hc.mono fun e w' h => ?_
  obtain ⟨v, rfl, h2⟩ := hk e w' h
  exact h2
end Go.Proofs.YtpbkejmffddelaaGreat

/-
  A block that is a row of numbers of one kind. Own work.
-/
namespace Go.Proofs.YtpbkejmffddelaaGreat
open Go.RowKit
def vk (kd : IntKind) (xs : List Int) : List Value := xs.map (Value.int kd)
theorem vk_len (kd : IntKind) (xs : List Int) : (vk kd xs).length = xs.length := by simp [vk]
/-- Block g of w is the numbers cs of kind kd, of type t; none is frozen. -/
def OwnK (kd : IntKind) (w : World) (t g : Nat) (cs : List Int) : Prop := w.heap[g]? = some (.cells (vk kd cs).toArray t (0, 0))
section
variable {kd : IntKind} {w w' : World} {t g : Nat} {cs : List Int}
theorem OwnK.lt (h : OwnK kd w t g cs) : g < w.heap.size := by
  rcases Nat.lt_or_ge g w.heap.size with h1 | h1
  · exact h1
  · unfold OwnK at h; rw [Array.getElem?_eq_none h1] at h; cases h
theorem OwnK.cell (h : OwnK kd w t g cs) {j : Nat} (hj : j < cs.length) : w.cell? ⟨g, j, none⟩ = some (.int kd (cs.getD j 0)) := by
  rw [cell_of_row w g j _ t (0, 0) h]
  simp [vk, List.getElem?_eq_getElem hj, List.getD]
theorem OwnK.frozen (h : OwnK kd w t g cs) (j : Nat) : w.frozen? ⟨g, j, none⟩ = false := frozen_of_row w g j _ t h
theorem OwnK.set (h : OwnK kd w t g cs) (i : Nat) (x : Int) : OwnK kd (w.setCell ⟨g, i, none⟩ (.int kd x)) t g (cs.set i x) := by
  have := heap_setCell_same w g i _ t (.int kd x) h
  unfold OwnK
  rw [this]
  simp [vk, List.map_set]
theorem OwnK.below {B : Nat} (h : OwnK kd w t g cs) (hb : Below B w w') (hg : g < B) : OwnK kd w' t g cs := (hb.block g hg).trans h
theorem OwnK.later (h : OwnK kd w t g cs) (hb : Below w.heap.size w w') : OwnK kd w' t g cs := h.below hb h.lt
theorem OwnK.new (w : World) (C : Array Value) (t : TypeId) (cs : List Int) (hC : C = (vk kd cs).toArray) : OwnK kd (w.alloc (.cells C t)) t w.heap.size cs := by
  subst hC
  unfold OwnK World.alloc
  simp
theorem OwnK.other {g' : Nat} (h : OwnK kd w t g cs) (i : Nat) (x : Value) (hg : g ≠ g') : OwnK kd (w.setCell ⟨g', i, none⟩ x) t g cs := by
  unfold OwnK
  rw [Below.heap_setCell w _ x g hg]
  exact h
end
theorem vk_one (kd : IntKind) (xs : List Int) : (vk kd xs).toArray.all (·.oneCell') = true := by
  simp [vk, Value.oneCell']
theorem heap_setRow_same (w : World) (g : Nat) (t : TypeId) (old cells : Array Value) (fr : Nat × Nat) (h : w.heap[g]? = some (.cells old t fr)) : (w.setRow g cells).heap[g]? = some (.cells cells t fr) := by
  simp [World.setRow, Array.getElem?_modify, h]
theorem below_setRow {B : Nat} {a w : World} (h : Below B a w) {g : Nat} (hg : B ≤ g) (cells : Array Value) : Below B a (w.setRow g cells) := by
  refine h.trans ⟨rfl, rfl, rfl, by simp [World.setRow], fun k hk => ?_⟩
  simp only [World.setRow]
  rw [Array.getElem?_modify, if_neg (by omega)]
theorem bv_vk (xs : List Int) : bv xs = vk .u8 xs := rfl
theorem own_k {w : World} {t g : Nat} {cs : List Int} (h : OwnK .u8 w t g cs) : Own w t g cs := h
/-- A place of a row that is being filled. -/
theorem set_mid {n k : Nat} (h : k < n) (P L T : List Int) (hL : L.length = k) (v : Int) :
    (P ++ (L ++ (List.replicate (n - k) 0 ++ T))).set (P.length + k) v = P ++ ((L ++ [v]) ++ (List.replicate (n - (k + 1)) 0 ++ T)) := by
  rw [List.set_append_right _ _ (by omega), show P.length + k - P.length = k from by omega]
  congr 1
  rw [show n - k = (n - (k + 1)) + 1 from by omega, List.replicate_succ, List.set_append_right _ _ (by omega), hL, Nat.sub_self]
  simp
end Go.Proofs.YtpbkejmffddelaaGreat

/-
  Steps that touch memory, each behind a new name for the world: blocks known whole ('Row'), whatever they hold. Plain theorems over whatever program. Own work.
-/
namespace Go.Proofs.YtpbkejmffddelaaGreat
open Go.RowKit

/-- Block g of w is the cells vs, of type t; none is frozen. -/
def Row (w : World) (t g : Nat) (vs : List Value) : Prop := w.heap[g]? = some (.cells vs.toArray t (0, 0))
/-- From w to w' nothing has turned but block g. -/
structure Only (g : Nat) (w w' : World) : Prop where
  os : w'.os = w.os
  tape : w'.tape = w.tape
  output : w'.output = w.output
  size : w'.heap.size = w.heap.size
  block : ∀ k, k ≠ g → w'.heap[k]? = w.heap[k]?
theorem Only.below {g B : Nat} {w w' : World} (h : Only g w w') (hB : B ≤ g) : Below B w w' := ⟨h.os, h.tape, h.output, Nat.le_of_eq h.size.symm, fun k hk => h.block k (by omega)⟩
theorem Only.trans {g : Nat} {a b c : World} (h : Only g a b) (k : Only g b c) : Only g a c :=
  ⟨k.os.trans h.os, k.tape.trans h.tape, k.output.trans h.output, k.size.trans h.size, fun i hi => (k.block i hi).trans (h.block i hi)⟩
section
variable {w w' : World} {t g : Nat} {vs : List Value}
theorem Row.lt (h : Row w t g vs) : g < w.heap.size := by
  rcases Nat.lt_or_ge g w.heap.size with h1 | h1
  · exact h1
  · unfold Row at h; rw [Array.getElem?_eq_none h1] at h; cases h
theorem Row.cell (h : Row w t g vs) {j : Nat} {v : Value} (hj : vs[j]? = some v) : w.cell? ⟨g, j, none⟩ = some v := by
  rw [cell_of_row w g j _ t (0, 0) h]; simpa using hj
theorem Row.frozen (h : Row w t g vs) (j : Nat) : w.frozen? ⟨g, j, none⟩ = false := frozen_of_row w g j _ t h
theorem Row.below {B : Nat} (h : Row w t g vs) (hb : Below B w w') (hg : g < B) : Row w' t g vs := (hb.block g hg).trans h
theorem Row.later (h : Row w t g vs) (hb : Below w.heap.size w w') : Row w' t g vs := h.below hb h.lt
theorem Row.only {g' : Nat} (h : Row w t g vs) (ho : Only g' w w') (hne : g ≠ g') : Row w' t g vs := (ho.block g hne).trans h
theorem Row.drewN (h : Row w t g vs) (n : Nat) : Row (w.drewN n) t g vs := h
theorem Row.ofK {kd : IntKind} {cs : List Int} (h : OwnK kd w t g cs) : Row w t g (vk kd cs) := h
theorem Row.toK {kd : IntKind} {cs : List Int} (h : Row w t g (vk kd cs)) : OwnK kd w t g cs := h
theorem Row.toOwn {cs : List Int} (h : Row w t g (bv cs)) : Own w t g cs := h
theorem Row.ofOwn {cs : List Int} (h : Own w t g cs) : Row w t g (bv cs) := h
theorem OwnK.only {kd : IntKind} {cs : List Int} {g' : Nat} (h : OwnK kd w t g cs) (ho : Only g' w w') (hne : g ≠ g') : OwnK kd w' t g cs := (ho.block g hne).trans h
theorem OwnK.at_ {kd : IntKind} {cs : List Int} (h : OwnK kd w t g cs) {j : Nat} (hj : j < cs.length) : w.cell? ⟨g, j, none⟩ = some (.int kd (cs.getD j 0)) := h.cell hj
theorem Bs.only {B n g' : Nat} {A : Option Addr} {xs : List Int} (h : Bs w B A n xs) (ho : Only g' w w') (hB : B ≤ g') : Bs w' B A n xs := h.below (ho.below hB)
/-- Bytes in the middle of a row. -/
theorem Row.bs {B off : Nat} {A C : List Value} {xs : List Int} (h : Row w t g (A ++ (bv xs ++ C))) (hA : A.length = off) (hB : g < B) : Bs w B (some ⟨g, off, none⟩) xs.length xs := by
  refine ⟨rfl, fun _ => ⟨g, off, rfl, hB, fun j hj => h.cell ?_⟩⟩
  subst hA
  rw [List.getElem?_append_right (by omega), Nat.add_sub_cancel_left, List.getElem?_append_left (by rw [bv_len]; exact hj)]
  simp [bv, List.getD, List.getElem?_eq_getElem hj]
end
theorem vk_get {kd : IntKind} {xs : List Int} {j : Nat} (hj : j < xs.length) : (vk kd xs)[j]? = some (.int kd (xs.getD j 0)) := by
  simp [vk, List.getD, List.getElem?_eq_getElem hj]
theorem vk_set (kd : IntKind) (xs : List Int) (i : Nat) (v : Int) : (vk kd xs).set i (.int kd v) = vk kd (xs.set i v) := by simp [vk, List.map_set]
theorem bv_set (xs : List Int) (i : Nat) (v : Int) : (bv xs).set i (.int .u8 v) = bv (xs.set i v) := by simp [bv, List.map_set]
theorem only_setCell (w : World) (g i : Nat) (v : Value) : Only g w (w.setCell ⟨g, i, none⟩ v) := ⟨rfl, rfl, rfl, by simp [World.setCell], fun k hk => Below.heap_setCell _ _ _ _ hk⟩
theorem only_setRow (w : World) (g : Nat) (cs : Array Value) : Only g w (w.setRow g cs) := ⟨rfl, rfl, rfl, by simp [World.setRow], fun k hk => by simp only [World.setRow]; rw [Array.getElem?_modify, if_neg (fun e => hk e.symm)]⟩

section
variable {P : Program} {o : Oper} {a : Act} {w : World} {K : Act → World → Prop} {Q : Exit → Act → World → Prop}

/-! ### Single operations -/
theorem st_alloc (T : TypeId) (z : Value) (vs : List Value) (ho : o.op = .alloc T) (hz : (P.info? T).map (fun i => i.zero) = some (some z)) (hv : z.cells = vs.toArray)
    (hk : ∀ g w', Row w' T g vs → w.heap.size ≤ g → g < w'.heap.size → Below w.heap.size w w' → K (a.put o.dst (.pointer (some ⟨g, 0, none⟩))) w') : o.wp P a w K Q := by
  have hzz : ∀ w, (zeroValue T).run P w = .ok z w := by
    cases hq : P.info? T with
    | none => simp [hq] at hz
    | some i => simp [hq] at hz; intro w; simp [zeroValue, typeInfo, hq, hz]
  unfold Oper.wp execOp
  simp only [ho, Instr.alloc, Sem.run_bind, Sem.run_pure, Result.andThen_ok, hzz, newVar, newRow, hv]
  go_simp
  exact hk _ _ (by unfold Row; exact heap_alloc_new _ _) (Nat.le_refl _) (by simp) ((Below.refl _ _).alloc (Nat.le_refl _) _)
theorem st_box (T : TypeId) (x : Operand) (v : Value) (vs : List Value) (ho : o.op = .box T x) (hx : a.eval x = v) (hv : v.cells = vs.toArray)
    (hk : ∀ g w', Row w' T g vs → w.heap.size ≤ g → g < w'.heap.size → Below w.heap.size w w' → K (a.put o.dst (.pointer (some ⟨g, 0, none⟩))) w') : o.wp P a w K Q := by
  unfold Oper.wp execOp
  simp only [ho, Instr.box, hx, Sem.run_bind, Sem.run_pure, Result.andThen_ok, newVar, newRow, hv]
  go_simp
  exact hk _ _ (by unfold Row; exact heap_alloc_new _ _) (Nat.le_refl _) (by simp) ((Below.refl _ _).alloc (Nat.le_refl _) _)
theorem run_loadVar_part (ty : TypeId) (g off t : Nat) (A M C : List Value) (d : TypeDesc) (h : Row w t g (A ++ (M ++ C))) (hA : A.length = off)
    (hu : P.underlying ty = some d) (hd : (match d with | .struct _ | .array _ _ => true | _ => false) = true) (hi : (P.info? ty).map (·.size) = some M.length) :
    (loadVar ty ⟨g, off, none⟩).run P w = .ok (.agg M.toArray) w := by
  have hl : (loadCells ⟨g, off, none⟩ M.length).run P w = .ok M.toArray w :=
    run_loadCells_list (P := P) w ⟨g, off, none⟩ M (fun j v hv => by
      have hadd : (⟨g, off, none⟩ : Addr).add j = ⟨g, off + j, none⟩ := by unfold Addr.add; split <;> simp_all
      rw [hadd]
      refine h.cell ?_
      subst hA
      have hj : j < M.length := (List.getElem?_eq_some_iff.1 hv).1
      rw [List.getElem?_append_right (by omega), Nat.add_sub_cancel_left, List.getElem?_append_left hj]
      exact hv)
  cases hq : P.info? ty with
  | none => simp [hq] at hi
  | some i =>
    have hs : M.length = i.size := by simp [hq] at hi; omega
    have hagg : (isAgg ty).run P w = .ok true w := by
      cases d <;> simp at hd <;> simp [isAgg, underlying, hu]
    simp [loadVar, sizeOf, typeInfo, hq, hagg, ← hs, hl]
theorem run_loadP (ty : TypeId) (x : Operand) (g off t : Nat) (A M C : List Value) (d : TypeDesc) (ho : o.op = .load ty x) (hx : a.eval x = .pointer (some ⟨g, off, none⟩)) (h : Row w t g (A ++ (M ++ C))) (hA : A.length = off)
    (hu : P.underlying ty = some d) (hd : (match d with | .struct _ | .array _ _ => true | _ => false) = true) (hi : (P.info? ty).map (·.size) = some M.length) : (execOp a.eval o).run P w = .ok (.value (.agg M.toArray)) w := by
  unfold execOp
  simp only [ho, hx, Instr.loadAt, Instr.sureAddr, Sem.run_bind, Sem.run_pure, Result.andThen_ok, run_loadVar_part ty g off t A M C d h hA hu hd hi]
/-- An array or a struct, out of the middle of a block. -/
theorem st_load_part (ty : TypeId) (x : Operand) (g off t : Nat) (A M C : List Value) (d : TypeDesc) (ho : o.op = .load ty x) (hx : a.eval x = .pointer (some ⟨g, off, none⟩)) (h : Row w t g (A ++ (M ++ C))) (hA : A.length = off)
    (hu : P.underlying ty = some d) (hd : (match d with | .struct _ | .array _ _ => true | _ => false) = true) (hi : (P.info? ty).map (·.size) = some M.length)
    (hk : K (a.put o.dst (.agg M.toArray)) w) : o.wp P a w K Q := by
  unfold Oper.wp execOp
  simp only [ho, hx, Instr.loadAt, Instr.sureAddr, Sem.run_bind, Sem.run_pure, Result.andThen_ok, run_loadVar_part ty g off t A M C d h hA hu hd hi]
  exact hk
theorem run_loadVar_cells (ty : TypeId) (g off : Nat) (M : List Value) (d : TypeDesc) (h : ∀ j v, M[j]? = some v → w.cell? ⟨g, off + j, none⟩ = some v)
    (hu : P.underlying ty = some d) (hd : (match d with | .struct _ | .array _ _ => true | _ => false) = true) (hi : (P.info? ty).map (·.size) = some M.length) :
    (loadVar ty ⟨g, off, none⟩).run P w = .ok (.agg M.toArray) w := by
  have hl : (loadCells ⟨g, off, none⟩ M.length).run P w = .ok M.toArray w :=
    run_loadCells_list (P := P) w ⟨g, off, none⟩ M (fun j v hv => by
      have hadd : (⟨g, off, none⟩ : Addr).add j = ⟨g, off + j, none⟩ := by unfold Addr.add; split <;> simp_all
      rw [hadd]
      exact h j v hv)
  cases hq : P.info? ty with
  | none => simp [hq] at hi
  | some i =>
    have hs : M.length = i.size := by simp [hq] at hi; omega
    have hagg : (isAgg ty).run P w = .ok true w := by
      cases d <;> simp at hd <;> simp [isAgg, underlying, hu]
    simp [loadVar, sizeOf, typeInfo, hq, hagg, ← hs, hl]
theorem st_load_cells (ty : TypeId) (x : Operand) (g off : Nat) (M : List Value) (d : TypeDesc) (ho : o.op = .load ty x) (hx : a.eval x = .pointer (some ⟨g, off, none⟩)) (h : ∀ j v, M[j]? = some v → w.cell? ⟨g, off + j, none⟩ = some v)
    (hu : P.underlying ty = some d) (hd : (match d with | .struct _ | .array _ _ => true | _ => false) = true) (hi : (P.info? ty).map (·.size) = some M.length)
    (hk : K (a.put o.dst (.agg M.toArray)) w) : o.wp P a w K Q := by
  unfold Oper.wp execOp
  simp only [ho, hx, Instr.loadAt, Instr.sureAddr, Sem.run_bind, Sem.run_pure, Result.andThen_ok, run_loadVar_cells ty g off M d h hu hd hi]
  exact hk
/-- The same, whole. -/
theorem st_load_row (ty : TypeId) (x : Operand) (g t : Nat) (M : List Value) (d : TypeDesc) (ho : o.op = .load ty x) (hx : a.eval x = .pointer (some ⟨g, 0, none⟩)) (h : Row w t g M)
    (hu : P.underlying ty = some d) (hd : (match d with | .struct _ | .array _ _ => true | _ => false) = true) (hi : (P.info? ty).map (·.size) = some M.length)
    (hk : K (a.put o.dst (.agg M.toArray)) w) : o.wp P a w K Q :=
  st_load_part ty x g 0 t [] M [] d ho hx (by simpa using h) rfl hu hd hi hk
theorem st_load (ty : TypeId) (x : Operand) (g i t : Nat) (vs : List Value) (v : Value) (ho : o.op = .load ty x) (ha : ∀ w, (isAgg ty).run P w = .ok false w) (hx : a.eval x = .pointer (some ⟨g, i, none⟩)) (h : Row w t g vs) (hv : vs[i]? = some v)
    (hk : K (a.put o.dst v) w) : o.wp P a w K Q := by
  have hc := h.cell hv
  unfold Oper.wp execOp
  simp only [ho, hx]
  go_simp
  exact hk
theorem st_store (ty : TypeId) (x y : Operand) (g i t : Nat) (vs : List Value) (v : Value) (ho : o.op = .store ty x y) (hsz : (P.info? ty).map (·.size) = some 1) (hx : a.eval x = .pointer (some ⟨g, i, none⟩)) (hy : a.eval y = v) (h : Row w t g vs) (hi : i < vs.length) (h1 : v.oneCell' = true)
    (hk : ∀ w', Row w' t g (vs.set i v) → Only g w w' → K (a.put o.dst undef) w') : o.wp P a w K Q := by
  have hc : w.cell? ⟨g, i, none⟩ = some vs[i] := h.cell (by simp [hi])
  have hf := h.frozen i
  have hcells : v.cells = #[v] := by cases v <;> first | rfl | (simp [Value.oneCell'] at h1)
  have hrow : Row (w.setCell ⟨g, i, none⟩ v) t g (vs.set i v) := by
    have := heap_setCell_same w g i _ t v h
    unfold Row; rw [this]; simp
  have hadd : (⟨g, i, none⟩ : Addr).add 0 = ⟨g, i, none⟩ := by unfold Addr.add; split <;> simp_all
  cases hq : P.info? ty with
  | none => simp [hq] at hsz
  | some inf =>
    have hs : inf.size = 1 := by simp [hq] at hsz; exact hsz
    have hrun : (storeVar ty ⟨g, i, none⟩ v).run P w = .ok () (w.setCell ⟨g, i, none⟩ v) := by
      simp [storeVar, sizeOf, typeInfo, hq, hs, hcells, storeCells, hadd, run_store P w _ v _ h1, hc, hf]
    unfold Oper.wp execOp
    simp only [ho, hx, hy, Instr.storeAt, Instr.sureAddr, Sem.run_bind, Sem.run_pure, Result.andThen_ok, hrun]
    exact hk _ hrow (only_setCell _ _ _ _)
theorem st_store_row (ty : TypeId) (x y : Operand) (g t : Nat) (vs us : List Value) (ho : o.op = .store ty x y) (hx : a.eval x = .pointer (some ⟨g, 0, none⟩)) (hy : a.eval y = .agg us.toArray) (h : Row w t g vs) (hi : (P.info? ty).map (·.size) = some us.length) (hl : vs.length = us.length) (h1 : ∀ u ∈ us, u.oneCell' = true)
    (hk : ∀ w', Row w' t g us → Only g w w' → K (a.put o.dst undef) w') : o.wp P a w K Q :=
  wp_store_row ty x y ho g us.toArray hx hy t vs.toArray h (by simpa using hi) (by simpa using hl) (by simpa using h1) (hk _ (setRow_heap _ _ _ _ _ _ h) (only_setRow _ _ _))
/-- 'copy(dst, src)' into a block of the call's own; at least one byte, and all fit. -/
theorem st_copy (d s : Operand) (dT sT : TypeId) (ho : o.op = .call { callee := .builtin .copy, args := #[d, s], argTypes := #[dT, sT] }) (elem : TypeId) (hu : P.underlying dT = some (.slice elem)) (hsz : (P.info? elem).map (·.size) = some 1)
    (g off dLen dCap n c t B : Nat) (A : Option Addr) (hd : a.eval d = .slice (some ⟨g, off, none⟩) dLen dCap) (hs : a.eval s = .slice A n c) (cur : List Value) (xs : List Int) (h : Row w t g cur) (hx : Bs w B A n xs) (hn : n ≤ dLen) (hpos : 0 < n) (hfit : off + n ≤ cur.length)
    (hk : ∀ w', Row w' t g (cur.take off ++ (bv xs ++ cur.drop (off + n))) → Only g w w' → K (a.put o.dst (goInt n)) w') : o.wp P a w K Q := by
  obtain ⟨b, o', rfl, _, _⟩ := hx.2 hpos
  have hl : (bv xs).length = Nat.min n dLen := by rw [bv_len, hx.1]; exact (Nat.min_eq_left hn).symm
  have hrun := run_copy_row (P := P) w dT sT o.type elem g off dLen dCap ⟨b, o', none⟩ n c cur.toArray t (bv xs) hu hsz h hl (hx.cells rfl) (by rw [bv_len, hx.1]; simpa using hfit) (bv_one xs)
  rw [bv_len, hx.1] at hrun
  unfold Oper.wp
  simp [execOp, ho, resolve, invoke, builtin, hd, hs, hrun, Result.andThen]
  refine hk _ ?_ (only_setRow _ _ _)
  have := setRow_heap w g _ (cur.take off ++ (bv xs ++ cur.drop (off + n))).toArray t _ h
  exact this
end

/-- 'x[l:]' of an array. -/
theorem run_sliceArr {P : Program} (w : World) (T n e : Nat) (hu : P.underlying T = some (.array n e)) (hs : ∀ w, (sizeOf e).run P w = .ok 1 w) (kd : IntKind) (g l : Nat) (hl : l < n) :
    (Instr.sliceAt T (.pointer (some ⟨g, 0, none⟩)) (some (.int kd l)) none none).run P w = .ok (.slice (some ⟨g, l, none⟩) (n - l) (n - l)) w := by
  have h1 : (0 : Int) ≤ l := by omega
  have h3 : n ≠ l := by omega
  have hadd : (⟨g, 0, none⟩ : Addr).add l = ⟨g, l, none⟩ := by unfold Addr.add; split <;> simp_all
  simp [Instr.sliceAt, underlying, hu, Instr.sureAddr, Instr.sliceBounds, Instr.sliceBound, asIntOf, hs, h1, h3, hadd, show l ≤ n by omega]
theorem addr_add0 (a : Addr) : a.add 0 = a := by unfold Addr.add; split <;> simp_all
/-- 'x[:m]' of a slice. -/
theorem run_sliceTo {P : Program} (w : World) (T e z : Nat) (hu : P.underlying T = some (.slice e)) (hs : ∀ w, (sizeOf e).run P w = .ok z w) (A : Option Addr) (len cap : Nat) (kd : IntKind) (m : Int) (m' : Nat) (hm : m = m') (h1 : m' ≤ cap) :
    (Instr.sliceAt T (.slice A len cap) none (some (.int kd m)) none).run P w = .ok (.slice A m' cap) w := by
  subst hm
  cases A <;> simp [Instr.sliceAt, Instr.slice, underlying, hu, Instr.sliceBounds, Instr.sliceBound, asIntOf, h1, hs, addr_add0]
/-- An element of an array of arrays, by value. -/
theorem run_index_part {P : Program} (w : World) (T elem len n : Nat) (cs : List Value) (i : Nat) (hu : P.underlying T = some (.array len elem)) (ha : ∀ w, (isAgg elem).run P w = .ok true w) (hs : ∀ w, (sizeOf elem).run P w = .ok n w) (hi : i < len) :
    (Instr.index T (.agg cs.toArray) (.int .i64 i)).run P w = .ok (.agg ((cs.drop (i * n)).take n).toArray) w := by
  have h2 : ((0 : Int) ≤ i ∧ (i : Int) < len) := by omega
  have h3 : ¬ len ≤ i := by omega
  simp [Instr.index, asIntOf, underlying, hu, part, ha, hs, h2, h3]
theorem bv_one' (xs : List Int) : ∀ u ∈ bv xs, u.oneCell' = true := bv_one xs
theorem vk_one' (kd : IntKind) (xs : List Int) : ∀ u ∈ vk kd xs, u.oneCell' = true := by
  intro u hu; simp only [vk, List.mem_map] at hu; obtain ⟨x, _, rfl⟩ := hu; rfl
theorem size_k {P : Program} {T n : Nat} {kd : IntKind} {xs : List Int} (h : (P.info? T).map (·.size) = some n) (hx : xs.length = n) : (P.info? T).map (·.size) = some (vk kd xs).length := by rw [h, vk_len, hx]
theorem size_b {P : Program} {T n : Nat} {xs : List Int} (h : (P.info? T).map (·.size) = some n) (hx : xs.length = n) : (P.info? T).map (·.size) = some (bv xs).length := by rw [h, bv_len, hx]

/-! ### The same in a walk -/
section
variable {P : Program} {ops : Array Oper} {rest : List Oper} {o : Oper} {a : Act} {w : World} {Q : Exit → Act → World → Prop}
theorem wl_alloc (hgd : o.guard = none) (T : TypeId) (z : Value) (vs : List Value) (ho : o.op = .alloc T) (hz : (P.info? T).map (fun i => i.zero) = some (some z)) (hv : z.cells = vs.toArray)
    (hk : ∀ g w', Row w' T g vs → w.heap.size ≤ g → g < w'.heap.size → Below w.heap.size w w' → wpList P ops Q rest (a.put o.dst (.pointer (some ⟨g, 0, none⟩))) w') : wpList P ops Q (o :: rest) a w :=
  wpList_plain hgd fun K hK => st_alloc T z vs ho hz hv fun g w' h1 h2 h3 h4 => hK _ _ (hk g w' h1 h2 h3 h4)
theorem wl_box (hgd : o.guard = none) (T : TypeId) (x : Operand) (v : Value) (vs : List Value) (ho : o.op = .box T x) (hx : a.eval x = v) (hv : v.cells = vs.toArray)
    (hk : ∀ g w', Row w' T g vs → w.heap.size ≤ g → g < w'.heap.size → Below w.heap.size w w' → wpList P ops Q rest (a.put o.dst (.pointer (some ⟨g, 0, none⟩))) w') : wpList P ops Q (o :: rest) a w :=
  wpList_plain hgd fun K hK => st_box T x v vs ho hx hv fun g w' h1 h2 h3 h4 => hK _ _ (hk g w' h1 h2 h3 h4)
theorem wl_build (hgd : o.guard = none) (t : TypeId) (parts : List (Nat × Operand)) (ho : o.op = .build t parts.toArray) (vals : List (Nat × Value)) (hv : parts.map (fun p => (p.1, a.eval p.2)) = vals) (cells : List Value) (hb : P.built t vals = some cells.toArray)
    (hk : wpList P ops Q rest (a.put o.dst (.agg cells.toArray)) w) : wpList P ops Q (o :: rest) a w := by
  subst hv
  have e : (parts.toArray.map fun (i, x) => (i, a.eval x)).toList = parts.map (fun p => (p.1, a.eval p.2)) := by simp
  exact wpList_build hgd t _ ho (by rw [e, hb]; rfl) (by rw [e, hb]; exact hk)
theorem wl_load_part (hgd : o.guard = none) (ty : TypeId) (x : Operand) (g off t : Nat) (A M C : List Value) (d : TypeDesc) (ho : o.op = .load ty x) (hx : a.eval x = .pointer (some ⟨g, off, none⟩)) (h : Row w t g (A ++ (M ++ C))) (hA : A.length = off)
    (hu : P.underlying ty = some d) (hd : (match d with | .struct _ | .array _ _ => true | _ => false) = true) (hi : (P.info? ty).map (·.size) = some M.length)
    (hk : wpList P ops Q rest (a.put o.dst (.agg M.toArray)) w) : wpList P ops Q (o :: rest) a w :=
  wpList_plain hgd fun K hK => st_load_part ty x g off t A M C d ho hx h hA hu hd hi (hK _ _ hk)
theorem wl_load_row (hgd : o.guard = none) (ty : TypeId) (x : Operand) (g t : Nat) (M : List Value) (d : TypeDesc) (ho : o.op = .load ty x) (hx : a.eval x = .pointer (some ⟨g, 0, none⟩)) (h : Row w t g M)
    (hu : P.underlying ty = some d) (hd : (match d with | .struct _ | .array _ _ => true | _ => false) = true) (hi : (P.info? ty).map (·.size) = some M.length)
    (hk : wpList P ops Q rest (a.put o.dst (.agg M.toArray)) w) : wpList P ops Q (o :: rest) a w :=
  wpList_plain hgd fun K hK => st_load_row ty x g t M d ho hx h hu hd hi (hK _ _ hk)
theorem wl_load_cells (hgd : o.guard = none) (ty : TypeId) (x : Operand) (g off : Nat) (M : List Value) (d : TypeDesc) (ho : o.op = .load ty x) (hx : a.eval x = .pointer (some ⟨g, off, none⟩)) (h : ∀ j v, M[j]? = some v → w.cell? ⟨g, off + j, none⟩ = some v)
    (hu : P.underlying ty = some d) (hd : (match d with | .struct _ | .array _ _ => true | _ => false) = true) (hi : (P.info? ty).map (·.size) = some M.length)
    (hk : wpList P ops Q rest (a.put o.dst (.agg M.toArray)) w) : wpList P ops Q (o :: rest) a w :=
  wpList_plain hgd fun K hK => st_load_cells ty x g off M d ho hx h hu hd hi (hK _ _ hk)
theorem wl_load (hgd : o.guard = none) (ty : TypeId) (x : Operand) (g i t : Nat) (vs : List Value) (v : Value) (ho : o.op = .load ty x) (ha : ∀ w, (isAgg ty).run P w = .ok false w) (hx : a.eval x = .pointer (some ⟨g, i, none⟩)) (h : Row w t g vs) (hv : vs[i]? = some v)
    (hk : wpList P ops Q rest (a.put o.dst v) w) : wpList P ops Q (o :: rest) a w :=
  wpList_plain hgd fun K hK => st_load ty x g i t vs v ho ha hx h hv (hK _ _ hk)
theorem wl_store (hgd : o.guard = none) (ty : TypeId) (x y : Operand) (g i t : Nat) (vs : List Value) (v : Value) (ho : o.op = .store ty x y) (hsz : (P.info? ty).map (·.size) = some 1) (hx : a.eval x = .pointer (some ⟨g, i, none⟩)) (hy : a.eval y = v) (h : Row w t g vs) (hi : i < vs.length) (h1 : v.oneCell' = true)
    (hk : ∀ w', Row w' t g (vs.set i v) → Only g w w' → wpList P ops Q rest (a.put o.dst undef) w') : wpList P ops Q (o :: rest) a w :=
  wpList_plain hgd fun K hK => st_store ty x y g i t vs v ho hsz hx hy h hi h1 fun w' h1 h2 => hK _ _ (hk w' h1 h2)
theorem wl_store_row (hgd : o.guard = none) (ty : TypeId) (x y : Operand) (g t : Nat) (vs us : List Value) (ho : o.op = .store ty x y) (hx : a.eval x = .pointer (some ⟨g, 0, none⟩)) (hy : a.eval y = .agg us.toArray) (h : Row w t g vs) (hi : (P.info? ty).map (·.size) = some us.length) (hl : vs.length = us.length) (h1 : ∀ u ∈ us, u.oneCell' = true)
    (hk : ∀ w', Row w' t g us → Only g w w' → wpList P ops Q rest (a.put o.dst undef) w') : wpList P ops Q (o :: rest) a w :=
  wpList_plain hgd fun K hK => st_store_row ty x y g t vs us ho hx hy h hi hl h1 fun w' h1 h2 => hK _ _ (hk w' h1 h2)
end
end Go.Proofs.YtpbkejmffddelaaGreat

/-
  More steps that touch memory: slices that the call makes and fills in place. Plain theorems over whatever program. Own work.
-/
namespace Go.Proofs.YtpbkejmffddelaaGreat
open Go.RowKit
theorem lt_alloc (w : World) (o : Obj) : w.heap.size < (w.alloc o).heap.size := by
  show _ < (w.heap.push o).size
  rw [Array.size_push]
  omega
section
variable {P : Program} {o : Oper} {a : Act} {w : World} {K : Act → World → Prop} {Q : Exit → Act → World → Prop}
/-- 'make([]T, l, c)', T of one cell. -/
theorem st_make (t : TypeId) (x y : Operand) (ho : o.op = .makeSlice t x y) (e : TypeId) (i : TypeInfo) (z : Value) (ht : P.underlying t = some (.slice e)) (hi : P.info? e = some i) (hz : i.zero = some z) (hsz : i.size = 1) (hzc : z.cells = #[z])
    (kl kc : IntKind) (l c : Nat) (l' c' : Int) (hx : a.eval x = .int kl l') (hy : a.eval y = .int kc c') (hl' : l' = (l : Int)) (hc' : c' = (c : Int)) (hlc : l ≤ c) (hlen : i.bytes * c ≤ 281474976710656) (hc : c ≤ 9223372036854775807)
    (hk : ∀ g w', Row w' e g (List.replicate c z) → w.heap.size ≤ g → g < w'.heap.size → Below w.heap.size w w' → K (a.put o.dst (.slice (some ⟨g, 0, none⟩) l c)) w') : o.wp P a w K Q := by
  subst hl'
  subst hc'
  have hb' : (i.bytes : Int) * (c : Int) ≤ 281474976710656 := by
    have h : ((i.bytes * c : Nat) : Int) ≤ 281474976710656 := by omega
    rwa [Int.natCast_mul] at h
  have hrun := run_make (P := P) w t e i z ht hi hz kl kc l c (by omega) (by omega) hb' (by omega)
  unfold Oper.wp execOp
  simp only [ho, hx, hy, hrun, Sem.run_bind, Result.andThen_ok, Sem.run_pure, Int.toNat_natCast]
  refine hk _ _ ?_ (Nat.le_refl _) (lt_alloc _ _) ((Below.refl _ _).alloc (Nat.le_refl _) _)
  unfold Row
  rw [heap_alloc_new]
  congr 2
  rw [hsz, Nat.mul_one]
  apply Array.toList_inj.1
  rw [hzc, toList_madeCells_one]
/-- '[]T{x}', T of one cell. -/
theorem st_build1 (t : TypeId) (x : Operand) (ho : o.op = .buildSlice t 1 #[(0, x)]) (e : TypeId) (i : TypeInfo) (z v : Value) (ht : P.underlying t = some (.slice e)) (hi : P.info? e = some i) (hz : i.zero = some z) (hsz : i.size = 1) (hzc : z.cells = #[z]) (hx : a.eval x = v) (hv : v.cells = #[v])
    (hk : ∀ g w', Row w' e g [v] → w.heap.size ≤ g → g < w'.heap.size → Below w.heap.size w w' → K (a.put o.dst (.slice (some ⟨g, 0, none⟩) 1 1)) w') : o.wp P a w K Q := by
  have hr : (Array.range 1) = #[0] := rfl
  have hzz : ∀ w, (zeroValue e).run P w = .ok z w := fun w => by simp [zeroValue, typeInfo, hi, hz]
  have hss : ∀ w, (sizeOf e).run P w = .ok 1 w := fun w => by simp [sizeOf, typeInfo, hi, hsz]
  have hrun : (Instr.buildSlice t 1 #[(0, v)]).run P w = .ok (.slice (some ⟨w.heap.size, 0, none⟩) 1 1) (w.alloc (.cells #[v] e)) := by
    simp [Instr.buildSlice, run_underlying ht, hss, hzz, hr, hzc, Instr.fill, hv, newRow]
  unfold Oper.wp execOp
  simp only [ho, List.map_toArray, List.map_cons, List.map_nil, hx, hrun, Sem.run_bind, Result.andThen_ok, Sem.run_pure]
  exact hk _ _ (by unfold Row; exact heap_alloc_new _ _) (Nat.le_refl _) (by simp) ((Below.refl _ _).alloc (Nat.le_refl _) _)
/-- 'append(s, xs...)' where there is room. -/
theorem st_append (s x : Operand) (t : TypeId) (ho : o.op = .call { callee := .builtin .append, args := #[s, x], argTypes := #[t, t] }) (e : TypeId) (i : TypeInfo) (ht : P.underlying t = some (.slice e)) (hi : P.info? e = some i) (hsz : i.size = 1)
    (g n cap m c : Nat) (ad : Addr) (hs : a.eval s = .slice (some ⟨g, 0, none⟩) n cap) (hx : a.eval x = .slice (some ad) m c) (A M C V : List Value) (h : Row w e g (A ++ (M ++ C))) (hA : A.length = n) (hM : M.length = m) (hV : V.length = m)
    (hsrc : ∀ j u, V[j]? = some u → w.cell? (ad.add j) = some u) (h1 : ∀ u ∈ V, u.oneCell' = true) (hroom : n + m ≤ cap)
    (hk : ∀ w', Row w' e g (A ++ (V ++ C)) → Only g w w' → K (a.put o.dst (.slice (some ⟨g, 0, none⟩) (n + m) cap)) w') : o.wp P a w K Q := by
  have hrun := run_append_room (P := P) w t o.type e i ht hi g n cap (A ++ (M ++ C)).toArray h ad m c V (by rw [hsz, hV, Nat.mul_one]) hsrc h1 hroom (by simp [hsz]; omega)
  unfold Oper.wp execOp
  simp only [ho, resolve, invoke, builtin, Sem.run_bind, Sem.run_pure, Result.andThen_ok, List.map_toArray, List.map_cons, List.map_nil, hs, hx, hrun]
  have e1 : (A ++ (M ++ C)).take (n * 1) ++ V ++ (A ++ (M ++ C)).drop (n * 1 + V.length) = A ++ (V ++ C) := by
    subst hA
    simp [hV, hM, List.drop_append]
  refine hk _ ?_ (only_setRow _ _ _)
  have := setRow_heap w g _ (A ++ (V ++ C)).toArray e _ h
  rw [hsz]
  simp only [e1] at *
  exact this
end
section
variable {P : Program} {ops : Array Oper} {rest : List Oper} {o : Oper} {a : Act} {w : World} {Q : Exit → Act → World → Prop}
theorem wl_make (hgd : o.guard = none) (t : TypeId) (x y : Operand) (ho : o.op = .makeSlice t x y) (e : TypeId) (i : TypeInfo) (z : Value) (ht : P.underlying t = some (.slice e)) (hi : P.info? e = some i) (hz : i.zero = some z) (hsz : i.size = 1) (hzc : z.cells = #[z])
    (kl kc : IntKind) (l c : Nat) (l' c' : Int) (hx : a.eval x = .int kl l') (hy : a.eval y = .int kc c') (hl' : l' = (l : Int)) (hc' : c' = (c : Int)) (hlc : l ≤ c) (hlen : i.bytes * c ≤ 281474976710656) (hc : c ≤ 9223372036854775807)
    (hk : ∀ g w', Row w' e g (List.replicate c z) → w.heap.size ≤ g → g < w'.heap.size → Below w.heap.size w w' → wpList P ops Q rest (a.put o.dst (.slice (some ⟨g, 0, none⟩) l c)) w') : wpList P ops Q (o :: rest) a w :=
  wpList_plain hgd fun K hK => st_make t x y ho e i z ht hi hz hsz hzc kl kc l c l' c' hx hy hl' hc' hlc hlen hc fun g w' h1 h2 h3 h4 => hK _ _ (hk g w' h1 h2 h3 h4)
theorem wl_build1 (hgd : o.guard = none) (t : TypeId) (x : Operand) (ho : o.op = .buildSlice t 1 #[(0, x)]) (e : TypeId) (i : TypeInfo) (z v : Value) (ht : P.underlying t = some (.slice e)) (hi : P.info? e = some i) (hz : i.zero = some z) (hsz : i.size = 1) (hzc : z.cells = #[z]) (hx : a.eval x = v) (hv : v.cells = #[v])
    (hk : ∀ g w', Row w' e g [v] → w.heap.size ≤ g → g < w'.heap.size → Below w.heap.size w w' → wpList P ops Q rest (a.put o.dst (.slice (some ⟨g, 0, none⟩) 1 1)) w') : wpList P ops Q (o :: rest) a w :=
  wpList_plain hgd fun K hK => st_build1 t x ho e i z v ht hi hz hsz hzc hx hv fun g w' h1 h2 h3 h4 => hK _ _ (hk g w' h1 h2 h3 h4)
theorem wl_append (hgd : o.guard = none) (s x : Operand) (t : TypeId) (ho : o.op = .call { callee := .builtin .append, args := #[s, x], argTypes := #[t, t] }) (e : TypeId) (i : TypeInfo) (ht : P.underlying t = some (.slice e)) (hi : P.info? e = some i) (hsz : i.size = 1)
    (g n cap m c : Nat) (ad : Addr) (hs : a.eval s = .slice (some ⟨g, 0, none⟩) n cap) (hx : a.eval x = .slice (some ad) m c) (A M C V : List Value) (h : Row w e g (A ++ (M ++ C))) (hA : A.length = n) (hM : M.length = m) (hV : V.length = m)
    (hsrc : ∀ j u, V[j]? = some u → w.cell? (ad.add j) = some u) (h1 : ∀ u ∈ V, u.oneCell' = true) (hroom : n + m ≤ cap)
    (hk : ∀ w', Row w' e g (A ++ (V ++ C)) → Only g w w' → wpList P ops Q rest (a.put o.dst (.slice (some ⟨g, 0, none⟩) (n + m) cap)) w') : wpList P ops Q (o :: rest) a w :=
  wpList_plain hgd fun K hK => st_append s x t ho e i ht hi hsz g n cap m c ad hs hx A M C V h hA hM hV hsrc h1 hroom fun w' h1 h2 => hK _ _ (hk w' h1 h2)
end
theorem one_int (kd : IntKind) (v : Int) : ∀ u ∈ [Value.int kd v], u.oneCell' = true := by intro u hu; simp at hu; subst hu; rfl
/-! ### Behind a guard that holds -/
section
variable {P : Program} {ops : Array Oper} {rest : List Oper} {o : Oper} {a : Act} {w : World} {Q : Exit → Act → World → Prop}
theorem wpList_guarded (g : Nat) (b : Bool) (d : Nat) (hg : o.guard = some (g, b)) (hd : (ops[g]?).bind (·.dst) = some d) (hv : a.tmps[d]? = some (.bool b))
    (h : ∀ K : Act → World → Prop, (∀ a w, wpList P ops Q rest a w → K a w) → o.wp P a w K Q) : wpList P ops Q (o :: rest) a w :=
  wpList_step fun K hK => by
    have hw : Region.wanted o (yielded ops a.tmps) = true := by simp [Region.wanted, hg, yielded, hd, hv]
    rw [if_pos hw]
    exact h K hK
theorem wg_load_part (g' : Nat) (b : Bool) (d' : Nat) (hg : o.guard = some (g', b)) (hd' : (ops[g']?).bind (·.dst) = some d') (hv : a.tmps[d']? = some (.bool b)) (ty : TypeId) (x : Operand) (g off t : Nat) (A M C : List Value) (d : TypeDesc) (ho : o.op = .load ty x) (hx : a.eval x = .pointer (some ⟨g, off, none⟩)) (h : Row w t g (A ++ (M ++ C))) (hA : A.length = off)
    (hu : P.underlying ty = some d) (hd : (match d with | .struct _ | .array _ _ => true | _ => false) = true) (hi : (P.info? ty).map (·.size) = some M.length)
    (hk : wpList P ops Q rest (a.put o.dst (.agg M.toArray)) w) : wpList P ops Q (o :: rest) a w :=
  wpList_guarded g' b d' hg hd' hv fun K hK => st_load_part ty x g off t A M C d ho hx h hA hu hd hi (hK _ _ hk)
theorem wg_load_row (g' : Nat) (b : Bool) (d' : Nat) (hg : o.guard = some (g', b)) (hd' : (ops[g']?).bind (·.dst) = some d') (hv : a.tmps[d']? = some (.bool b)) (ty : TypeId) (x : Operand) (g t : Nat) (M : List Value) (d : TypeDesc) (ho : o.op = .load ty x) (hx : a.eval x = .pointer (some ⟨g, 0, none⟩)) (h : Row w t g M)
    (hu : P.underlying ty = some d) (hd : (match d with | .struct _ | .array _ _ => true | _ => false) = true) (hi : (P.info? ty).map (·.size) = some M.length)
    (hk : wpList P ops Q rest (a.put o.dst (.agg M.toArray)) w) : wpList P ops Q (o :: rest) a w :=
  wpList_guarded g' b d' hg hd' hv fun K hK => st_load_row ty x g t M d ho hx h hu hd hi (hK _ _ hk)
theorem wg_load (g' : Nat) (b : Bool) (d' : Nat) (hg : o.guard = some (g', b)) (hd' : (ops[g']?).bind (·.dst) = some d') (hv' : a.tmps[d']? = some (.bool b)) (ty : TypeId) (x : Operand) (g i t : Nat) (vs : List Value) (v : Value) (ho : o.op = .load ty x) (ha : ∀ w, (isAgg ty).run P w = .ok false w) (hx : a.eval x = .pointer (some ⟨g, i, none⟩)) (h : Row w t g vs) (hv : vs[i]? = some v)
    (hk : wpList P ops Q rest (a.put o.dst v) w) : wpList P ops Q (o :: rest) a w :=
  wpList_guarded g' b d' hg hd' hv' fun K hK => st_load ty x g i t vs v ho ha hx h hv (hK _ _ hk)
end
/-- 'append(s, xs...)' onto a row of the call's own, whatever xs is. -/
theorem st_append_bs {P : Program} {o : Oper} {a : Act} {w : World} {K : Act → World → Prop} {Q : Exit → Act → World → Prop} (s x : Operand) (t : TypeId)
    (ho : o.op = .call { callee := .builtin .append, args := #[s, x], argTypes := #[t, t] })
    (base : Nat) (e : TypeId) (i : TypeInfo) (ht : P.underlying t = some (.slice e)) (hi : P.info? e = some i) (hz : i.zero = some (.int .u8 0)) (hsz : i.size = 1) (hby : i.bytes = 1)
    (v : Value) (n : Nat) (xs : List Int) (hs : a.eval s = v) (hown : w.ownsRow base e 1 v n (bv xs)) (B : Nat) (A : Option Addr) (m c : Nat) (ys : List Int) (hx : a.eval x = .slice A m c) (hr : Bs w B A m ys)
    (hlen : n + m ≤ 140737488355328) (hbase : base ≤ w.heap.size)
    (h : ∀ v' w', w'.ownsRow base e 1 v' (n + m) (bv (xs ++ ys)) → w.grownBy w' v.ownBlock → K (a.put o.dst v') w') : o.wp P a w K Q := by
  obtain ⟨v', w', hrun, h2, h3, _⟩ := run_append_bs (P := P) w base t o.type e i ht hi hz hsz hby v n xs hown B A m c ys hr hlen hbase
  unfold Oper.wp execOp
  simp only [ho, resolve, invoke, builtin, Sem.run_bind, Sem.run_pure, Result.andThen_ok, List.map_toArray, List.map_cons, List.map_nil, hs, hx, hrun]
  exact h v' w' h2 h3
/-- '[]byte{}'. -/
theorem st_build0 {P : Program} {o : Oper} {a : Act} {w : World} {K : Act → World → Prop} {Q : Exit → Act → World → Prop} (t : TypeId) (ho : o.op = .buildSlice t 0 #[]) (e : TypeId) (i : TypeInfo) (ht : P.underlying t = some (.slice e)) (hi : P.info? e = some i) (hsz : i.size = 1)
    (hk : ∀ v w', w'.ownsRow w.heap.size e 1 v 0 (bv []) → Below w.heap.size w w' → K (a.put o.dst v) w') : o.wp P a w K Q := by
  have hss : ∀ w, (sizeOf e).run P w = .ok 1 w := fun w => by simp [sizeOf, typeInfo, hi, hsz]
  have hr : (Array.range 0) = #[] := rfl
  have hrun : (Instr.buildSlice t 0 #[]).run P w = .ok (.slice (some ⟨w.heap.size, 0, none⟩) 0 0) (w.alloc (.cells #[] e)) := by
    simp [Instr.buildSlice, run_underlying ht, hss, hr, Instr.fill, newRow]
  unfold Oper.wp execOp
  simp only [ho, List.map_toArray, List.map_nil, hrun, Sem.run_bind, Result.andThen_ok, Sem.run_pure]
  exact hk _ _ (World.ownsRow_made w #[] 0 (Nat.le_refl _) (by simp [maxLen]) (by simp)) ((Below.refl _ _).alloc (Nat.le_refl _) _)
section
variable {P : Program} {ops : Array Oper} {rest : List Oper} {o : Oper} {a : Act} {w : World} {Q : Exit → Act → World → Prop}
theorem wg_append_bs (g' : Nat) (b : Bool) (d' : Nat) (hg : o.guard = some (g', b)) (hd' : (ops[g']?).bind (·.dst) = some d') (hv : a.tmps[d']? = some (.bool b)) (s x : Operand) (t : TypeId)
    (ho : o.op = .call { callee := .builtin .append, args := #[s, x], argTypes := #[t, t] })
    (base : Nat) (e : TypeId) (i : TypeInfo) (ht : P.underlying t = some (.slice e)) (hi : P.info? e = some i) (hz : i.zero = some (.int .u8 0)) (hsz : i.size = 1) (hby : i.bytes = 1)
    (v : Value) (n : Nat) (xs : List Int) (hs : a.eval s = v) (hown : w.ownsRow base e 1 v n (bv xs)) (B : Nat) (A : Option Addr) (m c : Nat) (ys : List Int) (hx : a.eval x = .slice A m c) (hr : Bs w B A m ys)
    (hlen : n + m ≤ 140737488355328) (hbase : base ≤ w.heap.size)
    (h : ∀ v' w', w'.ownsRow base e 1 v' (n + m) (bv (xs ++ ys)) → w.grownBy w' v.ownBlock → wpList P ops Q rest (a.put o.dst v') w') : wpList P ops Q (o :: rest) a w :=
  wpList_guarded g' b d' hg hd' hv fun K hK => st_append_bs s x t ho base e i ht hi hz hsz hby v n xs hs hown B A m c ys hx hr hlen hbase fun v' w' h1 h2 => hK _ _ (h v' w' h1 h2)
theorem wg_build0 (g' : Nat) (b : Bool) (d' : Nat) (hg : o.guard = some (g', b)) (hd' : (ops[g']?).bind (·.dst) = some d') (hv : a.tmps[d']? = some (.bool b)) (t : TypeId) (ho : o.op = .buildSlice t 0 #[]) (e : TypeId) (i : TypeInfo) (ht : P.underlying t = some (.slice e)) (hi : P.info? e = some i) (hsz : i.size = 1)
    (hk : ∀ v w', w'.ownsRow w.heap.size e 1 v 0 (bv []) → Below w.heap.size w w' → wpList P ops Q rest (a.put o.dst v) w') : wpList P ops Q (o :: rest) a w :=
  wpList_guarded g' b d' hg hd' hv fun K hK => st_build0 t ho e i ht hi hsz fun v w' h1 h2 => hK _ _ (hk v w' h1 h2)
end
/-- Where the part from place I on begins. -/
def subA (A : Option Addr) (cap I : Nat) : Option Addr := if cap = I then A else A.map (·.add I)
/-- 'x[I:K]' of a slice of cells. -/
theorem run_sliceMid {P : Program} (w : World) (T e : Nat) (hu : P.underlying T = some (.slice e)) (hs : ∀ w, (sizeOf e).run P w = .ok 1 w) (A : Option Addr) (len cap : Nat) (kl kh : IntKind) (I K : Nat) (h1 : I ≤ K) (h2 : K ≤ cap) :
    (Instr.sliceAt T (.slice A len cap) (some (.int kl I)) (some (.int kh K)) none).run P w = .ok (.slice (subA A cap I) (K - I) (cap - I)) w := by
  have h3 : (0 : Int) ≤ I := by omega
  have h4 : (0 : Int) ≤ K := by omega
  simp [Instr.sliceAt, Instr.slice, underlying, hu, Instr.sliceBounds, Instr.sliceBound, asIntOf, h1, h2, h3, h4, hs, subA]
/-- 'x[I:]' of a slice of cells. -/
theorem run_sliceFrom {P : Program} (w : World) (T e : Nat) (hu : P.underlying T = some (.slice e)) (hs : ∀ w, (sizeOf e).run P w = .ok 1 w) (A : Option Addr) (len cap : Nat) (kl : IntKind) (I : Nat) (h1 : I ≤ len) :
    (Instr.sliceAt T (.slice A len cap) (some (.int kl I)) none none).run P w = .ok (.slice (subA A cap I) (len - I) (cap - I)) w := by
  have h3 : (0 : Int) ≤ I := by omega
  simp [Instr.sliceAt, Instr.slice, underlying, hu, Instr.sliceBounds, Instr.sliceBound, asIntOf, h1, h3, hs, subA]
theorem Bs.sub {w : World} {B n cap I K : Nat} {A : Option Addr} {xs : List Int} (h : Bs w B A n xs) (h1 : I ≤ K) (h2 : K ≤ n) (h3 : n ≤ cap) : Bs w B (subA A cap I) (K - I) ((xs.drop I).take (K - I)) := by
  have hl := h.1
  refine ⟨by rw [List.length_take, List.length_drop]; omega, fun hp => ?_⟩
  obtain ⟨b, o, rfl, hb, hc⟩ := h.2 (by omega)
  refine ⟨b, o + I, ?_, hb, fun j hj => ?_⟩
  · unfold subA
    rw [if_neg (by omega), Option.map_some, addr_plain]
  · rw [Nat.add_assoc, hc (I + j) (by omega)]
    simp [List.getD, List.getElem?_take, hj, List.getElem?_drop]
/-- One byte, out of a block of one. -/
theorem src_one {w : World} {t g : Nat} {v : Value} (h : Row w t g [v]) : ∀ j u, [v][j]? = some u → w.cell? ((⟨g, 0, none⟩ : Addr).add j) = some u := by
  intro j u hu
  rw [addr_plain, Nat.zero_add]
  exact h.cell hu
end Go.Proofs.YtpbkejmffddelaaGreat

/-
  What a call leaves of memory that writes into one old block; parts of a struct that is built. Own work.
-/
namespace Go.Proofs.YtpbkejmffddelaaGreat
open Go.RowKit
/-- From w to w' nothing that was there has turned but block g. -/
structure But (g : Nat) (w w' : World) : Prop where
  os : w'.os = w.os
  tape : w'.tape = w.tape
  output : w'.output = w.output
  size : w.heap.size ≤ w'.heap.size
  block : ∀ k, k < w.heap.size → k ≠ g → w'.heap[k]? = w.heap[k]?
section
variable {g B t g' : Nat} {w w' a b c : World} {vs : List Value}
theorem But.refl (g : Nat) (w : World) : But g w w := ⟨rfl, rfl, rfl, Nat.le_refl _, fun _ _ _ => rfl⟩
theorem But.trans (h : But g a b) (k : But g b c) : But g a c :=
  ⟨k.os.trans h.os, k.tape.trans h.tape, k.output.trans h.output, Nat.le_trans h.size k.size, fun i hi hg => (k.block i (Nat.lt_of_lt_of_le hi h.size) hg).trans (h.block i hi hg)⟩
theorem But.of (h : Below w.heap.size w w') (g : Nat) : But g w w' := ⟨h.os, h.tape, h.output, h.size, fun k hk _ => h.block k hk⟩
theorem But.only (h : Only g w w') : But g w w' := ⟨h.os, h.tape, h.output, Nat.le_of_eq h.size.symm, fun k _ hg => h.block k hg⟩
theorem But.below (h : But g w w') (hB : B ≤ g) (hw : B ≤ w.heap.size) : Below B w w' := ⟨h.os, h.tape, h.output, h.size, fun k hk => h.block k (by omega) (by omega)⟩
theorem Row.but (h : Row w t g' vs) (hb : But g w w') (hne : g' ≠ g) : Row w' t g' vs := (hb.block g' h.lt hne).trans h
theorem But.drew (h : But g a w) : But g a w.drew := ⟨h.os, h.tape, h.output, h.size, h.block⟩
end

/-! ### Parts of a struct that is built -/
theorem fold_splice : ∀ (V L : List Value) (off : Nat), off + V.length ≤ L.length → (V.toArray.zipIdx.foldl (fun cs (x : Value × Nat) => cs.setIfInBounds (off + x.2) x.1) L.toArray) = (splice L off V).toArray := by
  intro V
  have key : ∀ (V L : List Value) (k off : Nat), off + k + V.length ≤ L.length → (V.zipIdx k).foldl (fun (cs : Array Value) (x : Value × Nat) => cs.setIfInBounds (off + x.2) x.1) L.toArray = (splice L (off + k) V).toArray := by
    intro V
    induction V with
    | nil => intro L k off h; simp [splice]
    | cons v V ih =>
      intro L k off h
      simp only [List.zipIdx_cons, List.foldl_cons, List.length_cons] at h ⊢
      rw [show (L.toArray.setIfInBounds (off + k) v) = (L.set (off + k) v).toArray by simp, ih _ _ _ (by simp; omega)]
      congr 1
      simp only [splice, List.length_cons]
      rw [show off + (k + 1) = off + k + 1 from by omega, List.take_succ_eq_append_getElem (by simp; omega), List.getElem_set_self, List.take_set_of_le (Nat.le_refl _), List.append_assoc, List.drop_set_of_lt (by omega)]
      simp
      congr 1
      omega
  intro L off h
  have := key V L 0 off (by simpa using h)
  rw [← Array.foldl_toList]
  simpa using this
theorem splice_mid {A M C V : List Value} {off : Nat} (hA : A.length = off) (hM : M.length = V.length) : splice (A ++ (M ++ C)) off V = A ++ (V ++ C) := by
  subst hA
  simp [splice, ← hM]
theorem fill_part {place : Nat → Option (Nat × Nat)} {A M C V : List Value} {i off n : Nat} {v : Value} {rest : List (Nat × Value)} (hp : place i = some (off, n)) (hv : v.cells = V.toArray) (hn : V.length = n) (hA : A.length = off) (hM : M.length = n) :
    Instr.fill place (A ++ (M ++ C)).toArray ((i, v) :: rest) = Instr.fill place (A ++ (V ++ C)).toArray rest := by
  subst hn
  conv => lhs; unfold Instr.fill
  simp only [hp, hv, List.size_toArray, ne_eq, not_true_eq_false, decide_false, Bool.false_or, gt_iff_lt]
  rw [if_neg (by simp; omega), fold_splice V _ off (by simp; omega), splice_mid hA hM]
theorem fill_cons {place : Nat → Option (Nat × Nat)} {L V : List Value} {i off n : Nat} {v : Value} {rest : List (Nat × Value)} (hp : place i = some (off, n)) (hv : v.cells = V.toArray) (hn : V.length = n) (hl : off + n ≤ L.length) :
    Instr.fill place L.toArray ((i, v) :: rest) = Instr.fill place (splice L off V).toArray rest := by
  subst hn
  conv => lhs; unfold Instr.fill
  simp only [hp, hv, List.size_toArray, ne_eq, not_true_eq_false, decide_false, Bool.false_or, gt_iff_lt]
  rw [if_neg (by simp; omega), fold_splice V L off hl]
theorem built_struct {P : Program} {t : TypeId} {fs : Array Field} {z : Value} {zs : List Value} {places : List (Nat × Nat)} {parts : List (Nat × Value)} (hi : (P.info? t).map (fun i => i.zero) = some (some z)) (hz : z.cells = zs.toArray)
    (hu : P.underlying t = some (.struct fs)) (hp : fs.toList.mapM (fun f => (P.info? f.type).map fun i => (f.offset, i.size)) = some places) :
    P.built t parts = Instr.fill (fun i => places[i]?) zs.toArray parts := by
  cases hq : P.info? t with
  | none => simp [hq] at hi
  | some it =>
    simp [hq] at hi
    simp [Program.built, hq, hu, hi, hp, hz]
end Go.Proofs.YtpbkejmffddelaaGreat

/-
  More of regions whose order is open: rows that are loaded, one row that is written. Plain theorems over whatever program. Own work.
-/
namespace Go.Proofs.YtpbkejmffddelaaGreat
open Go.RowKit
theorem run_loadRow {P : Program} {o : Oper} {a : Act} {w : World} (ty : TypeId) (x : Operand) (g t : Nat) (M : List Value) (d : TypeDesc) (ho : o.op = .load ty x) (hx : a.eval x = .pointer (some ⟨g, 0, none⟩)) (h : Row w t g M)
    (hu : P.underlying ty = some d) (hd : (match d with | .struct _ | .array _ _ => true | _ => false) = true) (hi : (P.info? ty).map (·.size) = some M.length) : (execOp a.eval o).run P w = .ok (.value (.agg M.toArray)) w :=
  run_loadP ty x g 0 t [] M [] d ho hx (by simpa using h) rfl hu hd hi
/-- An array or a struct, into the middle of a block. -/
theorem st_store_part {P : Program} {o : Oper} {a : Act} {w : World} {K : Act → World → Prop} {Q : Exit → Act → World → Prop} (ty : TypeId) (x y : Operand) (g off t : Nat) (A M C us : List Value) (ho : o.op = .store ty x y) (hx : a.eval x = .pointer (some ⟨g, off, none⟩)) (hy : a.eval y = .agg us.toArray)
    (h : Row w t g (A ++ (M ++ C))) (hA : A.length = off) (hM : M.length = us.length) (hi : (P.info? ty).map (·.size) = some us.length) (h1 : ∀ u ∈ us, u.oneCell' = true)
    (hk : ∀ w', Row w' t g (A ++ (us ++ C)) → Only g w w' → K (a.put o.dst undef) w') : o.wp P a w K Q := by
  have hrun := run_storeCells_at P g off t us 0 _ w h (by simp; omega) h1
  subst hA
  have e : ((A ++ (M ++ C)).toArray.toList.take (A.length + 0) ++ us ++ (A ++ (M ++ C)).toArray.toList.drop (A.length + 0 + us.length)) = A ++ (us ++ C) := by
    simp [← hM, List.drop_append]
  rw [e] at hrun
  cases hq : P.info? ty with
  | none => simp [hq] at hi
  | some i =>
    have hs : us.length = i.size := by simp [hq] at hi; omega
    have hr : (storeVar ty ⟨g, A.length, none⟩ (.agg us.toArray)).run P w = .ok () (w.setRow g (A ++ (us ++ C)).toArray) := by
      simp [storeVar, sizeOf, typeInfo, hq, Value.cells, hs, hrun]
    unfold Oper.wp execOp
    simp only [ho, hx, hy, Instr.storeAt, Instr.sureAddr, Sem.run_bind, Sem.run_pure, Result.andThen_ok, hr]
    exact hk _ (setRow_heap w g _ (A ++ (us ++ C)).toArray t _ h) (only_setRow _ _ _)
theorem wl_store_part {P : Program} {ops : Array Oper} {rest : List Oper} {o : Oper} {a : Act} {w : World} {Q : Exit → Act → World → Prop} (hgd : o.guard = none) (ty : TypeId) (x y : Operand) (g off t : Nat) (A M C us : List Value) (ho : o.op = .store ty x y) (hx : a.eval x = .pointer (some ⟨g, off, none⟩)) (hy : a.eval y = .agg us.toArray)
    (h : Row w t g (A ++ (M ++ C))) (hA : A.length = off) (hM : M.length = us.length) (hi : (P.info? ty).map (·.size) = some us.length) (h1 : ∀ u ∈ us, u.oneCell' = true)
    (hk : ∀ w', Row w' t g (A ++ (us ++ C)) → Only g w w' → wpList P ops Q rest (a.put o.dst undef) w') : wpList P ops Q (o :: rest) a w :=
  wpList_plain hgd fun K hK => st_store_part ty x y g off t A M C us ho hx hy h hA hM hi h1 fun w' h1 h2 => hK _ _ (hk w' h1 h2)
/-- Block g of type T turns from cur to new by one of the few (the k-th); all else that was there stays. -/
def JB (g T : Nat) (w0 : World) (k : Nat) (cur new : List Value) (bs : List Bool) (vs : List Value) (w : World) : Prop :=
  (bs.getD k false = false → Row w T g cur) ∧ (bs.getD k false = true → Row w T g new) ∧ But g w0 w
theorem JB.call {g T k : Nat} {w0 w w' : World} {cur new : List Value} {bs : List Bool} {vs us : List Value} (h : JB g T w0 k cur new bs vs w) (hb : Below w.heap.size w w') : JB g T w0 k cur new bs us w' :=
  ⟨fun h0 => (h.1 h0).later hb, fun h0 => (h.2.1 h0).later hb, h.2.2.trans (But.of hb g)⟩
theorem JB.store {g T k : Nat} {w0 w w' : World} {cur new : List Value} {bs bs' : List Bool} {vs us : List Value} (h : JB g T w0 k cur new bs vs w) (ho : Only g w w') (hr : Row w' T g new) (hk : bs'.getD k false = true) : JB g T w0 k cur new bs' us w' :=
  ⟨fun h0 => absurd (hk.symm.trans h0) (by decide), fun _ => hr, h.2.2.trans (But.only ho)⟩
theorem JB.start {g T k : Nat} {w : World} {cur new : List Value} {bs : List Bool} {vs : List Value} (h : Row w T g cur) (hk : bs.getD k false = false) : JB g T w k cur new bs vs w.drew :=
  ⟨fun _ => h, fun h1 => absurd (hk.symm.trans h1) (by decide), (But.refl _ _).drew⟩
end Go.Proofs.YtpbkejmffddelaaGreat

/-
  Regions whose order of evaluation is open, next part: each of the few keeps a fact of its own on its value, which growth of memory leaves; and an array that the region makes and fills.
  Plain theorems about the model's regions, over whatever program. Own work.
-/
namespace Go.Proofs.YtpbkejmffddelaaGreat
open Go.RowKit
/-- What the few keep. -/
def JF (w0 : World) (E : List Nat) (F : Nat → Value → World → Prop) (bs : List Bool) (vs : List Value) (w : World) : Prop :=
  Below w0.heap.size w0 w ∧ ∀ (k j : Nat), E[k]? = some j → bs.getD k false = true → F j (vs.getD k undef) w
section
variable {P : Program} {l : List Oper} {t0 : Array Value} {ds0 : List Deferred} {Sv : Nat → Value → Prop} {E : List Nat} {F : Nat → Value → World → Prop} {L : Array Bool} {a : Act} {w w0 w' : World} {i : Nat} {o : Oper}
theorem JF.start (vs : List Value) : JF w E F (E.map fun _ => false) vs w.drew := by
  refine ⟨(Below.refl _ _).drew, fun k j hk hb => ?_⟩
  rw [List.getD, List.getElem?_map, hk] at hb
  cases hb
theorem JF.below (h : Mid l t0 ds0 Sv E (JF w0 E F) L a w) : Below w0.heap.size w0 w := h.inv.1
/-- The fact of an operation that comes ahead. -/
theorem JF.get (h : Mid l t0 ds0 Sv E (JF w0 E F) L a w) (n : Now l i o L) (j d : Nat) (hb : depB l i j = true) (hE : E.contains j = true) (hd : (l[j]?).bind (·.dst) = some d) : F j (a.tmps.getD d undef) w := by
  obtain ⟨k, hk⟩ := List.getElem?_of_mem (List.contains_iff_mem.1 hE)
  have := h.inv.2 k j hk (by simp only [bitsOf, List.getD, List.getElem?_map, hk, Option.map_some, Option.getD_some]; exact n.dep hb)
  simpa [slotsOf, List.getD, List.getElem?_map, hk, slotOf, hd] using this
theorem JF.step (hm : ∀ j v w w', F j v w → Below w.heap.size w w' → F j v w') (h : Mid l t0 ds0 Sv E (JF w0 E F) L a w) (hb : Below w.heap.size w w') (v : Value) (hF : F i v w') :
    JF w0 E F (E.map fun j => if j = i then true else L.getD j false) (E.map fun j => if j = i then v else slotOf l j a.tmps) w' := by
  refine ⟨h.inv.1.trans (hb.mono h.inv.1.size), fun k j hk hx => ?_⟩
  have h1 := h.inv.2 k j hk
  simp only [bitsOf, slotsOf, List.getD, List.getElem?_map, hk, Option.map_some, Option.getD_some] at h1 hx ⊢
  by_cases e : j = i
  · rw [if_pos e, e]; exact hF
  · rw [if_neg e] at hx ⊢
    exact hm _ _ _ _ (h1 hx) hb
/-- One of the few that makes memory, or leaves it. -/
theorem JF.few {K : Act → World → Prop} (hm : ∀ j v w w', F j v w → Below w.heap.size w w' → F j v w') (h : Mid l t0 ds0 Sv E (JF w0 E F) L a w)
    (hK : ∀ v w', Sv i v → JF w0 E F (E.map fun j => if j = i then true else L.getD j false) (E.map fun j => if j = i then (if o.dst = none then undef else v) else slotOf l j a.tmps) w' → K (a.put o.dst v) w')
    (d : Nat) (hd : o.dst = some d) (v : Value) (hS : Sv i v) (hF : F i v w') (hb : Below w.heap.size w w') : K (a.put o.dst v) w' := by
  refine hK v w' hS ?_
  rw [hd, if_neg (by simp)]
  exact JF.step hm h hb v hF
/-- A call. -/
theorem JF.call {Q : Exit → Act → World → Prop} {K : Act → World → Prop} (hm : ∀ j v w w', F j v w → Below w.heap.size w w' → F j v w') (h : Mid l t0 ds0 Sv E (JF w0 E F) L a w)
    (hK : ∀ v w', Sv i v → JF w0 E F (E.map fun j => if j = i then true else L.getD j false) (E.map fun j => if j = i then (if o.dst = none then undef else v) else slotOf l j a.tmps) w' → K (a.put o.dst v) w')
    (d : Nat) (hd : o.dst = some d) (f : FuncId) (args : Array Operand) (ats : Array TypeId) (vals : Array Value) (ho : o.op = .call { callee := .value (.func f), args := args, argTypes := ats })
    (hf : ∀ (xs : Array Value) (w : World), (callFunc f xs).run P w = .ok (.enter f xs) w) (hv : args.map a.eval = vals)
    {R : Ending → World → Prop} (hc : Calls P f vals w R) (hr : ∀ e w', R e w' → ∃ v, e = .returned v ∧ Sv i v ∧ F i v w' ∧ Below w.heap.size w w') : o.wp P a w K Q :=
  st_call f args ats vals ho hf hv hc fun e w' hR => by
    obtain ⟨v, he, hS, hF, hb⟩ := hr e w' hR
    exact ⟨v, he, JF.few hm h hK d hd v hS hF hb⟩
/-- An operation without an effect, of a value that hangs on the few's. -/
theorem JF.run {Q : Exit → Act → World → Prop} {K : Act → World → Prop} (hm : ∀ j v w w', F j v w → Below w.heap.size w w' → F j v w') (h : Mid l t0 ds0 Sv E (JF w0 E F) L a w)
    (hK : ∀ v w', Sv i v → JF w0 E F (E.map fun j => if j = i then true else L.getD j false) (E.map fun j => if j = i then (if o.dst = none then undef else v) else slotOf l j a.tmps) w' → K (a.put o.dst v) w')
    (d : Nat) (hd : o.dst = some d) (v : Value) (hrun : (execOp a.eval o).run P w = .ok (.value v) w) (hS : Sv i v) (hF : F i v w) : o.wp P a w K Q := by
  unfold Oper.wp
  rw [hrun]
  exact JF.few hm h hK d hd v hS hF (Below.refl _ _)
/-- What the few know in the end. -/
theorem JF.last {V : Nat → Value} (h : JF w0 E F (E.map fun _ => true) (E.map (lastOf l V)) w) (j d : Nat) (hE : E.contains j = true) (hd : (l[j]?).bind (·.dst) = some d) : F j (V j) w := by
  obtain ⟨k, hk⟩ := List.getElem?_of_mem (List.contains_iff_mem.1 hE)
  have := h.2 k j hk (by simp only [List.getD, List.getElem?_map, hk, Option.map_some, Option.getD_some])
  simpa [List.getD, List.getElem?_map, hk, lastOf, hd] using this
end
/-! ### An array that the region makes and fills -/
/-- ia, js: where the making and the filling stand among the few. -/
def JA (w0 : World) (T : Nat) (zs blk : List Value) (ia js : Nat) (bs : List Bool) (vs : List Value) (w : World) : Prop :=
  Below w0.heap.size w0 w ∧ (bs.getD ia false = true → ∃ g, vs.getD ia undef = .pointer (some ⟨g, 0, none⟩) ∧ w0.heap.size ≤ g ∧ Row w T g (bif bs.getD js false then blk else zs))
section
variable {w0 w w' : World} {T ia js : Nat} {zs blk : List Value} {bs bs' : List Bool} {vs vs' : List Value}
theorem JA.grow (h : JA w0 T zs blk ia js bs vs w) (hb : Below w.heap.size w w') (h1 : bs'.getD ia false = bs.getD ia false) (h2 : vs'.getD ia undef = vs.getD ia undef) (h3 : bs'.getD js false = bs.getD js false) : JA w0 T zs blk ia js bs' vs' w' := by
  refine ⟨h.1.trans (hb.mono h.1.size), fun hx => ?_⟩
  rw [h1] at hx
  obtain ⟨g, p, q, r⟩ := h.2 hx
  exact ⟨g, by rw [h2]; exact p, q, by rw [h3]; exact r.later hb⟩
theorem JA.made (h : JA w0 T zs blk ia js bs vs w) {g : Nat} (hb : Below w.heap.size w w') (hr : Row w' T g zs) (hg : w.heap.size ≤ g) (hv : vs'.getD ia undef = .pointer (some ⟨g, 0, none⟩)) (h3 : bs'.getD js false = false) : JA w0 T zs blk ia js bs' vs' w' :=
  ⟨h.1.trans (hb.mono h.1.size), fun _ => ⟨g, hv, Nat.le_trans h.1.size hg, by rw [h3]; exact hr⟩⟩
theorem JA.filled (h : JA w0 T zs blk ia js bs vs w) {g : Nat} (ho : Only g w w') (hg : w0.heap.size ≤ g) (hr : Row w' T g blk) (hv : vs'.getD ia undef = .pointer (some ⟨g, 0, none⟩)) (h3 : bs'.getD js false = true) : JA w0 T zs blk ia js bs' vs' w' :=
  ⟨h.1.trans (ho.below hg), fun _ => ⟨g, hv, hg, by rw [h3]; exact hr⟩⟩
end
/-! ### Facts -/
/-- Bytes that a call made. -/
def SlF (xs : List Int) (v : Value) (w : World) : Prop := ∃ A c, v = .slice A xs.length c ∧ Bs w w.heap.size A xs.length xs ∧ xs.length ≤ c ∧ c ≤ maxLen
theorem SlF.later {xs : List Int} {v : Value} {w w' : World} (h : SlF xs v w) (hb : Below w.heap.size w w') : SlF xs v w' := by
  obtain ⟨A, c, e, b, h1, h2⟩ := h
  exact ⟨A, c, e, b.later hb, h1, h2⟩
theorem SlF.of_ret {xs : List Int} {w w' : World} {e : Ending} (h : RetBs xs w e w') : ∃ v, e = .returned v ∧ SlF xs v w' ∧ Below w.heap.size w w' := by
  obtain ⟨A, n, c, rfl, hb, h1, h2, h3⟩ := h
  obtain rfl : n = xs.length := hb.1.symm
  exact ⟨_, rfl, ⟨A, c, rfl, hb, h1, h2⟩, h3⟩
/-- Bytes and a second answer. -/
def PrF (u : Value) (xs : List Int) (v : Value) (w : World) : Prop := ∃ A c, v = .tuple #[.slice A xs.length c, u] ∧ Bs w w.heap.size A xs.length xs ∧ xs.length ≤ c ∧ c ≤ maxLen
theorem PrF.later {u : Value} {xs : List Int} {v : Value} {w w' : World} (h : PrF u xs v w) (hb : Below w.heap.size w w') : PrF u xs v w' := by
  obtain ⟨A, c, e, b, h1, h2⟩ := h
  exact ⟨A, c, e, b.later hb, h1, h2⟩
/-- A second answer alone. -/
def IsF (u : Value) (v : Value) (w : World) : Prop := v = u
theorem IsF.later {u : Value} {v : Value} {w w' : World} (h : IsF u v w) (hb : Below w.heap.size w w') : IsF u v w' := h
end Go.Proofs.YtpbkejmffddelaaGreat

/-
  Arrays of bytes (of numbers) that are compared; a struct or an array that is built in a region whose order is open. Plain theorems over whatever program. Own work.
-/
namespace Go.Proofs.YtpbkejmffddelaaGreat
open Go.RowKit
theorem run_eqItems_k {P : Program} {kd : IntKind} {e : TypeId} (w : World) (he : P.underlying e = some (.int kd)) (ha : ∀ w, (isAgg e).run P w = .ok false w) (xs ys : List Int) (n : Nat) (hx : xs.length = n) (hy : ys.length = n) (d : Nat) :
    ∀ is : List Nat, (∀ i ∈ is, i < n) → (Op.eqItems (d + 1) e 1 (vk kd xs).toArray (vk kd ys).toArray is).run P w = .ok (is.all fun i => xs.getD i 0 == ys.getD i 0) w
  | [], _ => rfl
  | i :: is, h => by
    have hi := h i (by simp)
    have ih := run_eqItems_k w he ha xs ys n hx hy d is fun j hj => h j (by simp [hj])
    have c1 : (vk kd xs)[i]? = some (.int kd (xs.getD i 0)) := vk_get (by omega)
    have c2 : (vk kd ys)[i]? = some (.int kd (ys.getD i 0)) := vk_get (by omega)
    have p1 : (part e (vk kd xs).toArray (i * 1)).run P w = .ok (.int kd (xs.getD i 0)) w := by simp [part, ha, c1]
    have p2 : (part e (vk kd ys).toArray (i * 1)).run P w = .ok (.int kd (ys.getD i 0)) w := by simp [part, ha, c2]
    simp only [Op.eqItems, Sem.run_bind, p1, p2, Result.andThen_ok, run_equalIn_int w d e kd kd _ _ he]
    cases hq : (xs.getD i 0 == ys.getD i 0) with
    | false => simp only [List.all_cons, hq, Bool.not_false, if_true, Bool.false_and, Sem.run_pure]
    | true => simp only [List.all_cons, hq, Bool.not_true, Bool.false_eq_true, if_false, Bool.true_and, ih]
theorem all_eq {xs ys : List Int} (n : Nat) (hx : xs.length = n) (hy : ys.length = n) : ((List.range n).all fun i => xs.getD i 0 == ys.getD i 0) = decide (xs = ys) := by
  by_cases h : xs = ys
  · subst h
    simp
  · rw [decide_eq_false h]
    refine Bool.eq_false_iff.2 fun ha => h ?_
    rw [List.all_eq_true] at ha
    apply List.ext_getElem (by omega)
    intro i h1 h2
    have := ha i (by simp; omega)
    simpa [List.getD, h1, h2] using this
theorem run_eqArr {P : Program} {kd : IntKind} {t e n : Nat} {i : TypeInfo} (w : World) (hu : P.underlying t = some (.array n e)) (hi : P.info? e = some i) (hsz : P.cellsOf e = 1) (he : P.underlying e = some (.int kd)) (ha : ∀ w, (isAgg e).run P w = .ok false w) (xs ys : List Int) (hx : xs.length = n) (hy : ys.length = n) :
    (Op.equalIn 10000 t (.agg (vk kd xs).toArray) (.agg (vk kd ys).toArray)).run P w = .ok (decide (xs = ys)) w := by
  rw [show (10000 : Nat) = 9999 + 1 from rfl, run_equalIn_array 9999 (w := w) (t := t) _ _ hu hi, hsz, show (9999 : Nat) = 9998 + 1 from rfl, run_eqItems_k w he ha xs ys n hx hy 9998 _ (by simp), all_eq n hx hy]
theorem run_eqlA {P : Program} {o : Oper} {a : Act} {w : World} {kd : IntKind} {t e n u : Nat} {i : TypeInfo} (x y : Operand) (ho : o.op = .binOp .eql t x y u) (hu : P.underlying t = some (.array n e)) (hi : P.info? e = some i) (hsz : P.cellsOf e = 1) (he : P.underlying e = some (.int kd)) (ha : ∀ w, (isAgg e).run P w = .ok false w) (xs ys : List Int) (hx : a.eval x = .agg (vk kd xs).toArray) (hy : a.eval y = .agg (vk kd ys).toArray) (lx : xs.length = n) (ly : ys.length = n) (hm : P.eqGuardType P.depth t = false) :
    (execOp a.eval o).run P w = .ok (.value (.bool (decide (xs = ys)))) w := by
  unfold execOp
  simp only [ho, hx, hy]
  go_simp
  simp only [run_eqGuard_agg (P := P) (hm := hm), run_eqArr w hu hi hsz he ha xs ys lx ly, Result.andThen_ok]
theorem run_neqA {P : Program} {o : Oper} {a : Act} {w : World} {kd : IntKind} {t e n u : Nat} {i : TypeInfo} (x y : Operand) (ho : o.op = .binOp .neq t x y u) (hu : P.underlying t = some (.array n e)) (hi : P.info? e = some i) (hsz : P.cellsOf e = 1) (he : P.underlying e = some (.int kd)) (ha : ∀ w, (isAgg e).run P w = .ok false w) (xs ys : List Int) (hx : a.eval x = .agg (vk kd xs).toArray) (hy : a.eval y = .agg (vk kd ys).toArray) (lx : xs.length = n) (ly : ys.length = n) (hm : P.eqGuardType P.depth t = false) :
    (execOp a.eval o).run P w = .ok (.value (.bool (!decide (xs = ys)))) w := by
  unfold execOp
  simp only [ho, hx, hy]
  go_simp
  simp only [run_eqGuard_agg (P := P) (hm := hm), run_eqArr w hu hi hsz he ha xs ys lx ly, Result.andThen_ok]
theorem run_eqlT {P : Program} {o : Oper} {a : Act} {w : World} {kd : IntKind} {t e n u : Nat} {i : TypeInfo} (x y : Operand) (ho : o.op = .binOp .eql t x y u) (hu : P.underlying t = some (.array n e)) (hi : P.info? e = some i) (hsz : P.cellsOf e = 1) (he : P.underlying e = some (.int kd)) (ha : ∀ w, (isAgg e).run P w = .ok false w) (xs : List Int) (hx : a.eval x = .agg (vk kd xs).toArray) (hy : a.eval y = .agg (vk kd xs).toArray) (lx : xs.length = n) (hm : P.eqGuardType P.depth t = false) :
    (execOp a.eval o).run P w = .ok (.value (.bool true)) w := by
  rw [run_eqlA x y ho hu hi hsz he ha xs xs hx hy lx lx hm]; simp
theorem run_neqF {P : Program} {o : Oper} {a : Act} {w : World} {kd : IntKind} {t e n u : Nat} {i : TypeInfo} (x y : Operand) (ho : o.op = .binOp .neq t x y u) (hu : P.underlying t = some (.array n e)) (hi : P.info? e = some i) (hsz : P.cellsOf e = 1) (he : P.underlying e = some (.int kd)) (ha : ∀ w, (isAgg e).run P w = .ok false w) (xs : List Int) (hx : a.eval x = .agg (vk kd xs).toArray) (hy : a.eval y = .agg (vk kd xs).toArray) (lx : xs.length = n) (hm : P.eqGuardType P.depth t = false) :
    (execOp a.eval o).run P w = .ok (.value (.bool false)) w := by
  rw [run_neqA x y ho hu hi hsz he ha xs xs hx hy lx lx hm]; simp
/-- Only new memory. -/
def JR (w0 : World) (bs : List Bool) (vs : List Value) (w : World) : Prop := Below w0.heap.size w0 w
theorem JR.call {w0 w w' : World} {bs bs' : List Bool} {vs vs' : List Value} (h : JR w0 bs vs w) (hb : Below w.heap.size w w') : JR w0 bs' vs' w' := h.trans (hb.mono h.size)
theorem run_buildX {P : Program} {o : Oper} {a : Act} {w : World} (t : TypeId) (parts : List (Nat × Operand)) (ho : o.op = .build t parts.toArray) (vals : List (Nat × Value)) (hv : parts.map (fun p => (p.1, a.eval p.2)) = vals) (cells : List Value) (hb : P.built t vals = some cells.toArray) :
    (execOp a.eval o).run P w = .ok (.value (.agg cells.toArray)) w := by
  subst hv
  have e : (parts.toArray.map fun (i, x) => (i, a.eval x)).toList = parts.map (fun p => (p.1, a.eval p.2)) := by simp
  unfold execOp
  simp only [ho, Sem.run_bind]
  rw [run_build w t _ cells.toArray (by rw [e]; exact hb)]
  rfl
theorem wg_build {P : Program} {ops : Array Oper} {rest : List Oper} {o : Oper} {a : Act} {w : World} {Q : Exit → Act → World → Prop} (g' : Nat) (b : Bool) (d' : Nat) (hg : o.guard = some (g', b)) (hd' : (ops[g']?).bind (·.dst) = some d') (hv' : a.tmps[d']? = some (.bool b)) (t : TypeId) (parts : List (Nat × Operand)) (ho : o.op = .build t parts.toArray) (vals : List (Nat × Value)) (hv : parts.map (fun p => (p.1, a.eval p.2)) = vals) (cells : List Value) (hb : P.built t vals = some cells.toArray)
    (hk : wpList P ops Q rest (a.put o.dst (.agg cells.toArray)) w) : wpList P ops Q (o :: rest) a w :=
  wpList_guarded g' b d' hg hd' hv' fun K hK => by
    unfold Oper.wp
    rw [run_buildX t parts ho vals hv cells hb]
    exact hK _ _ hk
end Go.Proofs.YtpbkejmffddelaaGreat

/-
  Regions whose order of evaluation is open, one part more: the last of the few stores into an old block, behind all others. Plain theorems about the model's regions, over whatever program. Own work.
-/
namespace Go.Proofs.YtpbkejmffddelaaGreat
open Go.RowKit
/-- What the few keep whose ks-th stores into block g. -/
def JG (g T : Nat) (w0 : World) (E : List Nat) (F : Nat → Value → World → Prop) (ks : Nat) (new : List Value) (bs : List Bool) (vs : List Value) (w : World) : Prop :=
  (bs.getD ks false = false → JF w0 E F bs vs w) ∧ (bs.getD ks false = true → But g w0 w ∧ Row w T g new)
section
variable {P : Program} {l : List Oper} {t0 : Array Value} {ds0 : List Deferred} {Sv : Nat → Value → Prop} {E : List Nat} {F : Nat → Value → World → Prop} {L : Array Bool} {a : Act} {w w0 w' : World} {i s g T ks : Nat} {o : Oper} {new : List Value}
theorem bits_at {E : List Nat} {L : Array Bool} {ks s : Nat} (hs : E[ks]? = some s) : (bitsOf E L).getD ks false = L.getD s false := by
  simp only [bitsOf, List.getD, List.getElem?_map, hs, Option.map_some, Option.getD_some]
theorem JG.start (vs : List Value) : JG g T w E F ks new (E.map fun _ => false) vs w.drew := by
  refine ⟨fun _ => JF.start vs, fun h => ?_⟩
  rw [List.getD, List.getElem?_map] at h
  cases hq : E[ks]? <;> rw [hq] at h <;> cases h
theorem JG.down (h : Mid l t0 ds0 Sv E (JG g T w0 E F ks new) L a w) (no : L.getD s false = false) (hs : E[ks]? = some s) : Mid l t0 ds0 Sv E (JF w0 E F) L a w := by
  have hj := h.inv.1 ((bits_at hs).trans no)
  exact ⟨⟨h.atL.defers, h.atL.size, h.atL.old, trivial, hj, h.atL.spec⟩, hj⟩
theorem JG.cont {K : Act → World → Prop} (hK : ∀ v w', Sv i v → JG g T w0 E F ks new (E.map fun j => if j = i then true else L.getD j false) (E.map fun j => if j = i then (if o.dst = none then undef else v) else slotOf l j a.tmps) w' → K (a.put o.dst v) w')
    (no : L.getD s false = false) (hs : E[ks]? = some s) (hne : s ≠ i) : ∀ v w', Sv i v → JF w0 E F (E.map fun j => if j = i then true else L.getD j false) (E.map fun j => if j = i then (if o.dst = none then undef else v) else slotOf l j a.tmps) w' → K (a.put o.dst v) w' := by
  intro v w' hS hJ
  refine hK v w' hS ⟨fun _ => hJ, fun h1 => ?_⟩
  simp only [List.getD, List.getElem?_map, hs, Option.map_some, Option.getD_some, if_neg hne] at h1
  have h2 : L.getD s false = true := h1
  rw [no] at h2
  cases h2
/-- The store. -/
theorem JG.store {K : Act → World → Prop} (h : Mid l t0 ds0 Sv E (JG g T w0 E F ks new) L a w)
    (hK : ∀ v w', Sv i v → JG g T w0 E F ks new (E.map fun j => if j = i then true else L.getD j false) (E.map fun j => if j = i then (if o.dst = none then undef else v) else slotOf l j a.tmps) w' → K (a.put o.dst v) w')
    (no : L.getD i false = false) (hs : E[ks]? = some i) (hS : Sv i undef) (hr : Row w' T g new) (ho : Only g w w') : K (a.put o.dst undef) w' := by
  have hj := h.inv.1 ((bits_at hs).trans no)
  refine hK undef w' hS ⟨fun h0 => ?_, fun _ => ⟨(But.of hj.1 g).trans (But.only ho), hr⟩⟩
  simp [List.getD, List.getElem?_map, hs] at h0
theorem JG.last {bs : List Bool} {vs : List Value} (h : JG g T w0 E F ks new bs vs w) (hb : bs.getD ks false = true) : But g w0 w ∧ Row w T g new := h.2 hb
end
/-- Slices of bytes in a row that a call made: their bytes. -/
def BsF (k : Nat) (xss : List (List Int)) (v : Value) (w : World) : Prop := ∃ A c, v = .slice A k c ∧ Bss w w.heap.size A k xss
theorem BsF.later {k : Nat} {xss : List (List Int)} {v : Value} {w w' : World} (h : BsF k xss v w) (hb : Below w.heap.size w w') : BsF k xss v w' := by
  obtain ⟨A, c, e, b⟩ := h
  exact ⟨A, c, e, (b.below hb).up hb.size⟩
/-- A row of slices. -/
theorem Row.bss {w : World} {t g : Nat} {l : List (Option Addr × Nat × Nat × List Int)} {vs : List Value} (h : Row w t g vs) (hv : vs = l.map fun x => Value.slice x.1 x.2.1 x.2.2.1) (hx : ∀ x ∈ l, Bs w w.heap.size x.1 x.2.1 x.2.2.2) : Bss w w.heap.size (some ⟨g, 0, none⟩) l.length (l.map fun x => x.2.2.2) := by
  subst hv
  refine ⟨by simp, fun _ => ⟨g, 0, rfl, h.lt, fun j hj => ⟨l[j].1, l[j].2.1, l[j].2.2.1, ?_, ?_⟩⟩⟩
  · rw [Nat.zero_add]
    refine h.cell ?_
    simp [hj]
  · have := hx l[j] (by simp)
    simpa [List.getD, List.getElem?_eq_getElem (show j < (l.map fun x => x.2.2.2).length by simpa using hj)] using this
theorem Row.bss1 {w : World} {t g n c : Nat} {A : Option Addr} {xs : List Int} (h : Row w t g [.slice A n c]) (h1 : Bs w w.heap.size A n xs) : Bss w w.heap.size (some ⟨g, 0, none⟩) 1 [xs] :=
  Row.bss (l := [(A, n, c, xs)]) h rfl (by simpa using h1)
theorem Row.bss2 {w : World} {t g n c m d : Nat} {A B : Option Addr} {xs ys : List Int} (h : Row w t g [.slice A n c, .slice B m d]) (h1 : Bs w w.heap.size A n xs) (h2 : Bs w w.heap.size B m ys) : Bss w w.heap.size (some ⟨g, 0, none⟩) 2 [xs, ys] :=
  Row.bss (l := [(A, n, c, xs), (B, m, d, ys)]) h rfl (by intro x hx; simp at hx; rcases hx with rfl | rfl <;> assumption)
theorem Row.bss3 {w : World} {t g n c m d k f : Nat} {A B C : Option Addr} {xs ys zs : List Int} (h : Row w t g [.slice A n c, .slice B m d, .slice C k f]) (h1 : Bs w w.heap.size A n xs) (h2 : Bs w w.heap.size B m ys) (h3 : Bs w w.heap.size C k zs) : Bss w w.heap.size (some ⟨g, 0, none⟩) 3 [xs, ys, zs] :=
  Row.bss (l := [(A, n, c, xs), (B, m, d, ys), (C, k, f, zs)]) h rfl (by intro x hx; simp at hx; rcases hx with rfl | rfl | rfl <;> assumption)
/-- The second slot's fact of a block of bytes. -/
theorem Bs.row {w : World} {t g n : Nat} {xs : List Int} (h : Row w t g (bv xs)) (hn : xs.length = n) : Bs w w.heap.size (some ⟨g, 0, none⟩) n xs := by
  have := (Row.toOwn h).bs h.lt
  rwa [hn] at this
end Go.Proofs.YtpbkejmffddelaaGreat

/-
  Regions whose order of evaluation is open, next part: guards that fail: what is guarded so is passed over. Two things that two of the few turn. Plain theorems about the model's regions, over whatever program. Own work.
-/
namespace Go.Proofs.YtpbkejmffddelaaGreat
open Go.RowKit
/-- An operation's guard fails. -/
def GNo (l : List Oper) (t0 : Array Value) (Sv : Nat → Value → Prop) (i : Nat) (o : Oper) : Prop :=
  ∃ (g : Nat) (b : Bool) (d : Nat), o.guard = some (g, b) ∧ depB l i g = true ∧ (l[g]?).bind (·.dst) = some d ∧ d < t0.size ∧ ∀ v, Sv g v → v ≠ .bool b
theorem ne_tf : Value.bool true ≠ .bool false := by intro h; cases h
theorem ne_ft : Value.bool false ≠ .bool true := by intro h; cases h
theorem ne_undef (b : Bool) : undef ≠ .bool b := by intro h; cases h
section
variable {l : List Oper} {t0 : Array Value} {ds0 : List Deferred} {S : Nat → Value → World → Prop} {R : World → World → Prop} {I : Array Bool → Act → World → Prop} {w0 : World} {L : Array Bool} {a : Act} {w : World} {i : Nat} {o : Oper}
theorem At.unwanted (h : At l t0 ds0 S R I w0 L a w) (g : Nat) (b : Bool) (d : Nat) (ho : o.guard = some (g, b)) (hd : (l[g]?).bind (·.dst) = some d) (hs : d < t0.size) (hv : a.tmps.getD d undef ≠ .bool b) :
    Region.wanted o (yielded l.toArray a.tmps) = false := by
  have hlt : d < a.tmps.size := by rw [h.size]; exact hs
  have hv' : a.tmps[d]? = some (a.tmps.getD d undef) := by
    simp only [Array.getD_eq_getD_getElem?, Array.getElem?_eq_getElem hlt, Option.getD_some]
  generalize a.tmps.getD d undef = v at hv hv'
  cases v with
  | bool c =>
    have hc : c ≠ b := fun e => hv (by rw [e])
    simp [Region.wanted, ho, yielded, hd, hv', hc]
  | _ => simp [Region.wanted, ho, yielded, hd, hv']
end
/-- THE RULE: guards hold or fail. -/
theorem wp_region_valsS {P : Program} {id : Nat} {l : List Oper} {Q : Exit → Act → World → Prop} {t0 : Array Value} {ds0 : List Deferred} {w : World}
    (E : List Nat) (Sv : Nat → Value → Prop) (J : List Bool → List Value → World → Prop)
    (hm : P.follows .mixedOrders = true) (hd : dagB l.toArray = true) (hu : dstsB l t0.size = true)
    (hE : (E.all fun i => decide (i < l.length)) = true) (hI0 : J (E.map fun _ => false) (slotsOf l E t0) w.drew)
    (obs : AllOps (fun i o => (GOk l t0 Sv i o ∧ (PlainOb P l t0 ds0 Sv E J i o ∨ FewOb P l t0 ds0 Sv E J Q i o)) ∨ (GNo l t0 Sv i o ∧ E.contains i = false ∧ Sv i undef)) 0 l)
    (he : ∀ (V : Nat → Value) (w' : World), (∀ (i d : Nat), (l[i]?).bind (·.dst) = some d → Sv i (V i)) → J (E.map fun _ => true) (E.map (lastOf l V)) w' → Q .normal ⟨putOps l 0 V t0, ds0⟩ w') :
    (Code.region id l.toArray true).wp P Q ⟨t0, ds0⟩ w := by
  refine wp_region_specs (fun n v _ => Sv n v) (fun _ _ => True) (fun L a w => J (bitsOf E L) (slotsOf l E a.tmps) w) hm hd hu (fun _ => trivial) (fun _ _ _ _ _ => trivial) (fun _ _ _ _ _ h => h) ?_ ?_ ?_
  · have : bitsOf E (Array.replicate l.length false) = E.map fun _ => false := by
      unfold bitsOf
      apply List.map_congr_left
      intro j _
      simp only [Array.getD_eq_getD_getElem?, Array.getElem?_replicate]
      split <;> rfl
    show J (bitsOf E (Array.replicate l.length false)) _ _
    rw [this]; exact hI0
  · refine AllOps.mk l 0 fun i o ho => ?_
    rw [Nat.zero_add]
    have hob := AllOps.get l 0 obs i o ho
    rw [Nat.zero_add] at hob
    intro L a w1 n hAt K hK
    have hMid : Mid l t0 ds0 Sv E J L a w1 := ⟨⟨hAt.defers, hAt.size, hAt.old, trivial, hAt.inv, hAt.spec⟩, hAt.inv⟩
    rcases hob with hob | ⟨⟨g, b, d, hgo, hdep, hd, hs, hsv⟩, hEi, hSu⟩
    · have hw : Region.wanted o (yielded l.toArray a.tmps) = true := by
        rcases hob.1 with hgo | ⟨g, b, d, hgo, hdep, hd, hs, hsv⟩
        · simp [Region.wanted, hgo]
        · exact hAt.wanted g b d hgo hd hs (hsv _ (hMid.dep n g d hdep hd))
      replace hob := hob.2
      rw [if_pos hw]
      rcases hob with ⟨hE, hob⟩ | hob
      · obtain ⟨v, hv, hrun⟩ := hob L a w1 n hMid
        unfold Oper.wp
        rw [hrun]
        refine hK v w1 hv trivial ?_
        rw [bits_plain n hE, slots_plain hu n hAt.size hE]
        exact hAt.inv
      · refine hob L a w1 n hMid K fun v w' hv hJ => hK v w' hv trivial ?_
        rw [bits_few n, slots_few hu n hAt.size]
        exact hJ
    · have hw : Region.wanted o (yielded l.toArray a.tmps) = false := hAt.unwanted g b d hgo hd hs (hsv _ (hMid.dep n g d hdep hd))
      rw [hw, if_neg (by simp)]
      refine hK undef w1 hSu trivial ?_
      rw [bits_plain n hEi, slots_plain hu n hAt.size hEi]
      exact hAt.inv
  · intro V L w' hall hV _ hJ
    refine he V w' hV ?_
    have : bitsOf E L = E.map fun _ => true := by
      unfold bitsOf
      apply List.map_congr_left
      intro j hj
      exact hall j (of_decide_eq_true (List.all_eq_true.1 hE j hj))
    rw [← this, ← slots_last hu]; exact hJ
/-- Two things, each of which one of the few turns; what else is there stays but for the blocks S. -/
def J2 (w0 : World) (Fr : World → World → Prop) (A0 A1 B0 B1 : World → Prop) (ia ib : Nat) (bs : List Bool) (vs : List Value) (w : World) : Prop :=
  Fr w0 w ∧ (bs.getD ia false = false → A0 w) ∧ (bs.getD ia false = true → A1 w) ∧ (bs.getD ib false = false → B0 w) ∧ (bs.getD ib false = true → B1 w)
section
variable {w0 w w' : World} {Fr : World → World → Prop} {A0 A1 B0 B1 : World → Prop} {ia ib : Nat} {bs bs' : List Bool} {vs vs' : List Value}
theorem J2.first (h : J2 w0 Fr A0 A1 B0 B1 ia ib bs vs w) (hf : Fr w0 w') (h1 : A1 w') (h2 : bs'.getD ia false = true) (h3 : bs'.getD ib false = bs.getD ib false) (h4 : B0 w → B0 w') (h5 : B1 w → B1 w') : J2 w0 Fr A0 A1 B0 B1 ia ib bs' vs' w' :=
  ⟨hf, fun h0 => absurd (h2.symm.trans h0) (by decide), fun _ => h1, fun h0 => h4 (h.2.2.2.1 (h3 ▸ h0)), fun h0 => h5 (h.2.2.2.2 (h3 ▸ h0))⟩
theorem J2.second (h : J2 w0 Fr A0 A1 B0 B1 ia ib bs vs w) (hf : Fr w0 w') (h1 : B1 w') (h2 : bs'.getD ib false = true) (h3 : bs'.getD ia false = bs.getD ia false) (h4 : A0 w → A0 w') (h5 : A1 w → A1 w') : J2 w0 Fr A0 A1 B0 B1 ia ib bs' vs' w' :=
  ⟨hf, fun h0 => h4 (h.2.1 (h3 ▸ h0)), fun h0 => h5 (h.2.2.1 (h3 ▸ h0)), fun h0 => absurd (h2.symm.trans h0) (by decide), fun _ => h1⟩
end
end Go.Proofs.YtpbkejmffddelaaGreat

/-
  Values of plain operations, next part: comparisons, negation, fields by value. Plain theorems over whatever program. Own work.
-/
namespace Go.Proofs.YtpbkejmffddelaaGreat
open Go.RowKit
section
variable {P : Program} {o : Oper} {a : Act} {w : World} {t u : Nat} {k : IntKind} {m n : Int} {r : Bool}
theorem run_lssI (x y : Operand) (ho : o.op = .binOp .lss t x y u) (hx : a.eval x = .int k m) (hy : a.eval y = .int k n) (hr : decide (m < n) = r) : (execOp a.eval o).run P w = .ok (.value (.bool r)) w := by
  subst hr; unfold execOp; simp only [ho, hx, hy]; go_simp
theorem run_leqI (x y : Operand) (ho : o.op = .binOp .leq t x y u) (hx : a.eval x = .int k m) (hy : a.eval y = .int k n) (hr : decide (m ≤ n) = r) : (execOp a.eval o).run P w = .ok (.value (.bool r)) w := by
  subst hr; unfold execOp; simp only [ho, hx, hy]; go_simp
theorem run_gtrI (x y : Operand) (ho : o.op = .binOp .gtr t x y u) (hx : a.eval x = .int k m) (hy : a.eval y = .int k n) (hr : decide (n < m) = r) : (execOp a.eval o).run P w = .ok (.value (.bool r)) w := by
  subst hr; unfold execOp; simp only [ho, hx, hy]; go_simp
theorem run_geqI (x y : Operand) (ho : o.op = .binOp .geq t x y u) (hx : a.eval x = .int k m) (hy : a.eval y = .int k n) (hr : decide (n ≤ m) = r) : (execOp a.eval o).run P w = .ok (.value (.bool r)) w := by
  subst hr; unfold execOp; simp only [ho, hx, hy]; go_simp
theorem run_eqlI (x y : Operand) (ho : o.op = .binOp .eql t x y u) (hx : a.eval x = .int k m) (hy : a.eval y = .int k n) (hr : decide (m = n) = r) : (execOp a.eval o).run P w = .ok (.value (.bool r)) w := by
  have hr2 : (m == n) = r := by rw [← hr]; rfl
  subst hr2; unfold execOp; simp only [ho, hx, hy]; go_simp
theorem run_neqI (x y : Operand) (ho : o.op = .binOp .neq t x y u) (hx : a.eval x = .int k m) (hy : a.eval y = .int k n) (hr : decide (m = n) = !r) : (execOp a.eval o).run P w = .ok (.value (.bool r)) w := by
  have hr2 : (m != n) = r := by
    show (!(m == n)) = r
    rw [show (m == n) = decide (m = n) from rfl, hr]; simp
  subst hr2; unfold execOp; simp only [ho, hx, hy]; go_simp
theorem run_notB (x : Operand) (b : Bool) (ho : o.op = .unOp .not t x) (hx : a.eval x = .bool b) (hr : (!b) = r) : (execOp a.eval o).run P w = .ok (.value (.bool r)) w := by
  subst hr; unfold execOp; simp only [ho, hx]; go_simp
theorem run_eqlB (x y : Operand) (b c : Bool) (ho : o.op = .binOp .eql t x y u) (hx : a.eval x = .bool b) (hy : a.eval y = .bool c) (he : ∀ w, (Op.equal t (.bool b) (.bool c)).run P w = .ok r w) : (execOp a.eval o).run P w = .ok (.value (.bool r)) w := by
  unfold execOp; simp only [ho, hx, hy]; go_simp; simp [binOp, he]
theorem run_neqB (x y : Operand) (b c : Bool) (ho : o.op = .binOp .neq t x y u) (hx : a.eval x = .bool b) (hy : a.eval y = .bool c) (he : ∀ w, (Op.equal t (.bool b) (.bool c)).run P w = .ok (!r) w) : (execOp a.eval o).run P w = .ok (.value (.bool r)) w := by
  unfold execOp; simp only [ho, hx, hy]; go_simp; simp [binOp, he]
theorem run_eqlS' {xs ys : Array Value} (x y : Operand) (ho : o.op = .binOp .eql t x y u) (hE : ∀ w, (Op.equalIn 10000 t (.agg xs) (.agg ys)).run P w = .ok r w) (hx : a.eval x = .agg xs) (hy : a.eval y = .agg ys) (hm : P.eqGuardType P.depth t = false) : (execOp a.eval o).run P w = .ok (.value (.bool r)) w := by
  unfold execOp; simp only [ho, hx, hy]; go_simp
theorem run_neqS {xs ys : Array Value} (x y : Operand) (ho : o.op = .binOp .neq t x y u) (hE : ∀ w, (Op.equalIn 10000 t (.agg xs) (.agg ys)).run P w = .ok (!r) w) (hx : a.eval x = .agg xs) (hy : a.eval y = .agg ys) (hm : P.eqGuardType P.depth t = false) : (execOp a.eval o).run P w = .ok (.value (.bool r)) w := by
  unfold execOp; simp only [ho, hx, hy]; go_simp
end
theorem st_build2P {P : Program} {o : Oper} {a : Act} {w : World} {K : Act → World → Prop} {Q : Exit → Act → World → Prop} (t : TypeId) (x y : Operand) (ho : o.op = .buildSlice t 2 #[(0, x), (1, y)]) (e : TypeId) (i : TypeInfo) (z u v : Value) (ht : P.underlying t = some (.slice e)) (hi : P.info? e = some i) (hz : i.zero = some z) (hsz : i.size = 1) (hzc : z.cells = #[z]) (hx : a.eval x = u) (hy : a.eval y = v) (hu : u.cells = #[u]) (hv : v.cells = #[v])
    (hk : K (a.put o.dst (.slice (some ⟨w.heap.size, 0, none⟩) 2 2)) (w.alloc (.cells #[u, v] e))) : o.wp P a w K Q := by
  have hr : (Array.range 2) = #[0, 1] := rfl
  have hzz : ∀ w, (zeroValue e).run P w = .ok z w := fun w => by simp [zeroValue, typeInfo, hi, hz]
  have hss : ∀ w, (sizeOf e).run P w = .ok 1 w := fun w => by simp [sizeOf, typeInfo, hi, hsz]
  have hrun : (Instr.buildSlice t 2 #[(0, u), (1, v)]).run P w = .ok (.slice (some ⟨w.heap.size, 0, none⟩) 2 2) (w.alloc (.cells #[u, v] e)) := by
    simp [Instr.buildSlice, run_underlying ht, hss, hzz, hr, hzc, Instr.fill, hu, hv, newRow]
  unfold Oper.wp execOp
  simp only [ho, List.map_toArray, List.map_cons, List.map_nil, hx, hy, hrun, Sem.run_bind, Result.andThen_ok, Sem.run_pure]
  exact hk
theorem wl_build2P {P : Program} {ops : Array Oper} {rest : List Oper} {o : Oper} {a : Act} {w : World} {Q : Exit → Act → World → Prop} (hgd : o.guard = none) (t : TypeId) (x y : Operand) (ho : o.op = .buildSlice t 2 #[(0, x), (1, y)]) (e : TypeId) (i : TypeInfo) (z u v : Value) (ht : P.underlying t = some (.slice e)) (hi : P.info? e = some i) (hz : i.zero = some z) (hsz : i.size = 1) (hzc : z.cells = #[z]) (hx : a.eval x = u) (hy : a.eval y = v) (hu : u.cells = #[u]) (hv : v.cells = #[v])
    (hk : ∀ g w', Row w' e g [u, v] → w.heap.size ≤ g → g < w'.heap.size → Below w.heap.size w w' → wpList P ops Q rest (a.put o.dst (.slice (some ⟨g, 0, none⟩) 2 2)) w') : wpList P ops Q (o :: rest) a w :=
  wpList_plain hgd fun K hK => st_build2P t x y ho e i z u v ht hi hz hsz hzc hx hy hu hv (hK _ _ (hk _ _ (by unfold Row; exact heap_alloc_new _ _) (Nat.le_refl _) (by simp) ((Below.refl _ _).alloc (Nat.le_refl _) _)))
/-- An element of a slice. -/
theorem run_indexSl {P : Program} {w : World} {a : Act} {o : Oper} (t : TypeId) (x y : Operand) (e : TypeId) (b off len cap i : Nat)
    (ho : o.op = .indexAddr t x y) (hu : P.underlying t = some (.slice e)) (hs : ∀ w, (sizeOf e).run P w = .ok 1 w) (hx : a.eval x = .slice (some ⟨b, off, none⟩) len cap) (hy : a.eval y = .int .i64 i) (hi : i < len) :
    (execOp a.eval o).run P w = .ok (.value (.pointer (some ⟨b, off + i, none⟩))) w := by
  unfold execOp
  simp only [ho, hx, hy]
  go_simp
theorem run_indexSl0 {P : Program} {w : World} {a : Act} {o : Oper} (t : TypeId) (x y : Operand) (e : TypeId) (b len cap i : Nat)
    (ho : o.op = .indexAddr t x y) (hu : P.underlying t = some (.slice e)) (hs : ∀ w, (sizeOf e).run P w = .ok 1 w) (hx : a.eval x = .slice (some ⟨b, 0, none⟩) len cap) (hy : a.eval y = .int .i64 i) (hi : i < len) :
    (execOp a.eval o).run P w = .ok (.value (.pointer (some ⟨b, i, none⟩))) w := by
  have := run_indexSl t x y e b 0 len cap i ho hu hs hx hy hi (w := w)
  rwa [Nat.zero_add] at this
end Go.Proofs.YtpbkejmffddelaaGreat

/-
  'append(s, xs..)' onto a row of the call's own, whatever the elements are; where the row lies behind it. Plain theorems over whatever program. Own work.
-/
namespace Go.Proofs.YtpbkejmffddelaaGreat
open Go.RowKit
section
variable {P : Program} {o : Oper} {a : Act} {w : World} {K : Act → World → Prop} {Q : Exit → Act → World → Prop} {ops : Array Oper} {rest : List Oper}
theorem st_append_at (s x : Operand) (t : TypeId) (ho : o.op = .call { callee := .builtin .append, args := #[s, x], argTypes := #[t, t] })
    (base : Nat) (e : TypeId) (i : TypeInfo) (z : Value) (size bytes : Nat) (ht : P.underlying t = some (.slice e)) (hi : P.info? e = some i) (hz : i.zero = some z) (hsize : i.size = size) (hby : i.bytes = bytes) (hzs : z.cells.size = size) (hsz : 0 < size)
    (v : Value) (n : Nat) (xs : List Value) (hs : a.eval s = v) (hown : w.ownsRow base e size v n xs) (ad : Addr) (m c : Nat) (news : List Value) (hx : a.eval x = .slice (some ad) m c) (hl : news.length = m * size) (hnews : ∀ j u, news[j]? = some u → w.cell? (ad.add j) = some u) (h1 : ∀ u ∈ news, u.oneCell' = true)
    (h63 : n + m ≤ maxLen) (hbytes : (n + m) * bytes ≤ 140737488355328) (hbase : base ≤ w.heap.size)
    (hk : ∀ v' w', w'.ownsRow base e size v' (n + m) (xs ++ news) → w.grownBy w' v.ownBlock → (v'.ownBlock = v.ownBlock ∨ v'.ownBlock = some w.heap.size) → K (a.put o.dst v') w') : o.wp P a w K Q := by
  obtain ⟨v', w', hrun, h2, h3, _, h5⟩ := run_append_own_at (P := P) w base t o.type e i z size bytes ht hi hz hsize hby hzs hsz v n xs hown ad m c news hl hnews h1 h63 hbytes hbase
  unfold Oper.wp execOp
  simp only [ho, resolve, invoke, builtin, Sem.run_bind, Sem.run_pure, Result.andThen_ok, List.map_toArray, List.map_cons, List.map_nil, hs, hx, hrun]
  exact hk v' w' h2 h3 h5
theorem wl_append_at (hgd : o.guard = none) (s x : Operand) (t : TypeId) (ho : o.op = .call { callee := .builtin .append, args := #[s, x], argTypes := #[t, t] })
    (base : Nat) (e : TypeId) (i : TypeInfo) (z : Value) (size bytes : Nat) (ht : P.underlying t = some (.slice e)) (hi : P.info? e = some i) (hz : i.zero = some z) (hsize : i.size = size) (hby : i.bytes = bytes) (hzs : z.cells.size = size) (hsz : 0 < size)
    (v : Value) (n : Nat) (xs : List Value) (hs : a.eval s = v) (hown : w.ownsRow base e size v n xs) (ad : Addr) (m c : Nat) (news : List Value) (hx : a.eval x = .slice (some ad) m c) (hl : news.length = m * size) (hnews : ∀ j u, news[j]? = some u → w.cell? (ad.add j) = some u) (h1 : ∀ u ∈ news, u.oneCell' = true)
    (h63 : n + m ≤ maxLen) (hbytes : (n + m) * bytes ≤ 140737488355328) (hbase : base ≤ w.heap.size)
    (hk : ∀ v' w', w'.ownsRow base e size v' (n + m) (xs ++ news) → w.grownBy w' v.ownBlock → (v'.ownBlock = v.ownBlock ∨ v'.ownBlock = some w.heap.size) → wpList P ops Q rest (a.put o.dst v') w') : wpList P ops Q (o :: rest) a w :=
  wpList_plain hgd fun K hK => st_append_at s x t ho base e i z size bytes ht hi hz hsize hby hzs hsz v n xs hs hown ad m c news hx hl hnews h1 h63 hbytes hbase fun v' w' h1 h2 h3 => hK _ _ (hk v' w' h1 h2 h3)
end
/-- A row's cells, as they are asked for. -/
theorem row_src {w : World} {t g : Nat} {vs : List Value} (h : Row w t g vs) : ∀ j u, vs[j]? = some u → w.cell? ((⟨g, 0, none⟩ : Addr).add j) = some u := by
  intro j u hu
  rw [addr_plain, Nat.zero_add]
  exact h.cell hu
end Go.Proofs.YtpbkejmffddelaaGreat

/-
  A list literal of one struct or array of many cells. Plain theorems over whatever program. Own work.
-/
namespace Go.Proofs.YtpbkejmffddelaaGreat
open Go.RowKit
theorem setAllB : ∀ (L : List Value) (k : Nat) (C : Array Value), ((L.zipIdx k).foldl (fun cs x => cs.setIfInBounds x.2 x.1) C).size = C.size ∧ ∀ j, ((L.zipIdx k).foldl (fun cs x => cs.setIfInBounds x.2 x.1) C)[j]? = if k ≤ j ∧ j < k + L.length ∧ j < C.size then L[j - k]? else C[j]? := by
  intro L
  induction L with
  | nil => intro k C; exact ⟨rfl, fun j => by rw [if_neg (by simp; omega)]; rfl⟩
  | cons v r ih =>
    intro k C
    obtain ⟨h1, h2⟩ := ih (k + 1) (C.setIfInBounds k v)
    simp only [List.zipIdx_cons, List.foldl_cons]
    refine ⟨by rw [h1, Array.size_setIfInBounds], fun j => ?_⟩
    rw [h2, Array.size_setIfInBounds, Array.getElem?_setIfInBounds]
    by_cases hc : k + 1 ≤ j ∧ j < k + 1 + r.length ∧ j < C.size
    · rw [if_pos hc, if_pos ⟨by omega, by rw [List.length_cons]; omega, hc.2.2⟩]
      obtain ⟨d, hd⟩ : ∃ d, j - k = d + 1 := ⟨j - k - 1, by omega⟩
      rw [hd, List.getElem?_cons_succ, show j - (k + 1) = d by omega]
    · rw [if_neg hc]
      by_cases hj : k = j
      · subst hj
        rw [if_pos rfl]
        by_cases hs : k < C.size
        · rw [if_pos hs, if_pos ⟨Nat.le_refl _, by rw [List.length_cons]; omega, hs⟩, Nat.sub_self]; rfl
        · rw [if_neg hs, if_neg (by omega)]; exact (Array.getElem?_eq_none (by omega)).symm
      · rw [if_neg hj, if_neg (by rw [List.length_cons]; omega)]
theorem fill_oneB (z M : Array Value) (hl : z.size = M.size) (h0 : 0 < M.size) : Instr.fill (fun i => some (i * M.size, M.size)) ((Array.range (1 * M.size)).map (z[· % z.size]!)) [(0, .agg M)] = some M := by
  have h : ((Array.range (1 * M.size)).map (z[· % z.size]!)).size = M.size := by simp
  generalize (Array.range (1 * M.size)).map (z[· % z.size]!) = C at *
  simp only [Instr.fill, Value.cells, Nat.zero_mul, Nat.zero_add]
  have key : M.zipIdx.foldl (fun cs x => cs.setIfInBounds x.2 x.1) C = M := by
    obtain ⟨h1, h2⟩ := setAllB M.toList 0 C
    have e : M.zipIdx.foldl (fun cs x => cs.setIfInBounds x.2 x.1) C = (M.toList.zipIdx 0).foldl (fun cs x => cs.setIfInBounds x.2 x.1) C := by rw [← Array.foldl_toList, Array.toList_zipIdx]
    rw [e]
    apply Array.ext_getElem?
    intro j
    rw [h2]
    by_cases hj : j < M.size
    · rw [if_pos ⟨Nat.zero_le _, by simpa using hj, by omega⟩]; simp
    · rw [if_neg (by omega), Array.getElem?_eq_none (by omega), Array.getElem?_eq_none (by omega)]
  simp [h]
  simpa using key
theorem st_build1B {P : Program} {o : Oper} {a : Act} {w : World} {K : Act → World → Prop} {Q : Exit → Act → World → Prop} (t : TypeId) (x : Operand) (ho : o.op = .buildSlice t 1 #[(0, x)]) (e : TypeId) (i : TypeInfo) (z : Value) (M : List Value) (n : Nat) (ht : P.underlying t = some (.slice e)) (hi : P.info? e = some i) (hz : i.zero = some z) (hzs : z.cells.size = n) (hsz : i.size = n) (hl : M.length = n) (h0 : 0 < n) (hn : n ≤ 1000) (hx : a.eval x = .agg M.toArray)
    (hk : ∀ g w', Row w' e g M → w.heap.size ≤ g → g < w'.heap.size → Below w.heap.size w w' → K (a.put o.dst (.slice (some ⟨g, 0, none⟩) 1 1)) w') : o.wp P a w K Q := by
  have hzz : ∀ w, (zeroValue e).run P w = .ok z w := fun w => by simp [zeroValue, typeInfo, hi, hz]
  have hss : ∀ w, (sizeOf e).run P w = .ok n w := fun w => by simp [sizeOf, typeInfo, hi, hsz]
  have hM : M.toArray.size = n := by simpa using hl
  have hf := fill_oneB z.cells M.toArray (by rw [hzs, hM]) (by omega)
  rw [hM] at hf
  have hrun : (Instr.buildSlice t 1 #[(0, .agg M.toArray)]).run P w = .ok (.slice (some ⟨w.heap.size, 0, none⟩) 1 1) (w.alloc (.cells M.toArray e)) := by
    have h1 : ¬ (2 ^ 24 < 1 * n) := by omega
    have h2 : ¬ (1 * n = 0) := by omega
    simp only [Instr.buildSlice, run_underlying ht, Sem.run_bind, Sem.run_pure, Result.andThen_ok, hss, gt_iff_lt, h1, if_false, h2, hzz, hf, newRow]
    simp
  unfold Oper.wp execOp
  simp only [ho, List.map_toArray, List.map_cons, List.map_nil, hx, hrun, Sem.run_bind, Result.andThen_ok, Sem.run_pure]
  exact hk _ _ (by unfold Row; exact heap_alloc_new _ _) (Nat.le_refl _) (by simp) ((Below.refl _ _).alloc (Nat.le_refl _) _)
end Go.Proofs.YtpbkejmffddelaaGreat

/-
  A list literal of any number of values of any size. Plain theorems over whatever program. Own work.
-/
namespace Go.Proofs.YtpbkejmffddelaaGreat
open Go.RowKit
def numb : Nat → List Value → List (Nat × Value)
  | _, [] => []
  | i, v :: r => (i, v) :: numb (i + 1) r
def cellsOk (k : Nat) : List Value → List (List Value) → Prop
  | [], [] => True
  | v :: r, V :: R => v.cells = V.toArray ∧ V.length = k ∧ cellsOk k r R
  | _, _ => False
theorem fill_all (k : Nat) : ∀ (vs : List Value) (Vs : List (List Value)) (i : Nat) (A Z : List Value), cellsOk k vs Vs → A.length = i * k → Z.length = vs.length * k →
    Instr.fill (fun i => some (i * k, k)) (A ++ Z).toArray (numb i vs) = some (A ++ Vs.flatten).toArray
  | [], [], i, A, Z, _, hA, hZ => by
    have : Z = [] := List.eq_nil_of_length_eq_zero (by simpa using hZ)
    subst this
    rfl
  | v :: r, V :: R, i, A, Z, hc, hA, hZ => by
    obtain ⟨h1, h2, h3⟩ := hc
    have hz : Z = Z.take k ++ Z.drop k := (List.take_append_drop k Z).symm
    have hk : (Z.take k).length = k := by
      rw [List.length_take, hZ, List.length_cons, Nat.add_mul]; omega
    rw [hz]
    unfold numb
    rw [fill_part (off := i * k) (n := k) rfl h1 h2 hA hk, ← List.append_assoc]
    have ih := fill_all k r R (i + 1) (A ++ V) (Z.drop k) h3 (by rw [List.length_append, hA, h2, Nat.add_mul]; omega) (by rw [List.length_drop, hZ, List.length_cons, Nat.add_mul]; omega)
    rw [ih, List.flatten_cons, List.append_assoc]
  | [], _ :: _, _, _, _, hc, _, _ => hc.elim
  | _ :: _, [], _, _, _, hc, _, _ => hc.elim
theorem st_buildN {P : Program} {o : Oper} {a : Act} {w : World} {K : Act → World → Prop} {Q : Exit → Act → World → Prop} (t n : Nat) (ps : List (Nat × Operand)) (ho : o.op = .buildSlice t n ps.toArray) (e : TypeId) (i : TypeInfo) (z : Value) (k : Nat) (vs : List Value) (Vs : List (List Value)) (ht : P.underlying t = some (.slice e)) (hi : P.info? e = some i) (hz : i.zero = some z) (hzs : z.cells.size = k) (hsz : i.size = k) (h0 : 0 < k) (hn : n * k ≤ 10000) (hn0 : 0 < n)
    (hv : ps.map (fun p => (p.1, a.eval p.2)) = numb 0 vs) (hl : vs.length = n) (hc : cellsOk k vs Vs)
    (hk : ∀ g w', Row w' e g Vs.flatten → w.heap.size ≤ g → g < w'.heap.size → Below w.heap.size w w' → K (a.put o.dst (.slice (some ⟨g, 0, none⟩) n n)) w') : o.wp P a w K Q := by
  have hzz : ∀ w, (zeroValue e).run P w = .ok z w := fun w => by simp [zeroValue, typeInfo, hi, hz]
  have hss : ∀ w, (sizeOf e).run P w = .ok k w := fun w => by simp [sizeOf, typeInfo, hi, hsz]
  have hf : Instr.fill (fun i => some (i * k, k)) ((Array.range (n * k)).map (z.cells[· % z.cells.size]!)) (numb 0 vs) = some Vs.flatten.toArray := by
    have h2 := fill_all k vs Vs 0 [] ((Array.range (n * k)).map (z.cells[· % z.cells.size]!)).toList hc (by simp) (by simp [hl])
    simp only [List.nil_append, Array.toArray_toList] at h2
    exact h2
  have hnk : 0 < n * k := Nat.mul_pos hn0 h0
  have hrun : (Instr.buildSlice t n (ps.toArray.map fun p => (p.1, a.eval p.2))).run P w = .ok (.slice (some ⟨w.heap.size, 0, none⟩) n n) (w.alloc (.cells Vs.flatten.toArray e)) := by
    have h1 : ¬ (2 ^ 24 < n * k) := by omega
    have h2 : ¬ (n * k = 0) := by omega
    have h3 : (ps.toArray.map fun p => (p.1, a.eval p.2)).toList = numb 0 vs := by simpa using hv
    simp only [Instr.buildSlice, run_underlying ht, Sem.run_bind, Sem.run_pure, Result.andThen_ok, hss, gt_iff_lt, h1, if_false, h2, hzz, h3, hf, newRow]
    simp
  unfold Oper.wp execOp
  simp only [ho, hrun, Sem.run_bind, Result.andThen_ok, Sem.run_pure]
  exact hk _ _ (by unfold Row; exact heap_alloc_new _ _) (Nat.le_refl _) (by simp) ((Below.refl _ _).alloc (Nat.le_refl _) _)
theorem wl_buildN {P : Program} {ops : Array Oper} {rest : List Oper} {o : Oper} {a : Act} {w : World} {Q : Exit → Act → World → Prop} (hgd : o.guard = none) (t n : Nat) (ps : List (Nat × Operand)) (ho : o.op = .buildSlice t n ps.toArray) (e : TypeId) (i : TypeInfo) (z : Value) (k : Nat) (vs : List Value) (Vs : List (List Value)) (ht : P.underlying t = some (.slice e)) (hi : P.info? e = some i) (hz : i.zero = some z) (hzs : z.cells.size = k) (hsz : i.size = k) (h0 : 0 < k) (hn : n * k ≤ 10000) (hn0 : 0 < n)
    (hv : ps.map (fun p => (p.1, a.eval p.2)) = numb 0 vs) (hl : vs.length = n) (hc : cellsOk k vs Vs)
    (hk : ∀ g w', Row w' e g Vs.flatten → w.heap.size ≤ g → g < w'.heap.size → Below w.heap.size w w' → wpList P ops Q rest (a.put o.dst (.slice (some ⟨g, 0, none⟩) n n)) w') : wpList P ops Q (o :: rest) a w :=
  wpList_plain hgd fun K hK => st_buildN t n ps ho e i z k vs Vs ht hi hz hzs hsz h0 hn hn0 hv hl hc fun g w' h1 h2 h3 h4 => hK _ _ (hk g w' h1 h2 h3 h4)
end Go.Proofs.YtpbkejmffddelaaGreat

/-
  Plain operations as steps of a walk; strings by their lists of bytes. Own work.
-/
namespace Go.Proofs.YtpbkejmffddelaaGreat
open Go.RowKit
theorem wl_run {P : Program} {ops : Array Oper} {rest : List Oper} {o : Oper} {a : Act} {w : World} {Q : Exit → Act → World → Prop} (hgd : o.guard = none) (v : Value) (hr : (execOp a.eval o).run P w = .ok (.value v) w) (hk : wpList P ops Q rest (a.put o.dst v) w) : wpList P ops Q (o :: rest) a w :=
  wpList_plain hgd fun K hK => by
    unfold Oper.wp
    rw [hr]
    exact hK _ _ hk
theorem wg_run {P : Program} {ops : Array Oper} {rest : List Oper} {o : Oper} {a : Act} {w : World} {Q : Exit → Act → World → Prop} (g' : Nat) (b : Bool) (d' : Nat) (hg : o.guard = some (g', b)) (hd' : (ops[g']?).bind (·.dst) = some d') (hv : a.tmps[d']? = some (.bool b)) (v : Value) (hr : (execOp a.eval o).run P w = .ok (.value v) w) (hk : wpList P ops Q rest (a.put o.dst v) w) : wpList P ops Q (o :: rest) a w :=
  wpList_guarded g' b d' hg hd' hv fun K hK => by
    unfold Oper.wp
    rw [hr]
    exact hK _ _ hk
theorem str_len (l : List UInt8) : (⟨l.toArray⟩ : ByteArray).size = l.length := by show l.toArray.size = _; simp
theorem str_list (l : List UInt8) : (⟨l.toArray⟩ : ByteArray).toList = l := by rw [Lib.toList_data]
theorem str_inj {a b : List UInt8} (h : (⟨a.toArray⟩ : ByteArray) = ⟨b.toArray⟩) : a = b := by
  have := congrArg ByteArray.toList h
  rwa [str_list, str_list] at this
theorem str_extract (l : List UInt8) (i j : Nat) : (⟨l.toArray⟩ : ByteArray).extract i j = ⟨((l.take j).drop i).toArray⟩ := by
  apply ByteArray.ext
  rw [ByteArray.data_extract]
  simp [List.extract_eq_take_drop, List.drop_take]
theorem run_idxStr {P : Program} {w : World} {a : Act} {o : Oper} (t : TypeId) (x y : Operand) (l : List UInt8) (i : Nat) (c : UInt8)
    (ho : o.op = .index t x y) (hu : P.underlying t = some .string) (hx : a.eval x = encStr l) (hy : a.eval y = .int .i64 i) (hc : l[i]? = some c) :
    (execOp a.eval o).run P w = .ok (.value (.int .u8 c.toNat)) w := by
  have hi : i < l.length := by
    rcases Nat.lt_or_ge i l.length with h1 | h1
    · exact h1
    · rw [List.getElem?_eq_none h1] at hc; cases hc
  have hg : l[i] = c := by rw [List.getElem?_eq_getElem hi] at hc; exact Option.some.inj hc
  have hs := str_len l
  unfold execOp
  simp only [ho, hx, hy, encStr]
  go_simp
  rw [← hg]
  rfl
theorem run_sliceStr {P : Program} {w : World} {a : Act} {o : Oper} (t : TypeId) (x y z : Operand) (l : List UInt8) (i j : Nat)
    (ho : o.op = .slice t x (some y) (some z) none) (hu : P.underlying t = some .string) (hx : a.eval x = encStr l) (hy : a.eval y = .int .i64 i) (hz : a.eval z = .int .i64 j) (hij : i ≤ j) (hj : j ≤ l.length) :
    (execOp a.eval o).run P w = .ok (.value (encStr ((l.take j).drop i))) w := by
  have hs := str_len l
  unfold execOp
  simp only [ho, Option.map_some, Option.map_none, hx, hy, hz, encStr]
  go_simp
  rw [str_extract]
theorem run_sliceStrL {P : Program} {w : World} {a : Act} {o : Oper} (t : TypeId) (x y : Operand) (l : List UInt8) (i : Nat)
    (ho : o.op = .slice t x (some y) none none) (hu : P.underlying t = some .string) (hx : a.eval x = encStr l) (hy : a.eval y = .int .i64 i) (hj : i ≤ l.length) :
    (execOp a.eval o).run P w = .ok (.value (encStr (l.drop i))) w := by
  have hs := str_len l
  unfold execOp
  simp only [ho, Option.map_some, Option.map_none, hx, hy, encStr]
  go_simp
  rw [str_extract, List.take_length]
theorem run_sliceStrR {P : Program} {w : World} {a : Act} {o : Oper} (t : TypeId) (x z : Operand) (l : List UInt8) (j : Nat)
    (ho : o.op = .slice t x none (some z) none) (hu : P.underlying t = some .string) (hx : a.eval x = encStr l) (hz : a.eval z = .int .i64 j) (hj : j ≤ l.length) :
    (execOp a.eval o).run P w = .ok (.value (encStr (l.take j))) w := by
  have hs := str_len l
  unfold execOp
  simp only [ho, Option.map_some, Option.map_none, hx, hz, encStr]
  go_simp
  rw [str_extract]
  rfl
theorem run_eqStr {P : Program} {w : World} {a : Act} {o : Oper} {t s : Nat} {l m : List UInt8} {b : Bool} (x y : Operand) (ho : o.op = .binOp .eql t x y s) (hx : a.eval x = encStr l) (hy : a.eval y = encStr m) (hb : decide (l = m) = b) :
    (execOp a.eval o).run P w = .ok (.value (.bool b)) w := by
  subst hb
  unfold execOp
  simp only [ho, hx, hy, encStr]
  go_simp
  rw [Bool.eq_iff_iff]; simp
theorem run_neStr {P : Program} {w : World} {a : Act} {o : Oper} {t s : Nat} {l m : List UInt8} {b : Bool} (x y : Operand) (ho : o.op = .binOp .neq t x y s) (hx : a.eval x = encStr l) (hy : a.eval y = encStr m) (hb : (!decide (l = m)) = b) :
    (execOp a.eval o).run P w = .ok (.value (.bool b)) w := by
  subst hb
  unfold execOp
  simp only [ho, hx, hy, encStr]
  go_simp
  rw [Bool.eq_iff_iff]; simp
theorem run_addStr {P : Program} {w : World} {a : Act} {o : Oper} {t s : Nat} {l m : List UInt8} (x y : Operand) (ho : o.op = .binOp .add t x y s) (hx : a.eval x = encStr l) (hy : a.eval y = encStr m) (h1 : l.length + m.length ≤ 9223372036854775807) :
    (execOp a.eval o).run P w = .ok (.value (encStr (l ++ m))) w := by
  unfold execOp
  simp only [ho, hx, hy, encStr]
  go_simp
  rw [if_neg (by omega), ByteArray.mk_append_mk]
theorem run_addZ {P : Program} {w : World} {a : Act} {o : Oper} {t s : Nat} {u v z : Int} (x y : Operand) (ho : o.op = .binOp .add t x y s) (hx : a.eval x = .int .i64 u) (hy : a.eval y = .int .i64 v) (hz : IntKind.i64.wrap (u + v) = z) : (execOp a.eval o).run P w = .ok (.value (.int .i64 z)) w := by
  subst hz
  unfold execOp
  simp only [ho, hx, hy]
  go_simp
  try rfl
theorem run_subZ {P : Program} {w : World} {a : Act} {o : Oper} {t s : Nat} {u v z : Int} (x y : Operand) (ho : o.op = .binOp .sub t x y s) (hx : a.eval x = .int .i64 u) (hy : a.eval y = .int .i64 v) (hz : IntKind.i64.wrap (u - v) = z) : (execOp a.eval o).run P w = .ok (.value (.int .i64 z)) w := by
  subst hz
  unfold execOp
  simp only [ho, hx, hy]
  go_simp
  try rfl
theorem wrap_id {x z : Int} (h : x = z) (h0 : -9223372036854775808 ≤ z) (h1 : z ≤ 9223372036854775807) : IntKind.i64.wrap x = z := by
  subst h
  simp [IntKind.wrap, IntKind.bits, IntKind.signed]
  omega
theorem results_rt2 {P : Program} {fn : Func} {p u : Tmp} {ty : TypeId} (h : fn.results = #[.cell p ty, .tmp u]) (tmps : Array Value) (w : World) (g : Nat) (t : TypeId) (cs : List Value) (d : TypeDesc) (v : Value)
    (hp : tmps.getD p undef = .pointer (some ⟨g, 0, none⟩)) (hg : Row w t g cs)
    (hu : P.underlying ty = some d) (hd : (match d with | .struct _ | .array _ _ => true | _ => false) = true) (hi : (P.info? ty).map (·.size) = some cs.length) (hv : tmps.getD u undef = v) :
    (results fn tmps).run P w = .ok (.tuple #[.agg cs.toArray, v]) w := by
  rw [results_cell_tmp h, hp, hv]
  simp [asAddr, run_loadVar_row w g t ty cs.toArray (0, 0) d hg hu hd (by simpa using hi)]
theorem results_rt3 {P : Program} {fn : Func} {p u u' : Tmp} {ty : TypeId} (h : fn.results = #[.cell p ty, .tmp u, .tmp u']) (tmps : Array Value) (w : World) (g : Nat) (t : TypeId) (cs : List Value) (d : TypeDesc) (v v' : Value)
    (hp : tmps.getD p undef = .pointer (some ⟨g, 0, none⟩)) (hg : Row w t g cs)
    (hu : P.underlying ty = some d) (hd : (match d with | .struct _ | .array _ _ => true | _ => false) = true) (hi : (P.info? ty).map (·.size) = some cs.length) (hv : tmps.getD u undef = v) (hv' : tmps.getD u' undef = v') :
    (results fn tmps).run P w = .ok (.tuple #[.agg cs.toArray, v, v']) w := by
  have e : (results fn tmps).run P w = ((asAddr (tmps.getD p undef)).run P w).andThen fun a w₁ => ((loadVar ty a).run P w₁).andThen fun v w₂ => .ok (.tuple #[v, tmps.getD u undef, tmps.getD u' undef]) w₂ := by
    simp only [results, h]
    simp [Sem.run_bind, Result.andThen]
  rw [e, hp, hv, hv']
  simp [asAddr, run_loadVar_row w g t ty cs.toArray (0, 0) d hg hu hd (by simpa using hi)]
theorem run_idxSl0 {P : Program} {w : World} {a : Act} {o : Oper} (t : TypeId) (x y : Operand) (e : TypeId) (z : Nat) (b len cap i : Nat)
    (ho : o.op = .indexAddr t x y) (hu : P.underlying t = some (.slice e)) (hs : ∀ w, (sizeOf e).run P w = .ok z w) (hx : a.eval x = .slice (some ⟨b, 0, none⟩) len cap) (hy : a.eval y = .int .i64 i) (hi : i < len) :
    (execOp a.eval o).run P w = .ok (.value (.pointer (some ⟨b, i * z, none⟩))) w := by
  unfold execOp
  simp only [ho, hx, hy]
  go_simp
theorem run_lenSl {P : Program} {w : World} {a : Act} {o : Oper} (t : TypeId) (x : Operand) (A : Option Addr) (n c : Nat) (ho : o.op = .call { callee := .builtin .len, args := #[x], argTypes := #[t] }) (hu : ∃ e, P.underlying t = some (.slice e)) (hx : a.eval x = .slice A n c) : (execOp a.eval o).run P w = .ok (.value (.int .i64 n)) w := by
  obtain ⟨e, hu⟩ := hu
  unfold execOp
  simp only [ho, resolve, invoke, List.map_toArray, List.map_cons, List.map_nil, hx]
  go_simp
theorem run_lenStr {P : Program} {w : World} {a : Act} {o : Oper} (t : TypeId) (x : Operand) (l : List UInt8) (ho : o.op = .call { callee := .builtin .len, args := #[x], argTypes := #[t] }) (hu : P.underlying t = some .string) (hx : a.eval x = encStr l) : (execOp a.eval o).run P w = .ok (.value (.int .i64 l.length)) w := by
  have hs := str_len l
  unfold execOp
  simp only [ho, resolve, invoke, List.map_toArray, List.map_cons, List.map_nil, hx, encStr]
  go_simp
theorem run_loadC {P : Program} {w : World} {a : Act} {o : Oper} (ty : TypeId) (x : Operand) (g off : Nat) (M : List Value) (d : TypeDesc) (ho : o.op = .load ty x) (hx : a.eval x = .pointer (some ⟨g, off, none⟩)) (h : ∀ j v, M[j]? = some v → w.cell? ⟨g, off + j, none⟩ = some v)
    (hu : P.underlying ty = some d) (hd : (match d with | .struct _ | .array _ _ => true | _ => false) = true) (hi : (P.info? ty).map (·.size) = some M.length) : (execOp a.eval o).run P w = .ok (.value (.agg M.toArray)) w := by
  unfold execOp
  simp only [ho, hx, Instr.loadAt, Instr.sureAddr, Sem.run_bind, Sem.run_pure, Result.andThen_ok, run_loadVar_cells ty g off M d h hu hd hi]
theorem run_load1 {P : Program} {w : World} {a : Act} {o : Oper} (ty : TypeId) (x : Operand) (g off : Nat) (v : Value) (ho : o.op = .load ty x) (hagg : ∀ w, (isAgg ty).run P w = .ok false w) (hx : a.eval x = .pointer (some ⟨g, off, none⟩)) (h : w.cell? ⟨g, off, none⟩ = some v) : (execOp a.eval o).run P w = .ok (.value v) w := by
  unfold execOp
  simp only [ho, hx]
  go_simp
theorem run_toStr {P : Program} {w : World} {a : Act} {o : Oper} (src dst e : TypeId) (x : Operand) {B n c : Nat} {A : Option Addr} {xs : List Int} (ho : o.op = .convert src dst x) (hx : a.eval x = .slice A n c) (h : Bs w B A n xs) (hs : P.underlying src = some (.slice e)) (he : P.underlying e = some (.int .u8)) (hd : P.underlying dst = some .string) :
    (execOp a.eval o).run P w = .ok (.value (.string (strOfNums xs))) w := by
  unfold execOp
  simp only [ho, hx, Sem.run_bind, Bs.convert h c src e dst hs he hd, Result.andThen_ok, Sem.run_pure]
theorem u8_one (n : Int) (h0 : 0 ≤ n) (h1 : n < 256) : strOfNums [n] = ⟨#[UInt8.ofNat n.toNat]⟩ := rfl
theorem run_quoZ {P : Program} {w : World} {a : Act} {o : Oper} {t s : Nat} {u v z : Int} (x y : Operand) (ho : o.op = .binOp .quo t x y s) (hx : a.eval x = .int .i64 u) (hy : a.eval y = .int .i64 v) (hv : v ≠ 0) (hz : IntKind.i64.wrap (u.tdiv v) = z) : (execOp a.eval o).run P w = .ok (.value (.int .i64 z)) w := by
  subst hz
  unfold execOp
  simp only [ho, hx, hy]
  go_simp
theorem run_mulZ {P : Program} {w : World} {a : Act} {o : Oper} {t s : Nat} {u v z : Int} (x y : Operand) (ho : o.op = .binOp .mul t x y s) (hx : a.eval x = .int .i64 u) (hy : a.eval y = .int .i64 v) (hz : IntKind.i64.wrap (u * v) = z) : (execOp a.eval o).run P w = .ok (.value (.int .i64 z)) w := by
  subst hz
  unfold execOp
  simp only [ho, hx, hy]
  go_simp
  try rfl
theorem run_negZ {P : Program} {w : World} {a : Act} {o : Oper} {t : Nat} {u z : Int} (x : Operand) (ho : o.op = .unOp .neg t x) (hx : a.eval x = .int .i64 u) (hz : IntKind.i64.wrap (-u) = z) : (execOp a.eval o).run P w = .ok (.value (.int .i64 z)) w := by
  subst hz
  unfold execOp
  simp only [ho, hx]
  go_simp
  try rfl
end Go.Proofs.YtpbkejmffddelaaGreat

/-
  A region whose order is open that builds a list literal and appends it to a row of one's own: what its few do. Own work.
-/
namespace Go.Proofs.YtpbkejmffddelaaGreat
open Go.RowKit
theorem Row.grownS {w w' : World} {t g T e size n : Nat} {vs : List Value} {v : Value} {xs : List Value} (h : Row w t g vs) (ho : w.ownsRow T e size v n xs) (ht : t ≠ e) (hg : w.grownBy w' v.ownBlock) : Row w' t g vs := by
  refine (hg.block g h.lt (fun hk => ?_)).trans h
  rcases ho.2 with ⟨rfl, _⟩ | ⟨g', cap', cur', rfl, _, hc', _⟩
  · simp [Value.ownBlock] at hk
  · simp [Value.ownBlock] at hk
    subst hk
    have := (show w.heap[g]? = _ from h).symm.trans hc'
    simp at this
    exact ht this.2
section
variable {P : Program}
/-- 'append(l, src...)': the row is one's own, the source lies wherever, or is nil. -/
theorem wl_append_src {w : World} {ops : Array Oper} {rest : List Oper} {o : Oper} {a : Act} {Q : Exit → Act → World → Prop} (hgd : o.guard = none) (s x : Operand) (t : TypeId) (ho : o.op = .call { callee := .builtin .append, args := #[s, x], argTypes := #[t, t] })
    (base : Nat) (e : TypeId) (i : TypeInfo) (z : Value) (size bytes : Nat) (ht : P.underlying t = some (.slice e)) (hi : P.info? e = some i) (hz : i.zero = some z) (hsz : i.size = size) (hby : i.bytes = bytes) (hzc : z.cells.size = size) (h0 : 0 < size)
    (v : Value) (n : Nat) (xs : List Value) (hs : a.eval s = v) (hown : w.ownsRow base e size v n xs) (A : Option Addr) (m c : Nat) (ys : List Value) (hx : a.eval x = .slice A m c) (hyl : ys.length = m * size) (hA : A = none → m = 0) (hsrc : ∀ ad, A = some ad → ∀ j u, ys[j]? = some u → w.cell? (ad.add j) = some u) (h1 : ∀ u ∈ ys, u.oneCell' = true) (h63 : n + m ≤ maxLen) (hbytes : (n + m) * bytes ≤ 140737488355328) (hbase : base ≤ w.heap.size)
    (hk : ∀ v' w', w'.ownsRow base e size v' (n + m) (xs ++ ys) → w.grownBy w' v.ownBlock → wpList P ops Q rest (a.put o.dst v') w') : wpList P ops Q (o :: rest) a w := by
  refine wpList_plain hgd fun K hK => ?_
  have key : ∃ v' w', (Builtin.append_ #[t, t] o.type #[v, .slice A m c]).run P w = .ok v' w' ∧ w'.ownsRow base e size v' (n + m) (xs ++ ys) ∧ w.grownBy w' v.ownBlock := by
    rcases A with _ | ad
    · obtain rfl := hA rfl
      obtain rfl : ys = [] := List.eq_nil_of_length_eq_zero (by omega)
      refine ⟨v, w, ?_, by simpa using hown, ⟨rfl, rfl, rfl, Nat.le_refl _, fun _ _ _ => rfl⟩⟩
      rcases hown.2 with ⟨rfl, rfl⟩ | ⟨g, cap, cur, rfl, _, _, hnc, _⟩
      · simp [Builtin.append_, run_underlying ht, sizeOf, typeInfo, hi, Builtin.lenOf, Builtin.firstCells]
      · simp [Builtin.append_, run_underlying ht, sizeOf, typeInfo, hi, Builtin.lenOf, Builtin.firstCells, hnc, storeCells]
    · obtain ⟨v', w', r1, r2, r3, _⟩ := run_append_own (P := P) w base t o.type e i z size bytes ht hi hz hsz hby hzc h0 v n xs hown ad m c ys hyl (hsrc ad rfl) h1 h63 hbytes hbase
      exact ⟨v', w', r1, r2, r3⟩
  obtain ⟨v', w', hrun, h2, h3⟩ := key
  unfold Oper.wp execOp
  simp only [ho, resolve, invoke, builtin, Sem.run_bind, Sem.run_pure, Result.andThen_ok, List.map_toArray, List.map_cons, List.map_nil, hs, hx, hrun]
  exact hK _ _ (hk v' w' h2 h3)
end
/-- A block as a row of one's own. -/
theorem Row.owns {w : World} {base T g n size : Nat} {vs : List Value} (h : Row w T g vs) (hb : base ≤ g) (hl : vs.length = n * size) (hn : n ≤ maxLen) : w.ownsRow base T size (.slice (some ⟨g, 0, none⟩) n n) n vs :=
  ⟨hl, .inr ⟨g, n, vs.toArray, rfl, hb, h, Nat.le_refl _, hn, by simpa using hl, by rw [← hl]; simp⟩⟩
theorem own_later {w w' : World} {B e size n : Nat} {v : Value} {xs : List Value} (h : w.ownsRow B e size v n xs) (hb : Below w.heap.size w w') : w'.ownsRow B e size v n xs := by
  refine ⟨h.1, ?_⟩
  rcases h.2 with h2 | ⟨g, cap, cur, hv, hg, hh, r⟩
  · exact .inl h2
  · exact .inr ⟨g, cap, cur, hv, hg, (hb.block g (Array.getElem?_eq_some_iff.1 hh).1).trans hh, r⟩
def JBA (w00 w0 : World) (base e size n m : Nat) (xs news : List Value) (ib ia is : Nat) (bs : List Bool) (vs : List Value) (w : World) : Prop :=
  (bs.getD ia false = false → Below w0.heap.size w0 w) ∧ (bs.getD ib false = true → bs.getD ia false = false → ∃ g, vs.getD ib undef = .slice (some ⟨g, 0, none⟩) m m ∧ Row w e g news) ∧
  (bs.getD ia false = true → w.ownsRow base e size (vs.getD ia undef) (n + m) (xs ++ news) ∧ Below base w00 w ∧ ∀ t g us, Row w0 t g us → t ≠ e → Row w t g us) ∧ (bs.getD is false = true → vs.getD is undef = vs.getD ia undef)
theorem JBA.start (w00 w : World) (base e size n m : Nat) (xs news : List Value) (vs : List Value) : JBA w00 w base e size n m xs news 0 1 2 [false, false, false] vs w.drew :=
  ⟨fun _ => (Below.refl _ _).drew, fun h => absurd h (by decide), fun h => absurd h (by decide), fun h => absurd h (by decide)⟩
end Go.Proofs.YtpbkejmffddelaaGreat

/-
  Bytes that are compared and copied: a contract each. Own work.
-/
namespace Go.Proofs.YtpbkejmffddelaaGreat
open Go.RowKit
theorem u8_info_ : (Tryz.prog.info? 5).map (fun i => (i.zero, i.size, i.bytes)) = some (some (.int .u8 0), 1, 1) := by kernel_rfl
theorem u8_info : ∃ i, Tryz.prog.info? 5 = some i ∧ i.zero = some (.int .u8 0) ∧ i.size = 1 ∧ i.bytes = 1 := by
  obtain ⟨i, h0, h1, h2, h3⟩ := info_parts u8_info_
  exact ⟨i, h0, h1, h2, h3⟩
theorem u8_size : (Tryz.prog.info? 5).map (·.size) = some 1 := by kernel_rfl
theorem equal_any (A B : Option Addr) (n m c d : Nat) (xs ys : List Int) (w : World) (h1 : Bs w w.heap.size A n xs) (h2 : Bs w w.heap.size B m ys) :
    Calls Tryz.prog 13 #[.slice A n c, .slice B m d] w fun e w' => e = .returned (.bool (Lib.bytesOf xs == Lib.bytesOf ys)) ∧ w = w' := by
  have e1 := h1.convert c 31 5 9 Tryz.underlying31 Tryz.underlying5 Tryz.underlying9
  have e2 := h2.convert d 31 5 9 Tryz.underlying31 Tryz.underlying5 Tryz.underlying9
  go_enter Tryz.func13, Tryz.ntmps13
  go_wp2
  go_ret
  refine ⟨?_, rfl⟩
  rw [← Lib.strOfNums_toList, ← Lib.strOfNums_toList]
  rfl
theorem clone_any (A : Option Addr) (n c : Nat) (xs : List Int) (w : World) (h : Bs w w.heap.size A n xs) (hn : n ≤ 140737488355328) :
    Calls Tryz.prog 107 #[.slice A n c] w (RetBs xs w) := by
  have q : ∀ (w : World) (a : Option Addr) (n c n' c' : Nat), (binOp .eql 31 (.slice a n c) (.slice none n' c')).run Tryz.prog w = .ok (.bool a.isNone) w := fun w a n c n' c' => Lib.run_eql_slice_nil w _ _ a n c n' c' Tryz.underlying31
  obtain ⟨i0, hi, hz, hsz, hby⟩ := u8_info
  rcases A with _ | ad
  · have h0 : n = 0 := by
      rcases Nat.eq_zero_or_pos n with h0 | h0
      · exact h0
      · obtain ⟨_, _, h, _⟩ := h.2 h0; cases h
    subst h0
    obtain rfl : xs = [] := List.eq_nil_of_length_eq_zero h.1
    go_enter Tryz.func107, Tryz.ntmps107
    go_wp2
    go_ret
    exact ⟨none, 0, 0, rfl, Bs.nil_, Nat.le_refl _, by simp, Below.refl _ _⟩
  · have hown := World.ownsRow_lit (base := w.heap.size) (e := 5) (size := 1) w #[] 0 (Nat.le_refl _) (by simp) rfl
    go_enter Tryz.func107, Tryz.ntmps107
    go_wp2_with (at_builtin; refine wpList_append_bs rfl (.tmp 5) (.tmp 6) _ rfl w.heap.size 5 i0 Tryz.underlying31 hi hz hsz hby (.slice (some ⟨w.heap.size, 0, none⟩) 0 0) 0 [] rfl hown w.heap.size (some ad) n c xs rfl (h.below ((Below.refl _ _).alloc (Nat.le_refl _) _)) (by omega) (by simp) ?_; intro v1 w1 hown1 hg1)
    go_ret
    exact ret_owns hown1 (grown_below ((Below.refl _ _).alloc (Nat.le_refl _) _) hown (Nat.le_refl _) hg1) (by simp)
end Go.Proofs.YtpbkejmffddelaaGreat

/-
  Pack for SHA-256: numbers laid, bytes joined: contracts. Own work.
-/
namespace Go.Proofs.YtpbkejmffddelaaGreat
open Go.RowKit
set_option maxRecDepth 100000 in
set_option maxHeartbeats 400000 in
theorem len64_32 (w : World) : Calls Tryz.prog 167 #[.int .u64 4294967295] w fun e w' => e = .returned (.int .i64 32) ∧ w = w' := by
  go_enter Tryz.func167, Tryz.ntmps167
  go_wp2
  go_ret
  exact ⟨by kernel_rfl, rfl⟩
set_option maxRecDepth 100000 in
set_option maxHeartbeats 400000 in
theorem len64_64 (w : World) : Calls Tryz.prog 167 #[.int .u64 18446744073709551615] w fun e w' => e = .returned (.int .i64 64) ∧ w = w' := by
  go_enter Tryz.func167, Tryz.ntmps167
  go_wp2
  go_ret
  exact ⟨by kernel_rfl, rfl⟩
set_option maxRecDepth 100000 in
theorem width32_any (w : World) : Calls Tryz.prog 153 #[] w fun e w' => e = .returned (.int .i64 4) ∧ w = w' := by
  go_enter Tryz.func153, Tryz.ntmps153
  go_wp2_with (go_at_call 167; refine (len64_32 _).mono ?_; rintro e w' ⟨rfl, rfl⟩)
  go_ret
  exact ⟨rfl, rfl⟩
set_option maxRecDepth 100000 in
theorem width64_any (w : World) : Calls Tryz.prog 154 #[] w fun e w' => e = .returned (.int .i64 8) ∧ w = w' := by
  go_enter Tryz.func154, Tryz.ntmps154
  go_wp2_with (go_at_call 167; refine (len64_64 _).mono ?_; rintro e w' ⟨rfl, rfl⟩)
  go_ret
  exact ⟨rfl, rfl⟩
set_option maxHeartbeats 400000 in
set_option maxRecDepth 100000 in
theorem high_any (x : Int) (n : Nat) (w : World) (h0 : 0 ≤ x) (h1 : x < 18446744073709551616) (hn : n ≤ 8) :
    Calls Tryz.prog 106 #[.int .u64 x, .int .i64 (n : Int)] w (RetBs (highB x n) w) := by
  obtain ⟨i0, hi, hz, hsz, hby⟩ := u8_info
  go_enter Tryz.func106, Tryz.ntmps106
  go_wp2_with (refine wpList_make_bs rfl _ _ _ rfl 5 i0 Tryz.underlying31 hi hz hsz hby n rfl rfl (by omega) ?_; intro w1 hown hs1 hb1)
  go_loopw [0, 6] (fun y i wr => ∃ k : Nat, k ≤ n ∧ i = .int .i64 k ∧ y = .int .u64 (x / 256 ^ k) ∧ Own wr 5 w.heap.size (List.replicate (n - k) 0 ++ highB x k) ∧ Below w.heap.size w wr) (fun _ i _ => n - (intOf i).toNat)
  case atStart => exact ⟨0, Nat.zero_le _, rfl, by simp, by simpa [highB, lowB] using hown, hb1⟩
  case round =>
    obtain ⟨k, hk, rfl, rfl, hown, hb⟩ := hrel
    have p0 := div_pow_nonneg h0 k
    have p1 : x / 256 ^ k < 18446744073709551616 := by have := div_pow_le h0 k; omega
    by_cases hlt : k < n
    · have hc := hown.cell (j := n - 1 - k) (by simp [highB_length]; omega)
      have hf := hown.frozen (n - 1 - k)
      have hs := hown.set (n - 1 - k) (x / 256 ^ k % 256)
      have he := set_high hlt (highB x k) (x / 256 ^ k % 256) []
      rw [List.nil_append, List.nil_append, List.length_nil, Nat.zero_add] at he
      rw [he, ← highB_cons] at hs
      have HS := hide hs
      clear hs he
      go_wp2
      go_roundw
      case rel => exact ⟨k + 1, by omega, by go_num, by rw [div_pow_succ], HS.out, hb.setCell (Nat.le_refl _) _⟩
      case measure => simp [intOf]; omega
    · go_wp2
      go_ret
      obtain rfl : k = n := by omega
      exact ret_own hown hb (by simp) (by simp [highB_length]) (Nat.le_refl _) (by simp only [maxLen]; omega)
set_option maxHeartbeats 400000 in
set_option maxRecDepth 100000 in
theorem lay32_high (A : Option Addr) (m c : Nat) (xs : List Int) (x : Int) (w : World) (h : Bs w w.heap.size A m xs) (hm : m ≤ 1000000) (h0 : 0 ≤ x) (h1 : x < 2 ^ 32) :
    Calls Tryz.prog 131 #[.slice A m c, .int .u32 x, .bool false] w (RetBs (xs ++ highB x 4) w) := by
  obtain ⟨i0, hi, hz, hsz, hby⟩ := u8_info
  go_enter Tryz.func131, Tryz.ntmps131
  go_wp2_with (first
    | (go_at_call 153; refine (width32_any _).mono ?_; rintro e w' ⟨rfl, rfl⟩)
    | (refine wpList_make_bs rfl _ _ _ rfl 5 i0 Tryz.underlying31 hi hz hsz hby (m + 4) rfl rfl (by omega) ?_; intro w1 hown hs1 hb1)
    | (refine wpList_copy_bs rfl (.tmp 17) (.tmp 18) _ _ rfl 5 Tryz.underlying31 u8_size w.heap.size 0 _ _ m c A rfl rfl _ xs 5 w.heap.size hown (h.below hb1) (by omega) (by rw [List.length_replicate]; omega) w.heap.size w hb1 (Nat.le_refl _) ?_; intro w2 hown2 hb2))
  go_loopw [21] (fun i wr => ∃ k : Nat, k ≤ 4 ∧ i = .int .i64 k ∧ Own wr 5 w.heap.size (xs ++ (List.replicate (4 - k) 0 ++ highB x k)) ∧ Below w.heap.size w wr) (fun i _ => 4 - (intOf i).toNat)
  case atStart => exact ⟨0, Nat.zero_le _, rfl, by simpa [highB, lowB, h.1] using hown2, hb2⟩
  case round =>
    obtain ⟨k, hk, rfl, hown, hb⟩ := hrel
    by_cases hlt : k < 4
    · have hc := hown.cell (j := m + 3 - k) (by simp [highB_length, h.1]; omega)
      have hf := hown.frozen (m + 3 - k)
      have hs := hown.set (m + 3 - k) (x / 2 ^ (8 * k) % 256)
      have he := set_high hlt (highB x k) (x / 2 ^ (8 * k) % 256) xs
      rw [h.1, show m + (4 - 1 - k) = m + 3 - k from by omega] at he
      rw [he, ← pow256_two, ← highB_cons, pow256_two] at hs
      have HS := hide hs
      clear hs he
      go_wp2
      go_roundw
      case rel => exact ⟨k + 1, by omega, by go_num, HS.out, hb.setCell (Nat.le_refl _) _⟩
      case measure => simp [intOf]; omega
    · go_wp2
      go_ret
      obtain rfl : k = 4 := by omega
      exact ret_own hown hb (by simp) (by simp [highB_length, h.1]) (Nat.le_refl _) (by simp only [maxLen]; omega)
set_option maxHeartbeats 400000 in
set_option maxRecDepth 100000 in
theorem lay64_high (A : Option Addr) (m c : Nat) (xs : List Int) (x : Int) (w : World) (h : Bs w w.heap.size A m xs) (hm : m ≤ 1000000) (h0 : 0 ≤ x) (h1 : x < 2 ^ 64) :
    Calls Tryz.prog 132 #[.slice A m c, .int .u64 x, .bool false] w (RetBs (xs ++ highB x 8) w) := by
  obtain ⟨i0, hi, hz, hsz, hby⟩ := u8_info
  go_enter Tryz.func132, Tryz.ntmps132
  go_wp2_with (first
    | (go_at_call 154; refine (width64_any _).mono ?_; rintro e w' ⟨rfl, rfl⟩)
    | (refine wpList_make_bs rfl _ _ _ rfl 5 i0 Tryz.underlying31 hi hz hsz hby (m + 8) rfl rfl (by omega) ?_; intro w1 hown hs1 hb1)
    | (refine wpList_copy_bs rfl (.tmp 17) (.tmp 18) _ _ rfl 5 Tryz.underlying31 u8_size w.heap.size 0 _ _ m c A rfl rfl _ xs 5 w.heap.size hown (h.below hb1) (by omega) (by rw [List.length_replicate]; omega) w.heap.size w hb1 (Nat.le_refl _) ?_; intro w2 hown2 hb2))
  go_loopw [21] (fun i wr => ∃ k : Nat, k ≤ 8 ∧ i = .int .i64 k ∧ Own wr 5 w.heap.size (xs ++ (List.replicate (8 - k) 0 ++ highB x k)) ∧ Below w.heap.size w wr) (fun i _ => 8 - (intOf i).toNat)
  case atStart => exact ⟨0, Nat.zero_le _, rfl, by simpa [highB, lowB, h.1] using hown2, hb2⟩
  case round =>
    obtain ⟨k, hk, rfl, hown, hb⟩ := hrel
    by_cases hlt : k < 8
    · have hc := hown.cell (j := m + 7 - k) (by simp [highB_length, h.1]; omega)
      have hf := hown.frozen (m + 7 - k)
      have hs := hown.set (m + 7 - k) (x / 2 ^ (8 * k) % 256)
      have he := set_high hlt (highB x k) (x / 2 ^ (8 * k) % 256) xs
      rw [h.1, show m + (8 - 1 - k) = m + 7 - k from by omega] at he
      rw [he, ← pow256_two, ← highB_cons, pow256_two] at hs
      have HS := hide hs
      clear hs he
      go_wp2
      go_roundw
      case rel => exact ⟨k + 1, by omega, by go_num, HS.out, hb.setCell (Nat.le_refl _) _⟩
      case measure => simp [intOf]; omega
    · go_wp2
      go_ret
      obtain rfl : k = 8 := by omega
      exact ret_own hown hb (by simp) (by simp [highB_length, h.1]) (Nat.le_refl _) (by simp only [maxLen]; omega)
set_option maxRecDepth 100000 in
theorem put32_any (A : Option Addr) (m c : Nat) (xs : List Int) (x : Int) (w : World) (h : Bs w w.heap.size A m xs) (hm : m ≤ 1000000) (h0 : 0 ≤ x) (h1 : x < 2 ^ 32) :
    Calls Tryz.prog 102 #[.slice A m c, .int .u32 x] w (RetBs (xs ++ highB x 4) w) := by
  go_enter Tryz.func102, Tryz.ntmps102
  go_wp2_with (go_at_call 131; refine (lay32_high A m c xs x _ h hm h0 h1).mono ?_; rintro e w1 ⟨A1, n1, c1, rfl, hb, hn, hc, hl⟩)
  go_ret
  exact ⟨A1, n1, c1, rfl, hb, hn, hc, hl⟩
set_option maxRecDepth 100000 in
theorem put64_any (A : Option Addr) (m c : Nat) (xs : List Int) (x : Int) (w : World) (h : Bs w w.heap.size A m xs) (hm : m ≤ 1000000) (h0 : 0 ≤ x) (h1 : x < 2 ^ 64) :
    Calls Tryz.prog 103 #[.slice A m c, .int .u64 x] w (RetBs (xs ++ highB x 8) w) := by
  go_enter Tryz.func103, Tryz.ntmps103
  go_wp2_with (go_at_call 132; refine (lay64_high A m c xs x _ h hm h0 h1).mono ?_; rintro e w1 ⟨A1, n1, c1, rfl, hb, hn, hc, hl⟩)
  go_ret
  exact ⟨A1, n1, c1, rfl, hb, hn, hc, hl⟩
set_option maxHeartbeats 800000 in
set_option maxRecDepth 100000 in
theorem join_any (A : Option Addr) (m c : Nat) (xss : List (List Int)) (w : World) (h : Bss w w.heap.size A m xss) (hm : m ≤ 1000000) (hs : sumLen xss m ≤ 140737488355328) :
    Calls Tryz.prog 50 #[.slice A m c] w (RetBs xss.flatten w) := by
  obtain ⟨i0, hi, hz, hsz, hby⟩ := u8_info
  have hlen := h.1
  have HL := hide hlen
  clear hlen
  go_enter Tryz.func50, Tryz.ntmps50
  go_wp2
  go_loop [3, 11] (fun s i => ∃ k : Nat, k ≤ m ∧ i = .int .i64 k ∧ s = .int .i64 (sumLen xss k)) (fun _ i => m - (intOf i).toNat)
  case atStart => exact ⟨0, Nat.zero_le _, rfl, rfl⟩
  case round =>
    obtain ⟨k, hk, rfl, rfl⟩ := hrel
    have hle := sumLen_le xss k
    rw [HL.out] at hle
    by_cases hlt : k < m
    · obtain ⟨b, o, rfl, hb, hc⟩ := h.2 (by omega)
      obtain ⟨A', n', c', hcell, hbs⟩ := hc k hlt
      have hsu := sumLen_succ xss k (by rw [HL.out]; exact hlt)
      rw [hbs.1] at hsu
      have hle2 := sumLen_le xss (k + 1)
      rw [HL.out] at hle2
      have hb2 : sumLen xss k + n' ≤ 140737488355328 := by omega
      have HS := hide hsu
      clear hsu hle2 hc
      go_wp2
      go_round
      case rel => exact ⟨k + 1, by omega, by go_num, by rw [HS.out]; go_num⟩
      case measure => simp [intOf]; omega
    · obtain rfl : k = m := by omega
      go_wp2_with (refine wpList_make0_bs rfl _ _ _ rfl 5 i0 Tryz.underlying31 hi hz hsz hby (sumLen xss k) rfl rfl hs ?_; intro w1 hown1 hb1)
      go_loopw [6, 24] (fun v i wr => ∃ j : Nat, j ≤ k ∧ i = .int .i64 j ∧ wr.ownsRow w.heap.size 5 1 v (sumLen xss j) (bv (xss.take j).flatten) ∧ Below w.heap.size w wr) (fun _ i _ => k - (intOf i).toNat)
      case atStart => exact ⟨0, Nat.zero_le _, rfl, by simpa [sumLen] using hown1, hb1⟩
      case round =>
        obtain ⟨j, hj, rfl, hown, hbr⟩ := hrel
        by_cases hjl : j < k
        · obtain ⟨b, o, rfl, hb, hc⟩ := h.2 (by omega)
          obtain ⟨A', n', c', hcell, hbs⟩ := hc j hjl
          have hcell' := (hbr.cell (p := ⟨b, o + j, none⟩) hb).trans hcell
          have hsu := sumLen_succ xss j (by rw [HL.out]; exact hjl)
          have htf := take_flat xss j (by rw [HL.out]; exact hjl)
          rw [hbs.1] at hsu
          have hle2 := sumLen_le xss (j + 1)
          rw [HL.out] at hle2
          have hb2 : sumLen xss j + n' ≤ 140737488355328 := by omega
          have HS := hide hsu
          have HT := hide htf
          clear hsu htf hle2 hc hcell
          go_wp2_with (at_builtin; refine wpList_append_bs rfl (.tmp 28) (.tmp 29) _ rfl w.heap.size 5 i0 Tryz.underlying31 hi hz hsz hby _ (sumLen xss j) (xss.take j).flatten rfl hown w.heap.size A' n' c' (xss.getD j []) rfl (hbs.below hbr) hb2 hbr.size ?_; intro v1 w2 hown1 hg1)
          have hb3 := grown_below hbr hown (Nat.le_refl _) hg1
          go_roundw
          case rel => exact ⟨j + 1, by omega, by go_num, by rw [HS.out, HT.out]; exact hown1, hb3⟩
          case measure => simp [intOf]; omega
        · obtain rfl : j = k := by omega
          go_wp2
          go_ret
          exact ret_owns hown hbr (by rw [List.take_of_length_le (by rw [HL.out]; exact Nat.le_refl _)])
set_option maxRecDepth 100000 in
theorem both_own (A B : Option Addr) (n m c d : Nat) (xs ys : List Int) (w : World) (h1 : Bs w w.heap.size A n xs) (h2 : Bs w w.heap.size B m ys) (hn : n + m ≤ 140737488355328) :
    Calls Tryz.prog 59 #[.slice A n c, .slice B m d] w fun e w' => ∃ v, e = .returned v ∧ w'.ownsRow w.heap.size 5 1 v (n + m) (bv (xs ++ ys)) ∧ Below w.heap.size w w' := by
  obtain ⟨i0, hi, hz, hsz, hby⟩ := u8_info
  have hown0 := World.ownsRow_nil w w.heap.size 5 1
  go_enter Tryz.func59, Tryz.ntmps59
  go_wp2_with (first
    | (at_builtin
       refine wpList_append_bs rfl (.tmp 6) (.tmp 7) _ rfl w.heap.size 5 i0 Tryz.underlying31 hi hz hsz hby (.slice none 0 0) 0 [] rfl hown0 w.heap.size A n c xs rfl h1 (by omega) (by simp) ?_
       intro v1 w1 hown1 hg1
       have hb1 := grown_below (Below.refl _ _) hown0 (Nat.le_refl _) hg1
       have hz1 := hb1.size)
    | (at_builtin
       refine wpList_append_bs rfl (.tmp 9) (.tmp 10) _ rfl w.heap.size 5 i0 Tryz.underlying31 hi hz hsz hby v1 (0 + n) ([] ++ xs) rfl hown1 w.heap.size B m d ys rfl (h2.below hb1) (by omega) hz1 ?_
       intro v2 w2 hown2 hg2))
  go_ret
  exact ⟨v2, rfl, by simpa using hown2, grown_below hb1 hown1 (Nat.le_refl _) hg2⟩
set_option maxRecDepth 100000 in
theorem both_any (A B : Option Addr) (n m c d : Nat) (xs ys : List Int) (w : World) (h1 : Bs w w.heap.size A n xs) (h2 : Bs w w.heap.size B m ys) (hn : n + m ≤ 140737488355328) :
    Calls Tryz.prog 59 #[.slice A n c, .slice B m d] w (RetBs (xs ++ ys) w) := by
  refine (both_own A B n m c d xs ys w h1 h2 hn).mono ?_
  rintro e w' ⟨v, rfl, ho, hb⟩
  exact ret_owns ho hb rfl
end Go.Proofs.YtpbkejmffddelaaGreat

/-
  bits.Len64, in the numbers of this seat (made by lenlay.sh).
-/
namespace Go.Proofs.YtpbkejmffddelaaGreat
open Go.Shelf
def len64S_ren : Go.Shelf.Ren := ⟨fun | 129 => 167 | n => n, fun | 53 => 100 | 3 => 3 | 4 => 4 | 46 => 186 | 5 => 5 | 9 => 9 | n => n, fun | n => n⟩
theorem len64S : Go.Proofs.Lays.n129 Tryz.prog len64S_ren := {
  mixed := by kernel_rfl
  f129 := Tryz.func167.trans (congrArg some (by kernel_rfl))
  t3 := Tryz.underlying3
  a3 := Tryz.isAgg3
  z3 := Tryz.sizeOf3
  v3 := Tryz.zeroValue3
  t4 := Tryz.underlying4
  a4 := Tryz.isAgg4
  z4 := Tryz.sizeOf4
  v4 := Tryz.zeroValue4
  t5 := Tryz.underlying5
  a5 := Tryz.isAgg5
  z5 := Tryz.sizeOf5
  v5 := Tryz.zeroValue5
  t9 := Tryz.underlying9
  a9 := Tryz.isAgg9
  z9 := Tryz.sizeOf9
  v9 := Tryz.zeroValue9
  t46 := Tryz.underlying186
  a46 := Tryz.isAgg186
  z46 := Tryz.sizeOf186
  v46 := Tryz.zeroValue186
  t53 := Tryz.underlying100
  a53 := Tryz.isAgg100
  z53 := Tryz.sizeOf100
  v53 := Tryz.zeroValue100 }
end Go.Proofs.YtpbkejmffddelaaGreat

/-
  slices.Sort at []string, in the numbers of this seat (made by sortlay.sh).
-/
namespace Go.Proofs.YtpbkejmffddelaaGreat
open Go.Shelf
def sortS_ren : Go.Shelf.Ren := ⟨fun | 190 => 130 | 125 => 152 | 258 => 151 | 128 => 166 | 129 => 167 | 302 => 157 | 303 => 158 | 304 => 159 | 305 => 160 | 306 => 161 | 307 => 162 | 308 => 163 | 309 => 164 | 310 => 165 | 333 => 169 | 329 => 170 | 330 => 171 | 334 => 172 | 335 => 173 | 336 => 174 | 344 => 175 | n => n, fun | 31 => 23 | 9 => 9 | 3 => 3 | 46 => 186 | 0 => 0 | 51 => 135 | 53 => 100 | 4 => 4 | 183 => 190 | 182 => 189 | 131 => 155 | 5 => 5 | 218 => 197 | 222 => 200 | 228 => 202 | 229 => 203 | n => n, fun | n => n⟩
theorem sortS : Go.Proofs.Lays.n190 Tryz.prog sortS_ren := {
  mixed := by kernel_rfl
  f125 := Tryz.func152.trans (congrArg some (by kernel_rfl))
  f128 := Tryz.func166.trans (congrArg some (by kernel_rfl))
  f129 := Tryz.func167.trans (congrArg some (by kernel_rfl))
  f190 := Tryz.func130.trans (congrArg some (by kernel_rfl))
  f258 := Tryz.func151.trans (congrArg some (by kernel_rfl))
  f302 := Tryz.func157.trans (congrArg some (by kernel_rfl))
  f303 := Tryz.func158.trans (congrArg some (by kernel_rfl))
  f304 := Tryz.func159.trans (congrArg some (by kernel_rfl))
  f305 := Tryz.func160.trans (congrArg some (by kernel_rfl))
  f306 := Tryz.func161.trans (congrArg some (by kernel_rfl))
  f307 := Tryz.func162.trans (congrArg some (by kernel_rfl))
  f308 := Tryz.func163.trans (congrArg some (by kernel_rfl))
  f309 := Tryz.func164.trans (congrArg some (by kernel_rfl))
  f310 := Tryz.func165.trans (congrArg some (by kernel_rfl))
  f329 := Tryz.func170.trans (congrArg some (by kernel_rfl))
  f330 := Tryz.func171.trans (congrArg some (by kernel_rfl))
  f333 := Tryz.func169.trans (congrArg some (by kernel_rfl))
  f334 := Tryz.func172.trans (congrArg some (by kernel_rfl))
  f335 := Tryz.func173.trans (congrArg some (by kernel_rfl))
  f336 := Tryz.func174.trans (congrArg some (by kernel_rfl))
  f344 := Tryz.func175.trans (congrArg some (by kernel_rfl))
  t0 := Tryz.underlying0
  a0 := Tryz.isAgg0
  z0 := Tryz.sizeOf0
  v0 := Tryz.zeroValue0
  t3 := Tryz.underlying3
  a3 := Tryz.isAgg3
  z3 := Tryz.sizeOf3
  v3 := Tryz.zeroValue3
  t4 := Tryz.underlying4
  a4 := Tryz.isAgg4
  z4 := Tryz.sizeOf4
  v4 := Tryz.zeroValue4
  t5 := Tryz.underlying5
  a5 := Tryz.isAgg5
  z5 := Tryz.sizeOf5
  v5 := Tryz.zeroValue5
  t9 := Tryz.underlying9
  a9 := Tryz.isAgg9
  z9 := Tryz.sizeOf9
  v9 := Tryz.zeroValue9
  t31 := Tryz.underlying23
  a31 := Tryz.isAgg23
  z31 := Tryz.sizeOf23
  v31 := Tryz.zeroValue23
  t46 := Tryz.underlying186
  a46 := Tryz.isAgg186
  z46 := Tryz.sizeOf186
  v46 := Tryz.zeroValue186
  t51 := Tryz.underlying135
  a51 := Tryz.isAgg135
  z51 := Tryz.sizeOf135
  v51 := Tryz.zeroValue135
  t53 := Tryz.underlying100
  a53 := Tryz.isAgg100
  z53 := Tryz.sizeOf100
  v53 := Tryz.zeroValue100
  t131 := Tryz.underlying155
  a131 := Tryz.isAgg155
  z131 := Tryz.sizeOf155
  v131 := Tryz.zeroValue155
  t182 := Tryz.underlying189
  a182 := Tryz.isAgg189
  z182 := Tryz.sizeOf189
  v182 := Tryz.zeroValue189
  t183 := Tryz.underlying190
  a183 := Tryz.isAgg190
  z183 := Tryz.sizeOf190
  v183 := Tryz.zeroValue190
  t218 := Tryz.underlying197
  a218 := Tryz.isAgg197
  z218 := Tryz.sizeOf197
  v218 := Tryz.zeroValue197
  t222 := Tryz.underlying200
  a222 := Tryz.isAgg200
  z222 := Tryz.sizeOf200
  v222 := Tryz.zeroValue200
  t228 := Tryz.underlying202
  a228 := Tryz.isAgg202
  z228 := Tryz.sizeOf202
  v228 := Tryz.zeroValue202
  t229 := Tryz.underlying203
  a229 := Tryz.isAgg203
  z229 := Tryz.sizeOf203
  v229 := Tryz.zeroValue203 }
end Go.Proofs.YtpbkejmffddelaaGreat

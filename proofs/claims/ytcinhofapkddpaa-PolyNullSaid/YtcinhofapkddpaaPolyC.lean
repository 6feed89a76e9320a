/-
  Poly: a product and two words more: contract. Own work.
-/
import Derived.Test.YtcinhofapkddpaaPolyB
namespace Go.Proofs.Ytcinhofapkddpaa
open Go.RowKit
set_option linter.unusedVariables false
set_option linter.unusedSimpArgs false
theorem add64_z (x y : Nat) (w : World) :
    (callFunc 40 #[.int .u64 x, .int .u64 y, .int .u64 0]).run Try.prog w =
      .ok (.value (.tuple #[.int .u64 (((x + y) % 18446744073709551616 : Nat) : Int), .int .u64 (((x + y) / 18446744073709551616 : Nat) : Int)])) w := add64_run x y 0 (by omega) w
/-- A sum of two words: what stays, what is carried. -/
theorem carry_lt {x y : Nat} (hx : x < 18446744073709551616) (hy : y < 18446744073709551616) : ∃ s k : Nat, (x + y) % 18446744073709551616 = s ∧ (x + y) / 18446744073709551616 = k ∧ s < 18446744073709551616 ∧ k ≤ 1 ∧ k * 18446744073709551616 + s = x + y := ⟨_, _, rfl, rfl, by omega, by omega, by omega⟩
theorem add64_s {x y : Nat} (hx : x < 18446744073709551616) (hy : y < 18446744073709551616) : ∃ s k : Nat, s < 18446744073709551616 ∧ k ≤ 1 ∧ Hid (k * 18446744073709551616 + s = x + y) ∧ ∀ w, (callFunc 40 #[.int .u64 x, .int .u64 y, .int .u64 0]).run Try.prog w = .ok (.value (.tuple #[.int .u64 (s : Int), .int .u64 (k : Int)])) w := by
  obtain ⟨s, k, rfl, rfl, h1, h2, h3⟩ := carry_lt hx hy
  exact ⟨_, _, h1, h2, h3, add64_z x y⟩
theorem mulAdd_sum {M h0 l0 p k1 s1 a k2 s2 b : Nat} (h1 : h0 * M + l0 = p) (h2 : k1 * M + s1 = l0 + a) (h3 : k2 * M + s2 = s1 + b) : (h0 + k1 + k2) * M + s2 = p + a + b := by
  rw [Nat.add_mul, Nat.add_mul]
  generalize h0 * M = x at *
  generalize k1 * M = y at *
  generalize k2 * M = z at *
  omega
set_option maxRecDepth 100000 in
set_option maxHeartbeats 1000000 in
theorem mulAdd_any (x y a b : Nat) (hx : x < 18446744073709551616) (hy : y < 18446744073709551616) (ha : a < 18446744073709551616) (hb : b < 18446744073709551616) (w : World) :
    Calls Try.prog 45 #[.int .u64 x, .int .u64 y, .int .u64 a, .int .u64 b] w fun e w' => (∃ H L : Nat, e = .returned (.tuple #[.int .u64 (H : Int), .int .u64 (L : Int)]) ∧ H * 18446744073709551616 + L = x * y + a + b ∧ H < 18446744073709551616 ∧ L < 18446744073709551616) ∧ w' = w := by
  have hP : x * y ≤ 18446744073709551615 * 18446744073709551615 := Nat.mul_le_mul (by omega) (by omega)
  obtain ⟨h0, hh0⟩ : ∃ h0, h0 = x * y / 18446744073709551616 := ⟨_, rfl⟩
  obtain ⟨l0, hl0⟩ : ∃ l0, l0 = x * y % 18446744073709551616 := ⟨_, rfl⟩
  have b0 : h0 ≤ 18446744073709551614 := by omega
  have b1 : l0 < 18446744073709551616 := by omega
  have E0 := hide (show h0 * 18446744073709551616 + l0 = x * y by omega)
  have HM := mul64_any x y hx hy w
  rw [← hh0, ← hl0] at HM
  obtain ⟨s1, k1, c1, d1, E1, R1⟩ := add64_s b1 ha
  obtain ⟨s2, k2, c2, d2, E2, R2⟩ := add64_s c1 hb
  have T1 : h0 + k1 < 18446744073709551616 := by omega
  have T2 : h0 + k1 + k2 < 18446744073709551616 := by
    have := E0.out; have := E1.out; have := E2.out; omega
  clear hh0 hl0 hP
  have HM' := HM
  clear HM
  go_enter Try.func45, Try.ntmps45
  go_wp2_with fail
  refine HM'.mono ?_
  rintro e w' ⟨rfl, rfl⟩
  clear HM'
  go_wp2_with (first | rw [R1] | rw [R2])
  rw [show (h0 : Int) + (k1 : Int) + (k2 : Int) = ((h0 + k1 + k2 : Nat) : Int) from by omega]
  go_ret2
  exact ⟨⟨h0 + k1 + k2, s2, rfl, mulAdd_sum E0.out E1.out E2.out, T2, c2⟩, rfl⟩
end Go.Proofs.Ytcinhofapkddpaa

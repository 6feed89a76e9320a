/- PackOrder: the Go text of the law answers true for every input, and writes nothing that was there. -/
import Derived.Test.YtfkdjcikmfljdaaPackC
import Derived.Deep.RegionWith
import Derived.Lib.BytesEntry
import Derived.Laws.Externs
namespace Go.Proofs.Ytfkdjcikmfljdaa
open Go.RowKit
set_option linter.unusedVariables false
set_option linter.unusedSimpArgs false

def sgn (a b : Int) : Int := if a < b then -1 else if b < a then 1 else 0

/-- Two lists of bytes, byte by byte. -/
theorem emod_succ (x : Int) (n : Nat) : x % 256 ^ (n + 1) = x % 256 ^ n + x / 256 ^ n % 256 * 256 ^ n := by
  rw [← leV_lowB, ← leV_lowB]
  have e : leV (lowB x (n + 1)) 0 n = leV (lowB x n) 0 n := leV_congr fun i hi => by rw [Nat.zero_add]; exact lowB_take x n 1 i hi
  simp only [leV, e]
  congr 2
  rw [lowB_snoc, Nat.zero_add]
  simp [List.getD, lowB_length]
theorem byte_lt {a b : Int} (a0 : 0 ≤ a) (a1 : a < 256) (b0 : 0 ≤ b) (b1 : b < 256) : (UInt8.ofNat a.toNat < UInt8.ofNat b.toNat) ↔ a < b := by
  rw [UInt8.lt_iff_toNat_lt, UInt8.toNat_ofNat', UInt8.toNat_ofNat']
  omega
theorem compare_high (x y : Int) (n : Nat) : Lib.compareBytes (Lib.bytesOf (highB x n)) (Lib.bytesOf (highB y n)) = sgn (x % 256 ^ n) (y % 256 ^ n) := by
  induction n with
  | zero => simp [highB, lowB, Lib.bytesOf, Lib.compareBytes, sgn, Int.emod_one]
  | succ n ih =>
    rw [highB_cons, highB_cons, emod_succ, emod_succ]
    simp only [Lib.bytesOf, List.map_cons, Lib.compareBytes] at ih ⊢
    rw [ih]
    have hp := pow256_pos n
    have a0 := Int.emod_nonneg (x / 256 ^ n) (show (256 : Int) ≠ 0 by omega)
    have a1 := Int.emod_lt_of_pos (x / 256 ^ n) (show (0 : Int) < 256 by omega)
    have b0 := Int.emod_nonneg (y / 256 ^ n) (show (256 : Int) ≠ 0 by omega)
    have b1 := Int.emod_lt_of_pos (y / 256 ^ n) (show (0 : Int) < 256 by omega)
    have c0 := Int.emod_nonneg x (pow256_ne n)
    have c1 := Int.emod_lt_of_pos x hp
    have d0 := Int.emod_nonneg y (pow256_ne n)
    have d1 := Int.emod_lt_of_pos y hp
    simp only [byte_lt a0 a1 b0 b1, byte_lt b0 b1 a0 a1]
    generalize x / 256 ^ n % 256 = a at *
    generalize y / 256 ^ n % 256 = b at *
    generalize x % 256 ^ n = c at *
    generalize y % 256 ^ n = d at *
    generalize (256 : Int) ^ n = p at *
    unfold sgn
    rcases Int.lt_trichotomy a b with h | h | h
    · have h1 : (a + 1) * p ≤ b * p := Int.mul_le_mul_of_nonneg_right (by omega) (by omega)
      rw [Int.add_mul, Int.one_mul] at h1
      rw [if_pos h, if_pos (by omega)]
    · subst h
      rw [if_neg (by omega), if_neg (by omega)]
      have e1 : (c + a * p < d + a * p) ↔ c < d := by omega
      have e2 : (d + a * p < c + a * p) ↔ d < c := by omega
      simp only [e1, e2]
    · have h1 : (b + 1) * p ≤ a * p := Int.mul_le_mul_of_nonneg_right (by omega) (by omega)
      rw [Int.add_mul, Int.one_mul] at h1
      rw [if_neg (by omega), if_pos h, if_neg (by omega), if_pos (by omega)]

theorem bs_load {P : Program} {w : World} {B n : Nat} {A : Option Addr} {xs : List Int} (h : Bs w B A n xs) (c : Nat) : (Extern.Bytes.bytesOf (.slice A n c)).run P w = .ok ⟨(Lib.bytesOf xs).toArray⟩ w := by
  rcases A with _ | ad
  · have h0 : n = 0 := by
      rcases Nat.eq_zero_or_pos n with h0 | h0
      · exact h0
      · obtain ⟨_, _, h, _⟩ := h.2 h0; cases h
    subst h0
    obtain rfl : xs = [] := List.eq_nil_of_length_eq_zero h.1
    rfl
  · have hl := Lib.run_loadBytesX (P := P) w xs ad .empty (fun j x hj => h.cells rfl j (.int .u8 x) (by simp [hj]))
    rw [h.1] at hl
    have he : (⟨ByteArray.empty.data ++ (Lib.bytesOf xs).toArray⟩ : ByteArray) = ⟨(Lib.bytesOf xs).toArray⟩ := by
      apply ByteArray.ext
      show (#[] : Array UInt8) ++ (Lib.bytesOf xs).toArray = (Lib.bytesOf xs).toArray
      simp
    rw [he] at hl
    exact hl
theorem compare_run {A B : Option Addr} {n m B0 : Nat} {xs ys : List Int} {w : World} (h1 : Bs w B0 A n xs) (h2 : Bs w B0 B m ys) (c d : Nat) :
    (callFunc 54 #[.slice A n c, .slice B m d]).run Try.prog w = .ok (.value (.int .i64 (Lib.compareBytes (Lib.bytesOf xs) (Lib.bytesOf ys)))) w := by
  rw [run_callFunc_extern Try.func54 (by kernel_rfl) (by kernel_rfl) (by kernel_rfl) (show Extern.find Try.f54 = some Extern.BytealgCompare.compare from by kernel_rfl)]
  have e : (Extern.BytealgCompare.compare #[.slice A n c, .slice B m d]).run Try.prog w = .ok (.int .i64 (Lib.compareBytes (Lib.bytesOf xs) (Lib.bytesOf ys))) w := by
    change Sem.run Try.prog (do pure (goInt (Extern.BytealgCompare.cmp (← Extern.Bytes.bytesOf (.slice A n c)) (← Extern.Bytes.bytesOf (.slice B m d))))) w = _
    simp only [Sem.run_bind, Sem.run_pure, bs_load h1, bs_load h2, Result.andThen]
    rw [Lib.cmp_eq]
    rfl
  rw [e]
  rfl
theorem bcompare_any {A B : Option Addr} {n m B0 : Nat} {xs ys : List Int} {w : World} (h1 : Bs w B0 A n xs) (h2 : Bs w B0 B m ys) (c d : Nat) :
    Calls Try.prog 40 #[.slice A n c, .slice B m d] w fun e w' => e = .returned (.int .i64 (Lib.compareBytes (Lib.bytesOf xs) (Lib.bytesOf ys))) ∧ w = w' := by
  have hc := compare_run h1 h2 c d
  go_enter Try.func40, Try.ntmps40
  go_wp2
  go_ret
  exact ⟨rfl, rfl⟩
theorem isNaN32_any (x : Int) (w : World) : Calls Try.prog 56 #[.int .u32 x] w fun e w' => e = .returned (.bool false) ∧ w = w' := by
  have h : (x != x) = false := by simp
  go_enter Try.func56, Try.ntmps56
  go_wp2
  go_ret
  exact ⟨rfl, rfl⟩
theorem cmp32_any (x y : Int) (w : World) : Calls Try.prog 42 #[.int .u32 x, .int .u32 y] w fun e w' => e = .returned (.int .i64 (sgn x y)) ∧ w = w' := by
  unfold sgn
  by_cases h1 : x < y
  · rw [if_pos h1]
    go_enter Try.func42, Try.ntmps42
    go_wp2_with (go_at_call 56; refine (isNaN32_any _ _).mono ?_; rintro e w1 ⟨rfl, rfl⟩)
    go_ret
    exact ⟨rfl, rfl⟩
  · rw [if_neg h1]
    by_cases h2 : y < x
    · rw [if_pos h2]
      go_enter Try.func42, Try.ntmps42
      go_wp2_with (go_at_call 56; refine (isNaN32_any _ _).mono ?_; rintro e w1 ⟨rfl, rfl⟩)
      go_ret
      exact ⟨rfl, rfl⟩
    · rw [if_neg h2]
      go_enter Try.func42, Try.ntmps42
      go_wp2_with (go_at_call 56; refine (isNaN32_any _ _).mono ?_; rintro e w1 ⟨rfl, rfl⟩)
      go_ret
      exact ⟨rfl, rfl⟩
theorem isNaN64_any (x : Int) (w : World) : Calls Try.prog 55 #[.int .u64 x] w fun e w' => e = .returned (.bool false) ∧ w = w' := by
  have h : (x != x) = false := by simp
  go_enter Try.func55, Try.ntmps55
  go_wp2
  go_ret
  exact ⟨rfl, rfl⟩
theorem cmp64_any (x y : Int) (w : World) : Calls Try.prog 41 #[.int .u64 x, .int .u64 y] w fun e w' => e = .returned (.int .i64 (sgn x y)) ∧ w = w' := by
  unfold sgn
  by_cases h1 : x < y
  · rw [if_pos h1]
    go_enter Try.func41, Try.ntmps41
    go_wp2_with (go_at_call 55; refine (isNaN64_any _ _).mono ?_; rintro e w1 ⟨rfl, rfl⟩)
    go_ret
    exact ⟨rfl, rfl⟩
  · rw [if_neg h1]
    by_cases h2 : y < x
    · rw [if_pos h2]
      go_enter Try.func41, Try.ntmps41
      go_wp2_with (go_at_call 55; refine (isNaN64_any _ _).mono ?_; rintro e w1 ⟨rfl, rfl⟩)
      go_ret
      exact ⟨rfl, rfl⟩
    · rw [if_neg h2]
      go_enter Try.func41, Try.ntmps41
      go_wp2_with (go_at_call 55; refine (isNaN64_any _ _).mono ?_; rintro e w1 ⟨rfl, rfl⟩)
      go_ret
      exact ⟨rfl, rfl⟩
theorem compare_high_sgn {x y : Int} {n : Nat} (x0 : 0 ≤ x) (x1 : x < 256 ^ n) (y0 : 0 ≤ y) (y1 : y < 256 ^ n) : Lib.compareBytes (Lib.bytesOf (highB x n)) (Lib.bytesOf (highB y n)) = sgn x y := by
  rw [compare_high, Int.emod_eq_of_lt x0 x1, Int.emod_eq_of_lt y0 y1]

set_option maxHeartbeats 1000000 in
theorem packOrder_any (x y : Int) (w : World) (x0 : 0 ≤ x) (x1 : x < 18446744073709551616) (y0 : 0 ≤ y) (y1 : y < 18446744073709551616) :
    Calls Try.prog 7 #[.int .u64 x, .int .u64 y] w fun e w' => e = .returned (.bool true) ∧ Below w.heap.size w w' := by
  have C64 := hide (compare_high_sgn (n := 8) x0 (by rw [show (256 : Int) ^ 8 = 18446744073709551616 from by decide]; exact x1) y0 (by rw [show (256 : Int) ^ 8 = 18446744073709551616 from by decide]; exact y1))
  have C32 := hide (compare_high_sgn (x := x % 4294967296) (y := y % 4294967296) (n := 4) (by omega) (by rw [show (256 : Int) ^ 4 = 4294967296 from by decide]; omega) (by omega) (by rw [show (256 : Int) ^ 4 = 4294967296 from by decide]; omega))
  have L64 := hide (show leV ([] ++ lowB x 8) 0 8 = x from leV_back [] x0 (by rw [show (256 : Int) ^ 8 = 18446744073709551616 from by decide]; exact x1))
  have L32 := hide (show leV ([7] ++ lowB (x % 4294967296) 4) 1 4 = x % 4294967296 from leV_back [7] (by omega) (by rw [show (256 : Int) ^ 4 = 4294967296 from by decide]; omega))
  go_enter Try.func7, Try.ntmps7
  go_wp2_with (first
    | (go_at_call_of 14 x; refine (put64_any none 0 0 [] x _ Bs.nil_ (by omega) x0 (by omega)).mono ?_; rintro e w1 ⟨A1, m1, c1, rfl, hb1, hn1, hc1, hl1⟩)
    | (go_at_call_of 14 y; refine (put64_any none 0 0 [] y _ Bs.nil_ (by omega) y0 (by omega)).mono ?_; rintro e w2 ⟨A2, m2, c2, rfl, hb2, hn2, hc2, hl2⟩; have H2 := hl1.trans (hl2.mono hl1.size))
    | (go_at_call_of 40 A1; have hcc := bcompare_any (hb1.later hl2) hb2 c1 c2; rw [List.nil_append, List.nil_append, C64.out] at hcc; refine hcc.mono ?_; rintro e w3 ⟨rfl, rfl⟩)
    | (go_at_call 41; refine (cmp64_any x y _).mono ?_; rintro e w3 ⟨rfl, rfl⟩))
  go_wp2_with (first
    | (go_at_call 12; (with_reducible refine (put32_any none 0 0 [] (x % 4294967296) _ Bs.nil_ (by omega) (by omega) (by omega)).mono ?_); rintro e w4 ⟨A4, m4, c4, rfl, hb4, hn4, hc4, hl4⟩; have H4 := H2.trans (hl4.mono H2.size))
    | (go_at_call 12; (with_reducible refine (put32_any none 0 0 [] (y % 4294967296) _ Bs.nil_ (by omega) (by omega) (by omega)).mono ?_); rintro e w5 ⟨A5, m5, c5, rfl, hb5, hn5, hc5, hl5⟩; have H5 := H4.trans (hl5.mono H4.size))
    | (go_at_call_of 40 A4; have hcc := bcompare_any (hb4.later hl5) hb5 c4 c5; rw [List.nil_append, List.nil_append, C32.out] at hcc; refine hcc.mono ?_; rintro e w6 ⟨rfl, rfl⟩)
    | (go_at_call 42; refine (cmp32_any _ _ _).mono ?_; rintro e w6 ⟨rfl, rfl⟩)
    | (go_at_call 21; refine (putLe64_any none 0 0 [] x _ Bs.nil_ (by omega) x0 (by omega)).mono ?_; rintro e w7 ⟨A7, m7, c7, rfl, hb7, hn7, hc7, hl7⟩; have H7 := H5.trans (hl7.mono H5.size); have g7 : m7 ≤ 8 := by (have := hb7.1; rw [List.nil_append, lowB_length] at this; omega))
    | (go_at_call 43; have hcc := le64_any A7 m7 c7 0 _ _ hb7 (by rw [List.nil_append]; exact lowB_byte x 8) (by omega) (by omega); rw [L64.out] at hcc; refine hcc.mono ?_; rintro e w8 ⟨rfl, rfl⟩)
    | (go_at_call 18; refine (putLe32_any _ 1 1 [7] (x % 4294967296) _ (Bs.lit' _ 5 (0, 0) [7] #[.int .u8 7] 1 _ rfl rfl rfl) (by omega) (by omega) (by omega)).mono ?_; rintro e w9 ⟨A9, m9, c9, rfl, hb9, hn9, hc9, hl9⟩; have H9 := (H7.alloc H7.size _).trans (hl9.mono (by have := H7.size; simp; omega)); have g9 : m9 ≤ 5 := by (have := hb9.1; rw [List.length_append, lowB_length] at this; simp at this; omega))
    | (go_at_call 44; have hcc := le32_any A9 m9 c9 1 _ _ hb9 (by intro z hz; rcases List.mem_append.1 hz with h | h; (· simp at h; omega); exact lowB_byte _ _ z h) (by omega) (by omega); rw [L32.out] at hcc; refine hcc.mono ?_; rintro e w10 ⟨rfl, rfl⟩)
    | (go_at_call 9; refine (awake_any _).mono ?_; rintro e w11 ⟨rfl, hl11⟩))
  go_ret
  exact ⟨rfl, H9.trans (hl11.mono H9.size)⟩
end Go.Proofs.Ytfkdjcikmfljdaa

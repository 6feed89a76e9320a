/- PackNumbers: the Go text of the law answers true for every input, and writes nothing that was there. -/
import Derived.Test.YtfkdjcikmfljdaaPackC
import Derived.Deep.RegionWith
import Derived.ProofKit
import Derived.OpenShut
import Derived.ShutString
import Derived.ChangeOld
namespace Go.Proofs.Ytfkdjcikmfljdaa
open Go.RowKit
set_option linter.unusedVariables false
set_option maxHeartbeats 1000000 in
theorem packNumbers_any (A : Option Addr) (m c : Nat) (xs : List Int) (x n : Int) (w : World) (h : Bs w w.heap.size A m xs) (h0 : 0 ≤ x) (h1 : x < 18446744073709551616) (n0 : -9223372036854775808 ≤ n) (n1 : n ≤ 9223372036854775807) :
    Calls Try.prog 3 #[.slice A m c, .int .u64 x, .int .i64 n] w fun e w' => e = .returned (.bool true) ∧ Below w.heap.size w w' := by
  by_cases hm : 5000 < m
  · go_enter Try.func3, Try.ntmps3
    go_wp2_with (go_at_call 9; refine (awake_any _).mono ?_; rintro e w1 ⟨rfl, hb⟩)
    go_ret
    exact ⟨rfl, hb⟩
  · go_enter Try.func3, Try.ntmps3
    go_wp2_with (go_at_call 10; refine (clone_any A m c xs _ h (by omega)).mono ?_; rintro e w1 ⟨A1, m1, c1, rfl, hb1, hn1, hc1, hl1⟩)
    have g1 : m1 ≤ 5000 := by have := hb1.1; have := h.1; omega
    have H1 := hl1
    have K1 := Below.refl w1.heap.size w1
    go_wp2_with (go_at_call 12; refine (put32_any A m c xs (x % 4294967296) _ (h.later H1) (by omega) (by omega) (by omega)).mono ?_; rintro e w2 ⟨A2, m2, c2, rfl, hb2, hn2, hc2, hl2⟩)
    have H2 := H1.trans (hl2.mono H1.size)
    have K2 := K1.trans (hl2.mono K1.size)
    go_wp2_with (go_at_call 13; refine (refPut32_any A1 m1 c1 xs (x % 4294967296) _ (hb1.later K2) (by omega) (by omega) (by omega)).mono ?_; rintro e w3 ⟨A3, m3, c3, rfl, hb3, hn3, hc3, hl3⟩)
    have H3 := H2.trans (hl3.mono H2.size)
    have K3 := K2.trans (hl3.mono K2.size)
    go_wp2_with (go_at_call_of 11 A3; refine (equal_any _ _ _ _ _ _ _ _ _ (hb2.later hl3) hb3).mono ?_; rintro e w' ⟨rfl, rfl⟩)
    go_wp2_with (go_at_call 14; refine (put64_any A m c xs x _ (h.later H3) (by omega) (by omega) (by omega)).mono ?_; rintro e w4 ⟨A4, m4, c4, rfl, hb4, hn4, hc4, hl4⟩)
    have H4 := H3.trans (hl4.mono H3.size)
    have K4 := K3.trans (hl4.mono K3.size)
    go_wp2_with (go_at_call 15; refine (refPut64_any A1 m1 c1 xs x _ (hb1.later K4) (by omega) (by omega) (by omega)).mono ?_; rintro e w5 ⟨A5, m5, c5, rfl, hb5, hn5, hc5, hl5⟩)
    have H5 := H4.trans (hl5.mono H4.size)
    have K5 := K4.trans (hl5.mono K4.size)
    go_wp2_with (go_at_call_of 11 A5; refine (equal_any _ _ _ _ _ _ _ _ _ (hb4.later hl5) hb5).mono ?_; rintro e w' ⟨rfl, rfl⟩)
    go_wp2_with (go_at_call 16; refine (putNum_any A m c xs n _ (h.later H5) (by omega) (by omega) (by omega)).mono ?_; rintro e w6 ⟨A6, m6, c6, rfl, hb6, hn6, hc6, hl6⟩)
    have H6 := H5.trans (hl6.mono H5.size)
    have K6 := K5.trans (hl6.mono K5.size)
    go_wp2_with (go_at_call 17; refine (refPutNum_any A1 m1 c1 xs n _ (hb1.later K6) (by omega) (by omega) (by omega)).mono ?_; rintro e w7 ⟨A7, m7, c7, rfl, hb7, hn7, hc7, hl7⟩)
    have H7 := H6.trans (hl7.mono H6.size)
    have K7 := K6.trans (hl7.mono K6.size)
    go_wp2_with (go_at_call_of 11 A7; refine (equal_any _ _ _ _ _ _ _ _ _ (hb6.later hl7) hb7).mono ?_; rintro e w' ⟨rfl, rfl⟩)
    go_wp2_with (go_at_call 18; refine (putLe32_any A m c xs (x % 4294967296) _ (h.later H7) (by omega) (by omega) (by omega)).mono ?_; rintro e w8 ⟨A8, m8, c8, rfl, hb8, hn8, hc8, hl8⟩)
    have H8 := H7.trans (hl8.mono H7.size)
    have K8 := K7.trans (hl8.mono K7.size)
    go_wp2_with (go_at_call 20; refine (low_any (x % 4294967296) 4 _ (by omega) (by omega) (by omega)).mono ?_; rintro e w9 ⟨A9, m9, c9, rfl, hb9, hn9, hc9, hl9⟩)
    have H9 := H8.trans (hl9.mono H8.size)
    have K9 := K8.trans (hl9.mono K8.size)
    have g9 : m9 ≤ 4 := by have := hb9.1; rw [lowB_length] at this; omega
    go_wp2_with (go_at_call 19; refine (both_any A1 A9 m1 m9 c1 c9 xs (lowB (x % 4294967296) 4) _ (hb1.later K9) hb9 (by omega)).mono ?_; rintro e w10 ⟨A10, m10, c10, rfl, hb10, hn10, hc10, hl10⟩)
    have H10 := H9.trans (hl10.mono H9.size)
    have K10 := K9.trans (hl10.mono K9.size)
    go_wp2_with (go_at_call_of 11 A10; refine (equal_any _ _ _ _ _ _ _ _ _ (hb8.later (hl9.trans (hl10.mono hl9.size))) hb10).mono ?_; rintro e w' ⟨rfl, rfl⟩)
    go_wp2_with (go_at_call 21; refine (putLe64_any A m c xs x _ (h.later H10) (by omega) (by omega) (by omega)).mono ?_; rintro e w11 ⟨A11, m11, c11, rfl, hb11, hn11, hc11, hl11⟩)
    have H11 := H10.trans (hl11.mono H10.size)
    have K11 := K10.trans (hl11.mono K10.size)
    go_wp2_with (go_at_call 20; refine (low_any x 8 _ (by omega) (by omega) (by omega)).mono ?_; rintro e w12 ⟨A12, m12, c12, rfl, hb12, hn12, hc12, hl12⟩)
    have H12 := H11.trans (hl12.mono H11.size)
    have K12 := K11.trans (hl12.mono K11.size)
    have g12 : m12 ≤ 8 := by have := hb12.1; rw [lowB_length] at this; omega
    go_wp2_with (go_at_call 19; refine (both_any A1 A12 m1 m12 c1 c12 xs (lowB x 8) _ (hb1.later K12) hb12 (by omega)).mono ?_; rintro e w13 ⟨A13, m13, c13, rfl, hb13, hn13, hc13, hl13⟩)
    have H13 := H12.trans (hl13.mono H12.size)
    have K13 := K12.trans (hl13.mono K12.size)
    go_wp2_with (go_at_call_of 11 A13; refine (equal_any _ _ _ _ _ _ _ _ _ (hb11.later (hl12.trans (hl13.mono hl12.size))) hb13).mono ?_; rintro e w' ⟨rfl, rfl⟩)
    go_wp2_with (go_at_call_of 11 A; refine (equal_any _ _ _ _ _ _ _ _ _ (h.later H13) (hb1.later K13)).mono ?_; rintro e w' ⟨rfl, rfl⟩)
    go_wp2_with (go_at_call 9; refine (awake_any _).mono ?_; rintro e w14 ⟨rfl, hl14⟩)
    go_ret
    exact ⟨rfl, H13.trans (hl14.mono H13.size)⟩
end Go.Proofs.Ytfkdjcikmfljdaa

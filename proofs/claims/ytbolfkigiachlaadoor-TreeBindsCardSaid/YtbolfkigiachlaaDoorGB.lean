/-
  Several own texts in one: ShaA, ShaB, ShaP1, ShaP2, ShaC, ShaD, ShaE, ShaF, ShaG. Own work.
-/
import Derived.Test.YtbolfkigiachlaaDoorRows
import Derived.WalkKit
import Derived.Lib.EndianBits
import Derived.Laws.BitsAllLaws
import Derived.Deep.QuietTactic
import Derived.BigQuiet
import Derived.Test.YtbolfkigiachlaaDoorGA
set_option linter.unusedVariables false
set_option linter.unusedSimpArgs false
/-
  SHA-256: numbers that are turned, and what is made of them: contracts. Own work.
-/
namespace Go.Proofs.YtbolfkigiachlaaDoor
open Go.RowKit
def w32 (x : Int) : Prop := 0 ≤ x ∧ x < 4294967296
/-- Turned left: p is 2 to the places, q 2 to the others. -/
def rot (p q x : Int) : Int := bits .or .u32 (x * p % 4294967296) (x / q)
theorem below_drewn {B : Nat} {w w' : World} (h : Below B w w') (n : Nat) : Below B w (w'.drewN n) := ⟨h.os, h.tape, h.output, h.size, h.block⟩
theorem or_w32 {x y : Int} (hx : w32 x) (hy : w32 y) : w32 (bits .or .u32 x y) := by
  rw [u32_or x y hx.1 hx.2 hy.1 hy.2]
  have h1 := hx.1
  have h2 := hx.2
  have h3 := hy.1
  have h4 := hy.2
  have := Nat.or_lt_two_pow (x := x.toNat) (y := y.toNat) (n := 32) (by omega) (by omega)
  exact ⟨by omega, by omega⟩
theorem xor_w32 {x y : Int} (hx : w32 x) (hy : w32 y) : w32 (bits .xor .u32 x y) := by
  rw [u32_xor x y hx.1 hx.2 hy.1 hy.2]
  have h1 := hx.1
  have h2 := hx.2
  have h3 := hy.1
  have h4 := hy.2
  have := Nat.xor_lt_two_pow (x := x.toNat) (y := y.toNat) (n := 32) (by omega) (by omega)
  exact ⟨by omega, by omega⟩
theorem and_w32 {x y : Int} (hx : w32 x) (hy : w32 y) : w32 (bits .and .u32 x y) := by
  rw [u32_and x y hx.1 hx.2 hy.1 hy.2]
  have h1 := hx.1
  have h2 := hx.2
  have h3 := hy.1
  have h4 := hy.2
  have := Nat.and_lt_two_pow (x := x.toNat) (y := y.toNat) (n := 32) (by omega)
  exact ⟨by omega, by omega⟩
theorem mod_w32 (x : Int) : w32 (x % 4294967296) := ⟨by omega, by omega⟩
theorem div_w32 {x : Int} (h : w32 x) {q : Int} (hq : 0 < q) : w32 (x / q) := by
  obtain ⟨h0, h1⟩ := h
  have a := Int.ediv_nonneg h0 (Int.le_of_lt hq)
  have b := Int.ediv_le_self q h0
  exact ⟨a, by omega⟩
theorem rot_w32 {p q x : Int} (h : w32 x) (hq : 0 < q) : w32 (rot p q x) := or_w32 (mod_w32 _) (div_w32 h hq)
/-- Turned right: by how many places, 2 to the others, 2 to these. -/
def ror2 (x : Int) : Int := rot 1073741824 4 x
theorem ror2_w32 {x : Int} (h : w32 x) : w32 (ror2 x) := rot_w32 h (by decide)
set_option maxRecDepth 100000 in
set_option maxHeartbeats 400000 in
theorem rotl2_any (x : Int) (w : World) (h : w32 x) : Calls Tryd.prog 81 #[.int .u32 x, .int .i64 (-2)] w fun e w' => e = .returned (.int .u32 (ror2 x)) ∧ w = w' := by
  obtain ⟨h0, h1⟩ := h
  have hb : bits .and .u64 (IntKind.u64.wrap (-2)) 31 = 30 := by decide +kernel
  go_enter Tryd.func81, Tryd.ntmps81
  go_wp2
  go_ret
  exact ⟨rfl, rfl⟩
set_option maxRecDepth 100000 in
set_option maxHeartbeats 400000 in
theorem turned2_any (x : Int) (w : World) (h : w32 x) : Calls Tryd.prog 77 #[.int .u32 x, .int .i64 2] w fun e w' => e = .returned (.int .u32 (ror2 x)) ∧ w = w' := by
  go_enter Tryd.func77, Tryd.ntmps77
  go_wp2_with fail
  refine (rotl2_any x w h).mono ?_
  rintro e w' ⟨rfl, rfl⟩
  go_wp2
  go_ret
  exact ⟨rfl, rfl⟩
set_option maxRecDepth 100000 in
set_option maxHeartbeats 400000 in
theorem turn2_any (x : Int) (w : World) (h : w32 x) : Calls Tryd.prog 53 #[.int .u32 x, .int .i64 2] w fun e w' => e = .returned (.int .u32 (bits .or .u32 (x / 4) (x * 1073741824 % 4294967296))) ∧ ∃ n, w' = w.drewN n := by
  obtain ⟨h0, h1⟩ := h
  go_enter Tryd.func53, Tryd.ntmps53
  go_wp2
  go_quiet (fail)
  go_wp2
  go_ret
  exact ⟨rfl, nq, rfl⟩
def ror6 (x : Int) : Int := rot 67108864 64 x
theorem ror6_w32 {x : Int} (h : w32 x) : w32 (ror6 x) := rot_w32 h (by decide)
set_option maxRecDepth 100000 in
set_option maxHeartbeats 400000 in
theorem rotl6_any (x : Int) (w : World) (h : w32 x) : Calls Tryd.prog 81 #[.int .u32 x, .int .i64 (-6)] w fun e w' => e = .returned (.int .u32 (ror6 x)) ∧ w = w' := by
  obtain ⟨h0, h1⟩ := h
  have hb : bits .and .u64 (IntKind.u64.wrap (-6)) 31 = 26 := by decide +kernel
  go_enter Tryd.func81, Tryd.ntmps81
  go_wp2
  go_ret
  exact ⟨rfl, rfl⟩
set_option maxRecDepth 100000 in
set_option maxHeartbeats 400000 in
theorem turned6_any (x : Int) (w : World) (h : w32 x) : Calls Tryd.prog 77 #[.int .u32 x, .int .i64 6] w fun e w' => e = .returned (.int .u32 (ror6 x)) ∧ w = w' := by
  go_enter Tryd.func77, Tryd.ntmps77
  go_wp2_with fail
  refine (rotl6_any x w h).mono ?_
  rintro e w' ⟨rfl, rfl⟩
  go_wp2
  go_ret
  exact ⟨rfl, rfl⟩
set_option maxRecDepth 100000 in
set_option maxHeartbeats 400000 in
theorem turn6_any (x : Int) (w : World) (h : w32 x) : Calls Tryd.prog 53 #[.int .u32 x, .int .i64 6] w fun e w' => e = .returned (.int .u32 (bits .or .u32 (x / 64) (x * 67108864 % 4294967296))) ∧ ∃ n, w' = w.drewN n := by
  obtain ⟨h0, h1⟩ := h
  go_enter Tryd.func53, Tryd.ntmps53
  go_wp2
  go_quiet (fail)
  go_wp2
  go_ret
  exact ⟨rfl, nq, rfl⟩
def ror7 (x : Int) : Int := rot 33554432 128 x
theorem ror7_w32 {x : Int} (h : w32 x) : w32 (ror7 x) := rot_w32 h (by decide)
set_option maxRecDepth 100000 in
set_option maxHeartbeats 400000 in
theorem rotl7_any (x : Int) (w : World) (h : w32 x) : Calls Tryd.prog 81 #[.int .u32 x, .int .i64 (-7)] w fun e w' => e = .returned (.int .u32 (ror7 x)) ∧ w = w' := by
  obtain ⟨h0, h1⟩ := h
  have hb : bits .and .u64 (IntKind.u64.wrap (-7)) 31 = 25 := by decide +kernel
  go_enter Tryd.func81, Tryd.ntmps81
  go_wp2
  go_ret
  exact ⟨rfl, rfl⟩
set_option maxRecDepth 100000 in
set_option maxHeartbeats 400000 in
theorem turned7_any (x : Int) (w : World) (h : w32 x) : Calls Tryd.prog 77 #[.int .u32 x, .int .i64 7] w fun e w' => e = .returned (.int .u32 (ror7 x)) ∧ w = w' := by
  go_enter Tryd.func77, Tryd.ntmps77
  go_wp2_with fail
  refine (rotl7_any x w h).mono ?_
  rintro e w' ⟨rfl, rfl⟩
  go_wp2
  go_ret
  exact ⟨rfl, rfl⟩
set_option maxRecDepth 100000 in
set_option maxHeartbeats 400000 in
theorem turn7_any (x : Int) (w : World) (h : w32 x) : Calls Tryd.prog 53 #[.int .u32 x, .int .i64 7] w fun e w' => e = .returned (.int .u32 (bits .or .u32 (x / 128) (x * 33554432 % 4294967296))) ∧ ∃ n, w' = w.drewN n := by
  obtain ⟨h0, h1⟩ := h
  go_enter Tryd.func53, Tryd.ntmps53
  go_wp2
  go_quiet (fail)
  go_wp2
  go_ret
  exact ⟨rfl, nq, rfl⟩
def ror11 (x : Int) : Int := rot 2097152 2048 x
theorem ror11_w32 {x : Int} (h : w32 x) : w32 (ror11 x) := rot_w32 h (by decide)
set_option maxRecDepth 100000 in
set_option maxHeartbeats 400000 in
theorem rotl11_any (x : Int) (w : World) (h : w32 x) : Calls Tryd.prog 81 #[.int .u32 x, .int .i64 (-11)] w fun e w' => e = .returned (.int .u32 (ror11 x)) ∧ w = w' := by
  obtain ⟨h0, h1⟩ := h
  have hb : bits .and .u64 (IntKind.u64.wrap (-11)) 31 = 21 := by decide +kernel
  go_enter Tryd.func81, Tryd.ntmps81
  go_wp2
  go_ret
  exact ⟨rfl, rfl⟩
set_option maxRecDepth 100000 in
set_option maxHeartbeats 400000 in
theorem turned11_any (x : Int) (w : World) (h : w32 x) : Calls Tryd.prog 77 #[.int .u32 x, .int .i64 11] w fun e w' => e = .returned (.int .u32 (ror11 x)) ∧ w = w' := by
  go_enter Tryd.func77, Tryd.ntmps77
  go_wp2_with fail
  refine (rotl11_any x w h).mono ?_
  rintro e w' ⟨rfl, rfl⟩
  go_wp2
  go_ret
  exact ⟨rfl, rfl⟩
set_option maxRecDepth 100000 in
set_option maxHeartbeats 400000 in
theorem turn11_any (x : Int) (w : World) (h : w32 x) : Calls Tryd.prog 53 #[.int .u32 x, .int .i64 11] w fun e w' => e = .returned (.int .u32 (bits .or .u32 (x / 2048) (x * 2097152 % 4294967296))) ∧ ∃ n, w' = w.drewN n := by
  obtain ⟨h0, h1⟩ := h
  go_enter Tryd.func53, Tryd.ntmps53
  go_wp2
  go_quiet (fail)
  go_wp2
  go_ret
  exact ⟨rfl, nq, rfl⟩
def ror13 (x : Int) : Int := rot 524288 8192 x
theorem ror13_w32 {x : Int} (h : w32 x) : w32 (ror13 x) := rot_w32 h (by decide)
set_option maxRecDepth 100000 in
set_option maxHeartbeats 400000 in
theorem rotl13_any (x : Int) (w : World) (h : w32 x) : Calls Tryd.prog 81 #[.int .u32 x, .int .i64 (-13)] w fun e w' => e = .returned (.int .u32 (ror13 x)) ∧ w = w' := by
  obtain ⟨h0, h1⟩ := h
  have hb : bits .and .u64 (IntKind.u64.wrap (-13)) 31 = 19 := by decide +kernel
  go_enter Tryd.func81, Tryd.ntmps81
  go_wp2
  go_ret
  exact ⟨rfl, rfl⟩
set_option maxRecDepth 100000 in
set_option maxHeartbeats 400000 in
theorem turned13_any (x : Int) (w : World) (h : w32 x) : Calls Tryd.prog 77 #[.int .u32 x, .int .i64 13] w fun e w' => e = .returned (.int .u32 (ror13 x)) ∧ w = w' := by
  go_enter Tryd.func77, Tryd.ntmps77
  go_wp2_with fail
  refine (rotl13_any x w h).mono ?_
  rintro e w' ⟨rfl, rfl⟩
  go_wp2
  go_ret
  exact ⟨rfl, rfl⟩
set_option maxRecDepth 100000 in
set_option maxHeartbeats 400000 in
theorem turn13_any (x : Int) (w : World) (h : w32 x) : Calls Tryd.prog 53 #[.int .u32 x, .int .i64 13] w fun e w' => e = .returned (.int .u32 (bits .or .u32 (x / 8192) (x * 524288 % 4294967296))) ∧ ∃ n, w' = w.drewN n := by
  obtain ⟨h0, h1⟩ := h
  go_enter Tryd.func53, Tryd.ntmps53
  go_wp2
  go_quiet (fail)
  go_wp2
  go_ret
  exact ⟨rfl, nq, rfl⟩
def ror17 (x : Int) : Int := rot 32768 131072 x
theorem ror17_w32 {x : Int} (h : w32 x) : w32 (ror17 x) := rot_w32 h (by decide)
set_option maxRecDepth 100000 in
set_option maxHeartbeats 400000 in
theorem rotl17_any (x : Int) (w : World) (h : w32 x) : Calls Tryd.prog 81 #[.int .u32 x, .int .i64 (-17)] w fun e w' => e = .returned (.int .u32 (ror17 x)) ∧ w = w' := by
  obtain ⟨h0, h1⟩ := h
  have hb : bits .and .u64 (IntKind.u64.wrap (-17)) 31 = 15 := by decide +kernel
  go_enter Tryd.func81, Tryd.ntmps81
  go_wp2
  go_ret
  exact ⟨rfl, rfl⟩
set_option maxRecDepth 100000 in
set_option maxHeartbeats 400000 in
theorem turned17_any (x : Int) (w : World) (h : w32 x) : Calls Tryd.prog 77 #[.int .u32 x, .int .i64 17] w fun e w' => e = .returned (.int .u32 (ror17 x)) ∧ w = w' := by
  go_enter Tryd.func77, Tryd.ntmps77
  go_wp2_with fail
  refine (rotl17_any x w h).mono ?_
  rintro e w' ⟨rfl, rfl⟩
  go_wp2
  go_ret
  exact ⟨rfl, rfl⟩
set_option maxRecDepth 100000 in
set_option maxHeartbeats 400000 in
theorem turn17_any (x : Int) (w : World) (h : w32 x) : Calls Tryd.prog 53 #[.int .u32 x, .int .i64 17] w fun e w' => e = .returned (.int .u32 (bits .or .u32 (x / 131072) (x * 32768 % 4294967296))) ∧ ∃ n, w' = w.drewN n := by
  obtain ⟨h0, h1⟩ := h
  go_enter Tryd.func53, Tryd.ntmps53
  go_wp2
  go_quiet (fail)
  go_wp2
  go_ret
  exact ⟨rfl, nq, rfl⟩
def ror18 (x : Int) : Int := rot 16384 262144 x
theorem ror18_w32 {x : Int} (h : w32 x) : w32 (ror18 x) := rot_w32 h (by decide)
set_option maxRecDepth 100000 in
set_option maxHeartbeats 400000 in
theorem rotl18_any (x : Int) (w : World) (h : w32 x) : Calls Tryd.prog 81 #[.int .u32 x, .int .i64 (-18)] w fun e w' => e = .returned (.int .u32 (ror18 x)) ∧ w = w' := by
  obtain ⟨h0, h1⟩ := h
  have hb : bits .and .u64 (IntKind.u64.wrap (-18)) 31 = 14 := by decide +kernel
  go_enter Tryd.func81, Tryd.ntmps81
  go_wp2
  go_ret
  exact ⟨rfl, rfl⟩
set_option maxRecDepth 100000 in
set_option maxHeartbeats 400000 in
theorem turned18_any (x : Int) (w : World) (h : w32 x) : Calls Tryd.prog 77 #[.int .u32 x, .int .i64 18] w fun e w' => e = .returned (.int .u32 (ror18 x)) ∧ w = w' := by
  go_enter Tryd.func77, Tryd.ntmps77
  go_wp2_with fail
  refine (rotl18_any x w h).mono ?_
  rintro e w' ⟨rfl, rfl⟩
  go_wp2
  go_ret
  exact ⟨rfl, rfl⟩
set_option maxRecDepth 100000 in
set_option maxHeartbeats 400000 in
theorem turn18_any (x : Int) (w : World) (h : w32 x) : Calls Tryd.prog 53 #[.int .u32 x, .int .i64 18] w fun e w' => e = .returned (.int .u32 (bits .or .u32 (x / 262144) (x * 16384 % 4294967296))) ∧ ∃ n, w' = w.drewN n := by
  obtain ⟨h0, h1⟩ := h
  go_enter Tryd.func53, Tryd.ntmps53
  go_wp2
  go_quiet (fail)
  go_wp2
  go_ret
  exact ⟨rfl, nq, rfl⟩
def ror19 (x : Int) : Int := rot 8192 524288 x
theorem ror19_w32 {x : Int} (h : w32 x) : w32 (ror19 x) := rot_w32 h (by decide)
set_option maxRecDepth 100000 in
set_option maxHeartbeats 400000 in
theorem rotl19_any (x : Int) (w : World) (h : w32 x) : Calls Tryd.prog 81 #[.int .u32 x, .int .i64 (-19)] w fun e w' => e = .returned (.int .u32 (ror19 x)) ∧ w = w' := by
  obtain ⟨h0, h1⟩ := h
  have hb : bits .and .u64 (IntKind.u64.wrap (-19)) 31 = 13 := by decide +kernel
  go_enter Tryd.func81, Tryd.ntmps81
  go_wp2
  go_ret
  exact ⟨rfl, rfl⟩
set_option maxRecDepth 100000 in
set_option maxHeartbeats 400000 in
theorem turned19_any (x : Int) (w : World) (h : w32 x) : Calls Tryd.prog 77 #[.int .u32 x, .int .i64 19] w fun e w' => e = .returned (.int .u32 (ror19 x)) ∧ w = w' := by
  go_enter Tryd.func77, Tryd.ntmps77
  go_wp2_with fail
  refine (rotl19_any x w h).mono ?_
  rintro e w' ⟨rfl, rfl⟩
  go_wp2
  go_ret
  exact ⟨rfl, rfl⟩
set_option maxRecDepth 100000 in
set_option maxHeartbeats 400000 in
theorem turn19_any (x : Int) (w : World) (h : w32 x) : Calls Tryd.prog 53 #[.int .u32 x, .int .i64 19] w fun e w' => e = .returned (.int .u32 (bits .or .u32 (x / 524288) (x * 8192 % 4294967296))) ∧ ∃ n, w' = w.drewN n := by
  obtain ⟨h0, h1⟩ := h
  go_enter Tryd.func53, Tryd.ntmps53
  go_wp2
  go_quiet (fail)
  go_wp2
  go_ret
  exact ⟨rfl, nq, rfl⟩
def ror22 (x : Int) : Int := rot 1024 4194304 x
theorem ror22_w32 {x : Int} (h : w32 x) : w32 (ror22 x) := rot_w32 h (by decide)
set_option maxRecDepth 100000 in
set_option maxHeartbeats 400000 in
theorem rotl22_any (x : Int) (w : World) (h : w32 x) : Calls Tryd.prog 81 #[.int .u32 x, .int .i64 (-22)] w fun e w' => e = .returned (.int .u32 (ror22 x)) ∧ w = w' := by
  obtain ⟨h0, h1⟩ := h
  have hb : bits .and .u64 (IntKind.u64.wrap (-22)) 31 = 10 := by decide +kernel
  go_enter Tryd.func81, Tryd.ntmps81
  go_wp2
  go_ret
  exact ⟨rfl, rfl⟩
set_option maxRecDepth 100000 in
set_option maxHeartbeats 400000 in
theorem turned22_any (x : Int) (w : World) (h : w32 x) : Calls Tryd.prog 77 #[.int .u32 x, .int .i64 22] w fun e w' => e = .returned (.int .u32 (ror22 x)) ∧ w = w' := by
  go_enter Tryd.func77, Tryd.ntmps77
  go_wp2_with fail
  refine (rotl22_any x w h).mono ?_
  rintro e w' ⟨rfl, rfl⟩
  go_wp2
  go_ret
  exact ⟨rfl, rfl⟩
set_option maxRecDepth 100000 in
set_option maxHeartbeats 400000 in
theorem turn22_any (x : Int) (w : World) (h : w32 x) : Calls Tryd.prog 53 #[.int .u32 x, .int .i64 22] w fun e w' => e = .returned (.int .u32 (bits .or .u32 (x / 4194304) (x * 1024 % 4294967296))) ∧ ∃ n, w' = w.drewN n := by
  obtain ⟨h0, h1⟩ := h
  go_enter Tryd.func53, Tryd.ntmps53
  go_wp2
  go_quiet (fail)
  go_wp2
  go_ret
  exact ⟨rfl, nq, rfl⟩
def ror25 (x : Int) : Int := rot 128 33554432 x
theorem ror25_w32 {x : Int} (h : w32 x) : w32 (ror25 x) := rot_w32 h (by decide)
set_option maxRecDepth 100000 in
set_option maxHeartbeats 400000 in
theorem rotl25_any (x : Int) (w : World) (h : w32 x) : Calls Tryd.prog 81 #[.int .u32 x, .int .i64 (-25)] w fun e w' => e = .returned (.int .u32 (ror25 x)) ∧ w = w' := by
  obtain ⟨h0, h1⟩ := h
  have hb : bits .and .u64 (IntKind.u64.wrap (-25)) 31 = 7 := by decide +kernel
  go_enter Tryd.func81, Tryd.ntmps81
  go_wp2
  go_ret
  exact ⟨rfl, rfl⟩
set_option maxRecDepth 100000 in
set_option maxHeartbeats 400000 in
theorem turned25_any (x : Int) (w : World) (h : w32 x) : Calls Tryd.prog 77 #[.int .u32 x, .int .i64 25] w fun e w' => e = .returned (.int .u32 (ror25 x)) ∧ w = w' := by
  go_enter Tryd.func77, Tryd.ntmps77
  go_wp2_with fail
  refine (rotl25_any x w h).mono ?_
  rintro e w' ⟨rfl, rfl⟩
  go_wp2
  go_ret
  exact ⟨rfl, rfl⟩
set_option maxRecDepth 100000 in
set_option maxHeartbeats 400000 in
theorem turn25_any (x : Int) (w : World) (h : w32 x) : Calls Tryd.prog 53 #[.int .u32 x, .int .i64 25] w fun e w' => e = .returned (.int .u32 (bits .or .u32 (x / 33554432) (x * 128 % 4294967296))) ∧ ∃ n, w' = w.drewN n := by
  obtain ⟨h0, h1⟩ := h
  go_enter Tryd.func53, Tryd.ntmps53
  go_wp2
  go_quiet (fail)
  go_wp2
  go_ret
  exact ⟨rfl, nq, rfl⟩
theorem or_comm32 {x y : Int} (hx : w32 x) (hy : w32 y) : bits .or .u32 x y = bits .or .u32 y x := by
  rw [u32_or x y hx.1 hx.2 hy.1 hy.2, u32_or y x hy.1 hy.2 hx.1 hx.2, Nat.or_comm]
end Go.Proofs.YtbolfkigiachlaaDoor

/-
  SHA-256: s0, s1, S0, S1 and a round: contracts. Own work.
-/
namespace Go.Proofs.YtbolfkigiachlaaDoor
open Go.RowKit
def sg_s0 (x : Int) : Int := bits .xor .u32 (bits .xor .u32 (ror7 x) (ror18 x)) (x / 8)
theorem sg_s0_eq (x : Int) : sg_s0 x = bits .xor .u32 (bits .xor .u32 (ror7 x) (ror18 x)) (x / 8) := rfl
theorem sg_s0_w32 {x : Int} (h : w32 x) : w32 (sg_s0 x) := xor_w32 (xor_w32 (ror7_w32 h) (ror18_w32 h)) (div_w32 h (by decide))
set_option maxRecDepth 100000 in
set_option maxHeartbeats 400000 in
theorem s0_any (x : Int) (w : World) (h : w32 x) : Calls Tryd.prog 70 #[.int .u32 x] w fun e w' => e = .returned (.int .u32 (sg_s0 x)) ∧ w = w' := by
  have h' := h
  obtain ⟨h0, h1⟩ := h
  go_enter Tryd.func70, Tryd.ntmps70
  go_wp2_with fail
  refine (turned7_any x w h').mono ?_
  rintro e w' ⟨rfl, rfl⟩
  go_wp2_with fail
  refine (turned18_any x w h').mono ?_
  rintro e w' ⟨rfl, rfl⟩
  have g1 := ror7_w32 h'
  have g2 := ror18_w32 h'
  have Hd := hide (sg_s0_eq x)
  generalize ror7 x = y at *
  generalize ror18 x = z at *
  go_wp2
  go_ret
  exact ⟨by rw [Hd.out]; rfl, rfl⟩
def sg_s1 (x : Int) : Int := bits .xor .u32 (bits .xor .u32 (ror17 x) (ror19 x)) (x / 1024)
theorem sg_s1_eq (x : Int) : sg_s1 x = bits .xor .u32 (bits .xor .u32 (ror17 x) (ror19 x)) (x / 1024) := rfl
theorem sg_s1_w32 {x : Int} (h : w32 x) : w32 (sg_s1 x) := xor_w32 (xor_w32 (ror17_w32 h) (ror19_w32 h)) (div_w32 h (by decide))
set_option maxRecDepth 100000 in
set_option maxHeartbeats 400000 in
theorem s1_any (x : Int) (w : World) (h : w32 x) : Calls Tryd.prog 69 #[.int .u32 x] w fun e w' => e = .returned (.int .u32 (sg_s1 x)) ∧ w = w' := by
  have h' := h
  obtain ⟨h0, h1⟩ := h
  go_enter Tryd.func69, Tryd.ntmps69
  go_wp2_with fail
  refine (turned17_any x w h').mono ?_
  rintro e w' ⟨rfl, rfl⟩
  go_wp2_with fail
  refine (turned19_any x w h').mono ?_
  rintro e w' ⟨rfl, rfl⟩
  have g1 := ror17_w32 h'
  have g2 := ror19_w32 h'
  have Hd := hide (sg_s1_eq x)
  generalize ror17 x = y at *
  generalize ror19 x = z at *
  go_wp2
  go_ret
  exact ⟨by rw [Hd.out]; rfl, rfl⟩
def sg_bigS0 (x : Int) : Int := bits .xor .u32 (bits .xor .u32 (ror2 x) (ror13 x)) (ror22 x)
theorem sg_bigS0_eq (x : Int) : sg_bigS0 x = bits .xor .u32 (bits .xor .u32 (ror2 x) (ror13 x)) (ror22 x) := rfl
theorem sg_bigS0_w32 {x : Int} (h : w32 x) : w32 (sg_bigS0 x) := xor_w32 (xor_w32 (ror2_w32 h) (ror13_w32 h)) (ror22_w32 h)
set_option maxRecDepth 100000 in
set_option maxHeartbeats 400000 in
theorem bigS0_any (x : Int) (w : World) (h : w32 x) : Calls Tryd.prog 72 #[.int .u32 x] w fun e w' => e = .returned (.int .u32 (sg_bigS0 x)) ∧ w = w' := by
  have h' := h
  obtain ⟨h0, h1⟩ := h
  go_enter Tryd.func72, Tryd.ntmps72
  go_wp2_with fail
  refine (turned2_any x w h').mono ?_
  rintro e w' ⟨rfl, rfl⟩
  go_wp2_with fail
  refine (turned13_any x w h').mono ?_
  rintro e w' ⟨rfl, rfl⟩
  go_wp2_with fail
  refine (turned22_any x w h').mono ?_
  rintro e w' ⟨rfl, rfl⟩
  have Hd := hide (sg_bigS0_eq x)
  generalize ror2 x = y at *
  generalize ror13 x = z at *
  generalize ror22 x = u at *
  go_wp2
  go_ret
  exact ⟨by rw [Hd.out]; rfl, rfl⟩
def sg_bigS1 (x : Int) : Int := bits .xor .u32 (bits .xor .u32 (ror6 x) (ror11 x)) (ror25 x)
theorem sg_bigS1_eq (x : Int) : sg_bigS1 x = bits .xor .u32 (bits .xor .u32 (ror6 x) (ror11 x)) (ror25 x) := rfl
theorem sg_bigS1_w32 {x : Int} (h : w32 x) : w32 (sg_bigS1 x) := xor_w32 (xor_w32 (ror6_w32 h) (ror11_w32 h)) (ror25_w32 h)
set_option maxRecDepth 100000 in
set_option maxHeartbeats 400000 in
theorem bigS1_any (x : Int) (w : World) (h : w32 x) : Calls Tryd.prog 71 #[.int .u32 x] w fun e w' => e = .returned (.int .u32 (sg_bigS1 x)) ∧ w = w' := by
  have h' := h
  obtain ⟨h0, h1⟩ := h
  go_enter Tryd.func71, Tryd.ntmps71
  go_wp2_with fail
  refine (turned6_any x w h').mono ?_
  rintro e w' ⟨rfl, rfl⟩
  go_wp2_with fail
  refine (turned11_any x w h').mono ?_
  rintro e w' ⟨rfl, rfl⟩
  go_wp2_with fail
  refine (turned25_any x w h').mono ?_
  rintro e w' ⟨rfl, rfl⟩
  have Hd := hide (sg_bigS1_eq x)
  generalize ror6 x = y at *
  generalize ror11 x = z at *
  generalize ror25 x = u at *
  go_wp2
  go_ret
  exact ⟨by rw [Hd.out]; rfl, rfl⟩
def chF (e f g : Int) : Int := bits .xor .u32 (bits .and .u32 e f) (bits .and .u32 (bits .xor .u32 4294967295 e) g)
def mjF (a b c : Int) : Int := bits .xor .u32 (bits .xor .u32 (bits .and .u32 a b) (bits .and .u32 a c)) (bits .and .u32 b c)
theorem chF_w32 {e f g : Int} (he : w32 e) (hf : w32 f) (hg : w32 g) : w32 (chF e f g) := xor_w32 (and_w32 he hf) (and_w32 (xor_w32 ⟨by decide, by decide⟩ he) hg)
theorem mjF_w32 {e f g : Int} (he : w32 e) (hf : w32 f) (hg : w32 g) : w32 (mjF e f g) := xor_w32 (xor_w32 (and_w32 he hf) (and_w32 he hg)) (and_w32 hf hg)
def tS (e f g h x : Int) : Int := h + sg_bigS1 e + chF e f g + x
def uS (a b c : Int) : Int := sg_bigS0 a + mjF a b c
/-- The state behind a round. -/
def rndL (a b c d e f g h x : Int) : List Int := [(tS e f g h x + uS a b c) % 4294967296, a, b, c, (d + tS e f g h x) % 4294967296, e, f, g]
theorem all_one (us : List Value) (h : us.all (·.oneCell') = true) : ∀ u ∈ us, u.oneCell' = true := fun u hu => List.all_eq_true.1 h u hu
theorem zero8u : (Tryd.prog.info? 86).map (fun i => i.zero) = some (some (.agg (vk .u32 (List.replicate 8 0)).toArray)) := by kernel_rfl
theorem size8 {xs : List Int} (h : xs.length = 8) : (Tryd.prog.info? 86).map (·.size) = some (vk .u32 xs).length := by rw [vk_len, h]; kernel_rfl
theorem bSt (a b c d e f g h : Int) : Tryd.prog.built 86 [(0, .int .u32 a), (1, .int .u32 b), (2, .int .u32 c), (3, .int .u32 d), (4, .int .u32 e), (5, .int .u32 f), (6, .int .u32 g), (7, .int .u32 h)] = some (vk .u32 [a, b, c, d, e, f, g, h]).toArray := by kernel_rfl
set_option maxRecDepth 100000 in
set_option maxHeartbeats 2000000 in
theorem round_any (a b c d e f g h x : Int) (w : World) (ha : w32 a) (hb : w32 b) (hc : w32 c) (hd : w32 d) (he : w32 e) (hf : w32 f) (hg : w32 g) (hh : w32 h) (hx : w32 x) :
    Calls Tryd.prog 64 #[.agg (vk .u32 [a, b, c, d, e, f, g, h]).toArray, .int .u32 x] w fun en w' => en = .returned (.agg (vk .u32 (rndL a b c d e f g h x)).toArray) ∧ Below w.heap.size w w' := by
  have HS1 := fun w => bigS1_any e w he
  have HS0 := fun w => bigS0_any a w ha
  have k1 := sg_bigS1_w32 he
  have k0 := sg_bigS0_w32 ha
  have hdef : rndL a b c d e f g h x = [(h + sg_bigS1 e + chF e f g + x + (sg_bigS0 a + mjF a b c)) % 4294967296, a, b, c, (d + (h + sg_bigS1 e + chF e f g + x)) % 4294967296, e, f, g] := rfl
  have Hd := hide hdef
  clear hdef
  obtain ⟨a0, a1⟩ := ha
  obtain ⟨e0, e1⟩ := he
  generalize sg_bigS1 e = S1 at *
  generalize sg_bigS0 a = S0 at *
  go_enter Tryd.func64, Tryd.ntmps64
  go_wp2_with (first
    | (with_reducible refine wl_box rfl 86 (.tmp 0) _ (vk .u32 [a, b, c, d, e, f, g, h]) rfl rfl rfl ?_; intro g1 w1 r1 p1 l1 b1)
    | (with_reducible refine wl_alloc rfl 86 _ (vk .u32 (List.replicate 8 0)) rfl zero8u rfl ?_; intro g2 w2 r2 p2 l2 b2; have r1' := r1.later b2))
  have c0 := r1'.cell (j := 0) rfl
  have c1 := r1'.cell (j := 1) rfl
  have c2 := r1'.cell (j := 2) rfl
  have c3 := r1'.cell (j := 3) rfl
  have c4 := r1'.cell (j := 4) rfl
  have c5 := r1'.cell (j := 5) rfl
  have c6 := r1'.cell (j := 6) rfl
  have c7 := r1'.cell (j := 7) rfl
  have B2 := b1.trans (b2.mono b1.size)
  have b1s := b1.size
  go_quiet (fail)
  have r2' := r2.drewN nq
  have B3 := below_drewn B2 nq
  clear r1 r1' c0 c1 c2 c3 c4 c5 c6 c7 r2 b1 b2 B2
  generalize w2.drewN nq = w3 at *
  go_wp2_with fail
  refine (HS1 w3).mono ?_
  rintro en w' ⟨rfl, rfl⟩
  go_wp2_with fail
  refine (HS0 w3).mono ?_
  rintro en w' ⟨rfl, rfl⟩
  clear HS1 HS0
  go_wp2_with (first
    | (refine wl_store_row rfl 86 (.tmp 4) (.tmp 72) g2 86 _ _ rfl rfl rfl r2' (by kernel_rfl) rfl (all_one _ rfl) ?_; intro w4 r4 o4))
  rw [Hd.out]
  refine bodyPost_ret ?_ rfl ⟨rfl, ?_⟩
  · exact results_cell_row Tryd.results64 _ _ g2 86 _ (0, 0) _ rfl r4 Tryd.underlying86 rfl (by kernel_rfl)
  · exact B3.trans (o4.below (Nat.le_trans b1s p2))
end Go.Proofs.YtbolfkigiachlaaDoor

/-
  Pack for SHA-256: numbers laid, bytes joined: contracts. Own work.
-/
namespace Go.Proofs.YtbolfkigiachlaaDoor
open Go.RowKit
set_option maxRecDepth 100000 in
set_option maxHeartbeats 400000 in
theorem len64_32 (w : World) : Calls Tryd.prog 62 #[.int .u64 4294967295] w fun e w' => e = .returned (.int .i64 32) ∧ w = w' := by
  go_enter Tryd.func62, Tryd.ntmps62
  go_wp2
  go_ret
  exact ⟨by kernel_rfl, rfl⟩
set_option maxRecDepth 100000 in
set_option maxHeartbeats 400000 in
theorem len64_64 (w : World) : Calls Tryd.prog 62 #[.int .u64 18446744073709551615] w fun e w' => e = .returned (.int .i64 64) ∧ w = w' := by
  go_enter Tryd.func62, Tryd.ntmps62
  go_wp2
  go_ret
  exact ⟨by kernel_rfl, rfl⟩
set_option maxRecDepth 100000 in
theorem width32_any (w : World) : Calls Tryd.prog 79 #[] w fun e w' => e = .returned (.int .i64 4) ∧ w = w' := by
  go_enter Tryd.func79, Tryd.ntmps79
  go_wp2_with (go_at_call 62; refine (len64_32 _).mono ?_; rintro e w' ⟨rfl, rfl⟩)
  go_ret
  exact ⟨rfl, rfl⟩
set_option maxRecDepth 100000 in
theorem width64_any (w : World) : Calls Tryd.prog 78 #[] w fun e w' => e = .returned (.int .i64 8) ∧ w = w' := by
  go_enter Tryd.func78, Tryd.ntmps78
  go_wp2_with (go_at_call 62; refine (len64_64 _).mono ?_; rintro e w' ⟨rfl, rfl⟩)
  go_ret
  exact ⟨rfl, rfl⟩
set_option maxHeartbeats 400000 in
set_option maxRecDepth 100000 in
theorem high_any (x : Int) (n : Nat) (w : World) (h0 : 0 ≤ x) (h1 : x < 18446744073709551616) (hn : n ≤ 8) :
    Calls Tryd.prog 52 #[.int .u64 x, .int .i64 (n : Int)] w (RetBs (highB x n) w) := by
  obtain ⟨i0, hi, hz, hsz, hby⟩ := u8_info
  go_enter Tryd.func52, Tryd.ntmps52
  go_wp2_with (refine wpList_make_bs rfl _ _ _ rfl 5 i0 Tryd.underlying22 hi hz hsz hby n rfl rfl (by omega) ?_; intro w1 hown hs1 hb1)
  go_loopw [0, 6] (fun y i wr => ∃ k : Nat, k ≤ n ∧ i = .int .i64 k ∧ y = .int .u64 (x / 256 ^ k) ∧ Own wr 5 w.heap.size (List.replicate (n - k) 0 ++ highB x k) ∧ Below w.heap.size w wr) (fun _ i _ => n - (intOf i).toNat)
  case atStart => exact ⟨0, Nat.zero_le _, rfl, by simp, by simpa [highB, lowB] using hown, hb1⟩
  case round =>
    obtain ⟨k, hk, rfl, rfl, hown, hb⟩ := hrel
    have p0 := div_pow_nonneg h0 k
    have p1 : x / 256 ^ k < 18446744073709551616 := by have := div_pow_le h0 k; omega
    by_cases hlt : k < n
    · have hc := hown.cell (j := n - 1 - k) (by simp [highB_length]; omega)
      have hf := hown.frozen (n - 1 - k)
      have hs := hown.set (n - 1 - k) (x / 256 ^ k % 256)
      have he := set_high hlt (highB x k) (x / 256 ^ k % 256) []
      rw [List.nil_append, List.nil_append, List.length_nil, Nat.zero_add] at he
      rw [he, ← highB_cons] at hs
      have HS := hide hs
      clear hs he
      go_wp2
      go_roundw
      case rel => exact ⟨k + 1, by omega, by go_num, by rw [div_pow_succ], HS.out, hb.setCell (Nat.le_refl _) _⟩
      case measure => simp [intOf]; omega
    · go_wp2
      go_ret
      obtain rfl : k = n := by omega
      exact ret_own hown hb (by simp) (by simp [highB_length]) (Nat.le_refl _) (by simp only [maxLen]; omega)
set_option maxHeartbeats 400000 in
set_option maxRecDepth 100000 in
theorem lay32_high (A : Option Addr) (m c : Nat) (xs : List Int) (x : Int) (w : World) (h : Bs w w.heap.size A m xs) (hm : m ≤ 1000000) (h0 : 0 ≤ x) (h1 : x < 2 ^ 32) :
    Calls Tryd.prog 74 #[.slice A m c, .int .u32 x, .bool false] w (RetBs (xs ++ highB x 4) w) := by
  obtain ⟨i0, hi, hz, hsz, hby⟩ := u8_info
  go_enter Tryd.func74, Tryd.ntmps74
  go_wp2_with (first
    | (go_at_call 79; refine (width32_any _).mono ?_; rintro e w' ⟨rfl, rfl⟩)
    | (refine wpList_make_bs rfl _ _ _ rfl 5 i0 Tryd.underlying22 hi hz hsz hby (m + 4) rfl rfl (by omega) ?_; intro w1 hown hs1 hb1)
    | (refine wpList_copy_bs rfl (.tmp 17) (.tmp 18) _ _ rfl 5 Tryd.underlying22 u8_size w.heap.size 0 _ _ m c A rfl rfl _ xs 5 w.heap.size hown (h.below hb1) (by omega) (by rw [List.length_replicate]; omega) w.heap.size w hb1 (Nat.le_refl _) ?_; intro w2 hown2 hb2))
  go_loopw [21] (fun i wr => ∃ k : Nat, k ≤ 4 ∧ i = .int .i64 k ∧ Own wr 5 w.heap.size (xs ++ (List.replicate (4 - k) 0 ++ highB x k)) ∧ Below w.heap.size w wr) (fun i _ => 4 - (intOf i).toNat)
  case atStart => exact ⟨0, Nat.zero_le _, rfl, by simpa [highB, lowB, h.1] using hown2, hb2⟩
  case round =>
    obtain ⟨k, hk, rfl, hown, hb⟩ := hrel
    by_cases hlt : k < 4
    · have hc := hown.cell (j := m + 3 - k) (by simp [highB_length, h.1]; omega)
      have hf := hown.frozen (m + 3 - k)
      have hs := hown.set (m + 3 - k) (x / 2 ^ (8 * k) % 256)
      have he := set_high hlt (highB x k) (x / 2 ^ (8 * k) % 256) xs
      rw [h.1, show m + (4 - 1 - k) = m + 3 - k from by omega] at he
      rw [he, ← pow256_two, ← highB_cons, pow256_two] at hs
      have HS := hide hs
      clear hs he
      go_wp2
      go_roundw
      case rel => exact ⟨k + 1, by omega, by go_num, HS.out, hb.setCell (Nat.le_refl _) _⟩
      case measure => simp [intOf]; omega
    · go_wp2
      go_ret
      obtain rfl : k = 4 := by omega
      exact ret_own hown hb (by simp) (by simp [highB_length, h.1]) (Nat.le_refl _) (by simp only [maxLen]; omega)
set_option maxHeartbeats 400000 in
set_option maxRecDepth 100000 in
theorem lay64_high (A : Option Addr) (m c : Nat) (xs : List Int) (x : Int) (w : World) (h : Bs w w.heap.size A m xs) (hm : m ≤ 1000000) (h0 : 0 ≤ x) (h1 : x < 2 ^ 64) :
    Calls Tryd.prog 73 #[.slice A m c, .int .u64 x, .bool false] w (RetBs (xs ++ highB x 8) w) := by
  obtain ⟨i0, hi, hz, hsz, hby⟩ := u8_info
  go_enter Tryd.func73, Tryd.ntmps73
  go_wp2_with (first
    | (go_at_call 78; refine (width64_any _).mono ?_; rintro e w' ⟨rfl, rfl⟩)
    | (refine wpList_make_bs rfl _ _ _ rfl 5 i0 Tryd.underlying22 hi hz hsz hby (m + 8) rfl rfl (by omega) ?_; intro w1 hown hs1 hb1)
    | (refine wpList_copy_bs rfl (.tmp 17) (.tmp 18) _ _ rfl 5 Tryd.underlying22 u8_size w.heap.size 0 _ _ m c A rfl rfl _ xs 5 w.heap.size hown (h.below hb1) (by omega) (by rw [List.length_replicate]; omega) w.heap.size w hb1 (Nat.le_refl _) ?_; intro w2 hown2 hb2))
  go_loopw [21] (fun i wr => ∃ k : Nat, k ≤ 8 ∧ i = .int .i64 k ∧ Own wr 5 w.heap.size (xs ++ (List.replicate (8 - k) 0 ++ highB x k)) ∧ Below w.heap.size w wr) (fun i _ => 8 - (intOf i).toNat)
  case atStart => exact ⟨0, Nat.zero_le _, rfl, by simpa [highB, lowB, h.1] using hown2, hb2⟩
  case round =>
    obtain ⟨k, hk, rfl, hown, hb⟩ := hrel
    by_cases hlt : k < 8
    · have hc := hown.cell (j := m + 7 - k) (by simp [highB_length, h.1]; omega)
      have hf := hown.frozen (m + 7 - k)
      have hs := hown.set (m + 7 - k) (x / 2 ^ (8 * k) % 256)
      have he := set_high hlt (highB x k) (x / 2 ^ (8 * k) % 256) xs
      rw [h.1, show m + (8 - 1 - k) = m + 7 - k from by omega] at he
      rw [he, ← pow256_two, ← highB_cons, pow256_two] at hs
      have HS := hide hs
      clear hs he
      go_wp2
      go_roundw
      case rel => exact ⟨k + 1, by omega, by go_num, HS.out, hb.setCell (Nat.le_refl _) _⟩
      case measure => simp [intOf]; omega
    · go_wp2
      go_ret
      obtain rfl : k = 8 := by omega
      exact ret_own hown hb (by simp) (by simp [highB_length, h.1]) (Nat.le_refl _) (by simp only [maxLen]; omega)
set_option maxRecDepth 100000 in
theorem put32_any (A : Option Addr) (m c : Nat) (xs : List Int) (x : Int) (w : World) (h : Bs w w.heap.size A m xs) (hm : m ≤ 1000000) (h0 : 0 ≤ x) (h1 : x < 2 ^ 32) :
    Calls Tryd.prog 66 #[.slice A m c, .int .u32 x] w (RetBs (xs ++ highB x 4) w) := by
  go_enter Tryd.func66, Tryd.ntmps66
  go_wp2_with (go_at_call 74; refine (lay32_high A m c xs x _ h hm h0 h1).mono ?_; rintro e w1 ⟨A1, n1, c1, rfl, hb, hn, hc, hl⟩)
  go_ret
  exact ⟨A1, n1, c1, rfl, hb, hn, hc, hl⟩
set_option maxRecDepth 100000 in
theorem put64_any (A : Option Addr) (m c : Nat) (xs : List Int) (x : Int) (w : World) (h : Bs w w.heap.size A m xs) (hm : m ≤ 1000000) (h0 : 0 ≤ x) (h1 : x < 2 ^ 64) :
    Calls Tryd.prog 65 #[.slice A m c, .int .u64 x] w (RetBs (xs ++ highB x 8) w) := by
  go_enter Tryd.func65, Tryd.ntmps65
  go_wp2_with (go_at_call 73; refine (lay64_high A m c xs x _ h hm h0 h1).mono ?_; rintro e w1 ⟨A1, n1, c1, rfl, hb, hn, hc, hl⟩)
  go_ret
  exact ⟨A1, n1, c1, rfl, hb, hn, hc, hl⟩
set_option maxHeartbeats 800000 in
set_option maxRecDepth 100000 in
theorem join_any (A : Option Addr) (m c : Nat) (xss : List (List Int)) (w : World) (h : Bss w w.heap.size A m xss) (hm : m ≤ 1000000) (hs : sumLen xss m ≤ 140737488355328) :
    Calls Tryd.prog 45 #[.slice A m c] w (RetBs xss.flatten w) := by
  obtain ⟨i0, hi, hz, hsz, hby⟩ := u8_info
  have hlen := h.1
  have HL := hide hlen
  clear hlen
  go_enter Tryd.func45, Tryd.ntmps45
  go_wp2
  go_loop [3, 11] (fun s i => ∃ k : Nat, k ≤ m ∧ i = .int .i64 k ∧ s = .int .i64 (sumLen xss k)) (fun _ i => m - (intOf i).toNat)
  case atStart => exact ⟨0, Nat.zero_le _, rfl, rfl⟩
  case round =>
    obtain ⟨k, hk, rfl, rfl⟩ := hrel
    have hle := sumLen_le xss k
    rw [HL.out] at hle
    by_cases hlt : k < m
    · obtain ⟨b, o, rfl, hb, hc⟩ := h.2 (by omega)
      obtain ⟨A', n', c', hcell, hbs⟩ := hc k hlt
      have hsu := sumLen_succ xss k (by rw [HL.out]; exact hlt)
      rw [hbs.1] at hsu
      have hle2 := sumLen_le xss (k + 1)
      rw [HL.out] at hle2
      have hb2 : sumLen xss k + n' ≤ 140737488355328 := by omega
      have HS := hide hsu
      clear hsu hle2 hc
      go_wp2
      go_round
      case rel => exact ⟨k + 1, by omega, by go_num, by rw [HS.out]; go_num⟩
      case measure => simp [intOf]; omega
    · obtain rfl : k = m := by omega
      go_wp2_with (refine wpList_make0_bs rfl _ _ _ rfl 5 i0 Tryd.underlying22 hi hz hsz hby (sumLen xss k) rfl rfl hs ?_; intro w1 hown1 hb1)
      go_loopw [6, 24] (fun v i wr => ∃ j : Nat, j ≤ k ∧ i = .int .i64 j ∧ wr.ownsRow w.heap.size 5 1 v (sumLen xss j) (bv (xss.take j).flatten) ∧ Below w.heap.size w wr) (fun _ i _ => k - (intOf i).toNat)
      case atStart => exact ⟨0, Nat.zero_le _, rfl, by simpa [sumLen] using hown1, hb1⟩
      case round =>
        obtain ⟨j, hj, rfl, hown, hbr⟩ := hrel
        by_cases hjl : j < k
        · obtain ⟨b, o, rfl, hb, hc⟩ := h.2 (by omega)
          obtain ⟨A', n', c', hcell, hbs⟩ := hc j hjl
          have hcell' := (hbr.cell (p := ⟨b, o + j, none⟩) hb).trans hcell
          have hsu := sumLen_succ xss j (by rw [HL.out]; exact hjl)
          have htf := take_flat xss j (by rw [HL.out]; exact hjl)
          rw [hbs.1] at hsu
          have hle2 := sumLen_le xss (j + 1)
          rw [HL.out] at hle2
          have hb2 : sumLen xss j + n' ≤ 140737488355328 := by omega
          have HS := hide hsu
          have HT := hide htf
          clear hsu htf hle2 hc hcell
          go_wp2_with (at_builtin; refine wpList_append_bs rfl (.tmp 28) (.tmp 29) _ rfl w.heap.size 5 i0 Tryd.underlying22 hi hz hsz hby _ (sumLen xss j) (xss.take j).flatten rfl hown w.heap.size A' n' c' (xss.getD j []) rfl (hbs.below hbr) hb2 hbr.size ?_; intro v1 w2 hown1 hg1)
          have hb3 := grown_below hbr hown (Nat.le_refl _) hg1
          go_roundw
          case rel => exact ⟨j + 1, by omega, by go_num, by rw [HS.out, HT.out]; exact hown1, hb3⟩
          case measure => simp [intOf]; omega
        · obtain rfl : j = k := by omega
          go_wp2
          go_ret
          exact ret_owns hown hbr (by rw [List.take_of_length_le (by rw [HL.out]; exact Nat.le_refl _)])
set_option maxRecDepth 100000 in
theorem both_own (A B : Option Addr) (n m c d : Nat) (xs ys : List Int) (w : World) (h1 : Bs w w.heap.size A n xs) (h2 : Bs w w.heap.size B m ys) (hn : n + m ≤ 140737488355328) :
    Calls Tryd.prog 39 #[.slice A n c, .slice B m d] w fun e w' => ∃ v, e = .returned v ∧ w'.ownsRow w.heap.size 5 1 v (n + m) (bv (xs ++ ys)) ∧ Below w.heap.size w w' := by
  obtain ⟨i0, hi, hz, hsz, hby⟩ := u8_info
  have hown0 := World.ownsRow_nil w w.heap.size 5 1
  go_enter Tryd.func39, Tryd.ntmps39
  go_wp2_with (first
    | (at_builtin
       refine wpList_append_bs rfl (.tmp 6) (.tmp 7) _ rfl w.heap.size 5 i0 Tryd.underlying22 hi hz hsz hby (.slice none 0 0) 0 [] rfl hown0 w.heap.size A n c xs rfl h1 (by omega) (by simp) ?_
       intro v1 w1 hown1 hg1
       have hb1 := grown_below (Below.refl _ _) hown0 (Nat.le_refl _) hg1
       have hz1 := hb1.size)
    | (at_builtin
       refine wpList_append_bs rfl (.tmp 9) (.tmp 10) _ rfl w.heap.size 5 i0 Tryd.underlying22 hi hz hsz hby v1 (0 + n) ([] ++ xs) rfl hown1 w.heap.size B m d ys rfl (h2.below hb1) (by omega) hz1 ?_
       intro v2 w2 hown2 hg2))
  go_ret
  exact ⟨v2, rfl, by simpa using hown2, grown_below hb1 hown1 (Nat.le_refl _) hg2⟩
set_option maxRecDepth 100000 in
theorem both_any (A B : Option Addr) (n m c d : Nat) (xs ys : List Int) (w : World) (h1 : Bs w w.heap.size A n xs) (h2 : Bs w w.heap.size B m ys) (hn : n + m ≤ 140737488355328) :
    Calls Tryd.prog 39 #[.slice A n c, .slice B m d] w (RetBs (xs ++ ys) w) := by
  refine (both_own A B n m c d xs ys w h1 h2 hn).mono ?_
  rintro e w' ⟨v, rfl, ho, hb⟩
  exact ret_owns ho hb rfl
end Go.Proofs.YtbolfkigiachlaaDoor

/-
  Structs behind a pointer that a call writes; the reader of pack: a contract each. Own work.
-/
namespace Go.Proofs.YtbolfkigiachlaaDoor
open Go.RowKit

/-- Block g of w is just the cells cs, of element type t; none is frozen. -/
def Blk (w : World) (g : Nat) (t : TypeId) (cs : Array Value) : Prop := w.heap[g]? = some (.cells cs t (0, 0))
section
variable {w w' w'' : World} {g t : Nat} {cs : Array Value}
set_option maxRecDepth 100000 in
theorem Blk.cell (h : Blk w g t cs) (i : Nat) : w.cell? ⟨g, i, none⟩ = cs[i]? := cell_of_row w g i cs t (0, 0) h
theorem Blk.frozen (h : Blk w g t cs) (i : Nat) : w.frozen? ⟨g, i, none⟩ = false := frozen_of_row w g i cs t h
set_option maxRecDepth 100000 in
theorem Blk.set (h : Blk w g t cs) (i : Nat) (u : Value) : Blk (w.setCell ⟨g, i, none⟩ u) g t (cs.setIfInBounds i u) := heap_setCell_same w g i cs t u h
theorem Blk.lt (h : Blk w g t cs) : g < w.heap.size := by
  rcases Nat.lt_or_ge g w.heap.size with h1 | h1
  · exact h1
  · unfold Blk at h; rw [Array.getElem?_eq_none h1] at h; cases h
set_option maxRecDepth 100000 in
theorem Blk.grown (h : Blk w g t cs) {r : Option Nat} (hg : w.grownBy w' r) (hr : some g ≠ r) : Blk w' g t cs := (hg.block g h.lt hr).trans h
theorem Blk.below (h : Blk w g t cs) {B : Nat} (hb : Below B w w') (hg : g < B) : Blk w' g t cs := (hb.block g hg).trans h
set_option maxRecDepth 100000 in
theorem grown_refl (w : World) (r : Option Nat) : w.grownBy w r := ⟨rfl, rfl, rfl, Nat.le_refl _, fun _ _ _ => rfl⟩
theorem grown_trans {r : Option Nat} (h : w.grownBy w' r) (k : w'.grownBy w'' r) : w.grownBy w'' r :=
  ⟨k.os.trans h.os, k.tape.trans h.tape, k.output.trans h.output, Nat.le_trans h.size k.size, fun i hi hr => (k.block i (Nat.lt_of_lt_of_le hi h.size) hr).trans (h.block i hi hr)⟩
set_option maxRecDepth 100000 in
theorem grown_set (w : World) (g i : Nat) (u : Value) : w.grownBy (w.setCell ⟨g, i, none⟩ u) (some g) :=
  ⟨rfl, rfl, rfl, by simp [World.setCell], fun k _ hk => heap_setCell_other w ⟨g, i, none⟩ k u (fun e => hk (by rw [e]))⟩
set_option maxRecDepth 100000 in
theorem grown_of_below {r : Option Nat} (h : Below w.heap.size w w') : w.grownBy w' r := ⟨h.os, h.tape, h.output, h.size, fun k hk _ => h.block k hk⟩
theorem below_of_grown {B : Nat} (h : w.grownBy w' (some g)) (hB : B ≤ g) (hw : B ≤ w.heap.size) : Below B w w' :=
  ⟨h.os, h.tape, h.output, h.size, fun k hk => h.block k (by omega) (fun e => by injection e; omega)⟩
end

/-- The slice '.slice A n c' reads as the bytes xs, in a block from lo on and below hi. -/
def Sp (w : World) (lo hi : Nat) (A : Option Addr) (n : Nat) (xs : List Int) : Prop :=
  xs.length = n ∧ (0 < n → ∃ b o, A = some ⟨b, o, none⟩ ∧ lo ≤ b ∧ b < hi ∧ ∀ j, j < n → w.cell? ⟨b, o + j, none⟩ = some (.int .u8 (xs.getD j 0)))
section
variable {w w' : World} {lo hi n : Nat} {A : Option Addr} {xs : List Int}
set_option maxRecDepth 100000 in
theorem Sp.nil_ : Sp w lo hi A 0 [] := ⟨rfl, fun h => absurd h (by omega)⟩
theorem Sp.bs (h : Sp w lo hi A n xs) : Bs w hi A n xs := ⟨h.1, fun h0 => let ⟨b, o, e, _, h2, hc⟩ := h.2 h0; ⟨b, o, e, h2, hc⟩⟩
set_option maxRecDepth 100000 in
theorem Sp.lt_size (h : Sp w lo hi A n xs) : Bs w w.heap.size A n xs := ⟨h.1, fun h0 => let ⟨b, o, e, _, _, hc⟩ := h.2 h0; ⟨b, o, e, block_lt_of_cell (hc 0 h0), hc⟩⟩
theorem Sp.grown (h : Sp w lo hi A n xs) {g : Nat} (hg : w.grownBy w' (some g)) (hr : g < lo ∨ hi ≤ g) : Sp w' lo hi A n xs :=
  ⟨h.1, fun h0 => let ⟨b, o, e, h1, h2, hc⟩ := h.2 h0; ⟨b, o, e, h1, h2, fun j hj => by
    rw [World.cell?_of_block (hg.block b (block_lt_of_cell (hc 0 h0)) (fun e => by injection e; omega))]; exact hc j hj⟩⟩
set_option maxRecDepth 100000 in
theorem Sp.take (h : Sp w lo hi A n xs) {k : Nat} (hk : k ≤ n) : Sp w lo hi A k (xs.take k) :=
  ⟨by simp [h.1]; omega, fun h0 => let ⟨b, o, e, h1, h2, hc⟩ := h.2 (by omega); ⟨b, o, e, h1, h2, fun j hj => by rw [hc j (by omega)]; simp [List.getD, hj]⟩⟩
set_option maxRecDepth 100000 in
theorem Sp.drop (h : Sp w lo hi A n xs) {k c : Nat} (hk : k ≤ n) (hc : n ≤ c) : Sp w lo hi (if c = k then A else A.map (·.add k)) (n - k) (xs.drop k) := by
  refine ⟨by simp [h.1], fun h0 => ?_⟩
  obtain ⟨b, o, rfl, h1, h2, hcell⟩ := h.2 (by omega)
  rw [if_neg (by omega)]
  refine ⟨b, o + k, by simp [addr_plain], h1, h2, fun j hj => ?_⟩
  rw [Nat.add_assoc, hcell (k + j) (by omega)]
  simp [List.getD]
end

set_option maxRecDepth 100000 in
theorem ret_owns_new {w w1 : World} {base e n : Nat} {v : Value} {xs ys : List Int} (h : w1.ownsRow base e 1 v n (bv xs)) (hb : Below w.heap.size w w1) (hbase : w.heap.size ≤ base) (he : ys = xs) :
    ∃ A n c, v = .slice A n c ∧ Sp w1 w.heap.size w1.heap.size A n ys ∧ n ≤ c ∧ c ≤ maxLen ∧ Below w.heap.size w w1 := by
  subst he
  obtain ⟨A, c, hv, h1, h2, h3⟩ := ownsRow_bs h
  refine ⟨A, n, c, hv, ⟨h1.1, fun h0 => ?_⟩, h2, h3, hb⟩
  obtain ⟨b, o, rfl, hlt, hc⟩ := h1.2 h0
  exact ⟨b, o, rfl, Nat.le_trans hbase (h.lt b (by rw [hv]; rfl)).1, hlt, hc⟩
set_option maxRecDepth 100000 in
/-- A copy is new memory. -/
theorem clone_new (A : Option Addr) (n c : Nat) (xs : List Int) (w : World) (h : Bs w w.heap.size A n xs) (hn : n ≤ 140737488355328) :
    Calls Tryd.prog 75 #[.slice A n c] w fun e w' => ∃ A n c, e = .returned (.slice A n c) ∧ Sp w' w.heap.size w'.heap.size A n xs ∧ n ≤ c ∧ c ≤ maxLen ∧ Below w.heap.size w w' := by
  have q : ∀ (w : World) (a : Option Addr) (n c n' c' : Nat), (binOp .eql 22 (.slice a n c) (.slice none n' c')).run Tryd.prog w = .ok (.bool a.isNone) w := fun w a n c n' c' => Lib.run_eql_slice_nil w _ _ a n c n' c' Tryd.underlying22
  obtain ⟨i0, hi, hz, hsz, hby⟩ := u8_info
  rcases A with _ | ad
  · have h0 : n = 0 := by
      rcases Nat.eq_zero_or_pos n with h0 | h0
      · exact h0
      · obtain ⟨_, _, h, _⟩ := h.2 h0; cases h
    subst h0
    obtain rfl : xs = [] := List.eq_nil_of_length_eq_zero h.1
    go_enter Tryd.func75, Tryd.ntmps75
    go_wp2
    go_ret
    exact ⟨none, 0, 0, rfl, Sp.nil_, Nat.le_refl _, by simp, Below.refl _ _⟩
  · have hown := World.ownsRow_lit (base := w.heap.size) (e := 5) (size := 1) w #[] 0 (Nat.le_refl _) (by simp) rfl
    go_enter Tryd.func75, Tryd.ntmps75
    go_wp2_with (at_builtin; refine wpList_append_bs rfl (.tmp 5) (.tmp 6) _ rfl w.heap.size 5 i0 Tryd.underlying22 hi hz hsz hby (.slice (some ⟨w.heap.size, 0, none⟩) 0 0) 0 [] rfl hown w.heap.size (some ad) n c xs rfl (h.below ((Below.refl _ _).alloc (Nat.le_refl _) _)) (by omega) (by simp) ?_; intro v1 w1 hown1 hg1)
    go_ret
    obtain ⟨A1, n1, c1, rfl, h2, h3, h4, h5⟩ := ret_owns_new hown1 (grown_below ((Below.refl _ _).alloc (Nat.le_refl _) _) hown (Nat.le_refl _) hg1) (Nat.le_refl _) rfl
    exact ⟨A1, n1, c1, rfl, by simpa using h2, h3, h4, h5⟩

/-- The reader in block g: what is left, and its error. -/
def Rd (w : World) (lo g : Nat) (xs : List Int) (e : Int) : Prop :=
  ∃ A n c, lo ≤ g ∧ Blk w g 102 #[.bool true, .slice A n c, .int .i64 e] ∧ Sp w lo g A n xs ∧ n ≤ c ∧ (c ≤ 9223372036854775807 ∧ n ≤ 140737488355328) ∧ (e ≠ 0 → xs = [])

set_option maxRecDepth 100000 in
theorem Rd.grown {w w' : World} {lo g g' : Nat} {xs : List Int} {e : Int} (h : Rd w lo g xs e) (hg : w.grownBy w' (some g')) (hne : g' < lo ∨ g < g') : Rd w' lo g xs e := by
  obtain ⟨A, n, c, h0, h1, h2, h3, h4, h5⟩ := h
  exact ⟨A, n, c, h0, h1.grown hg (by intro e; injection e with e; omega), h2.grown hg (by omega), h3, h4, h5⟩

set_option maxRecDepth 100000 in
theorem err_any {lo g : Nat} {xs : List Int} {e : Int} (w : World) (h : Rd w lo g xs e) : Calls Tryd.prog 84 #[.pointer (some ⟨g, 0, none⟩)] w fun en w' => en = .returned (.int .i64 e) ∧ w = w' := by
  obtain ⟨A, n, c, _, hb, _⟩ := h
  have c0 := hb.cell 0
  have c2 := hb.cell 2
  simp only [List.getElem?_toArray, List.getElem?_cons_zero, List.getElem?_cons_succ] at c0 c2
  clear hb
  go_enter Tryd.func84, Tryd.ntmps84
  go_wp2
  go_ret
  exact ⟨rfl, rfl⟩
set_option maxRecDepth 100000 in
theorem left_any {lo g : Nat} {xs : List Int} {e : Int} (w : World) (h : Rd w lo g xs e) : Calls Tryd.prog 82 #[.pointer (some ⟨g, 0, none⟩)] w fun en w' => en = .returned (.int .i64 xs.length) ∧ w = w' := by
  obtain ⟨A, n, c, _, hb, hs, _⟩ := h
  have c1 := hb.cell 1
  simp only [List.getElem?_toArray, List.getElem?_cons_zero, List.getElem?_cons_succ] at c1
  rw [hs.1]
  clear hb hs
  go_enter Tryd.func82, Tryd.ntmps82
  go_wp2
  go_ret
  exact ⟨rfl, rfl⟩
set_option maxRecDepth 100000 in
theorem fail_old {lo g : Nat} {xs : List Int} {e : Int} (w : World) (h : Rd w lo g xs e) (he : e ≠ 0) (code : Int) :
    Calls Tryd.prog 83 #[.pointer (some ⟨g, 0, none⟩), .int .i64 code] w fun en w' => en = .returned (.tuple #[]) ∧ w = w' := by
  have hd : (e == 0) = false := beq_eq_false_iff_ne.2 he
  go_enter Tryd.func83, Tryd.ntmps83
  go_wp2_with (go_at_call 84; refine (err_any _ h).mono ?_; rintro e w' ⟨rfl, rfl⟩)
  go_end0
  exact ⟨rfl, rfl⟩
set_option maxRecDepth 100000 in
theorem fail_new {lo g : Nat} {xs : List Int} (w : World) (h : Rd w lo g xs 0) (code : Int) :
    Calls Tryd.prog 83 #[.pointer (some ⟨g, 0, none⟩), .int .i64 code] w fun en w' => en = .returned (.tuple #[]) ∧ Rd w' lo g [] code ∧ w.grownBy w' (some g) := by
  have h' := hide h
  obtain ⟨A, n, c, hlo, hb, hs, _⟩ := h
  have c1 := hb.cell 1
  have c2 := hb.cell 2
  simp only [List.getElem?_toArray, List.getElem?_cons_zero, List.getElem?_cons_succ] at c1 c2
  have f1 := hb.frozen 1
  have f2 := hb.frozen 2
  have HB := hide hb
  clear hb
  go_enter Tryd.func83, Tryd.ntmps83
  go_wp2_with (go_at_call 84; refine (err_any _ h'.out).mono ?_; rintro e w' ⟨rfl, rfl⟩)
  go_end0
  exact ⟨rfl, ⟨none, 0, 0, hlo, (HB.out.set 2 _).set 1 _, Sp.nil_, Nat.le_refl _, ⟨by omega, by omega⟩, fun _ => rfl⟩, grown_trans (grown_set _ _ _ _) (grown_set _ _ _ _)⟩

/-- What a reader tells of the next n bytes, what is left behind, and the error. -/
def tk (n : Nat) (xs : List Int) (e : Int) : List Int × List Int × Int := if e ≠ 0 then ([], xs, e) else if xs.length < n then ([], [], 4) else (xs.take n, xs.drop n, 0)

/-- What a call on the reader in block g leaves. -/
def TkPost (w : World) (lo g : Nat) (r : List Int × List Int × Int) (en : Ending) (w' : World) : Prop :=
  ∃ A n c, en = .returned (.slice A n c) ∧ Sp w' lo g A n r.1 ∧ n ≤ 140737488355328 ∧ Rd w' lo g r.2.1 r.2.2 ∧ w.grownBy w' (some g)

set_option maxHeartbeats 400000 in
set_option maxRecDepth 100000 in
theorem take_any {lo g : Nat} {xs : List Int} {e : Int} (w : World) (h : Rd w lo g xs e) (n : Nat) (hn : n ≤ 4294967296) :
    Calls Tryd.prog 80 #[.pointer (some ⟨g, 0, none⟩), .int .i64 (n : Int)] w (TkPost w lo g (tk n xs e)) := by
  have h' := hide h
  obtain ⟨A, m, c, hlo, hb, hs, hmc, ⟨hc, hm47⟩, he0⟩ := h
  by_cases he : e = 0
  · subst he
    by_cases hlt : xs.length < n
    · have ht : tk n xs 0 = ([], [], 4) := by simp [tk, hlt]
      rw [ht]
      have hi : (xs.length : Int) < (n : Int) := by omega
      clear hb
      go_enter Tryd.func80, Tryd.ntmps80
      go_wp2_with (first
        | (go_at_call 82; refine (left_any _ h'.out).mono ?_; rintro e w' ⟨rfl, rfl⟩)
        | (go_at_call 83; refine (fail_new _ h'.out 4).mono ?_; rintro e w1 ⟨rfl, hr, hg⟩; have hR := hide hr; clear hr)
        | (go_at_call 84; refine (err_any _ hR.out).mono ?_; rintro e w' ⟨rfl, rfl⟩))
      go_ret
      exact ⟨none, 0, 0, rfl, Sp.nil_, by omega, hR.out, hg⟩
    · have ht : tk n xs 0 = (xs.take n, xs.drop n, 0) := by simp [tk, hlt]
      rw [ht]
      have hle : n ≤ m := by have := hs.1; omega
      have hi : ¬ (xs.length : Int) < (n : Int) := by omega
      have c1 := hb.cell 1
      have f1 := hb.frozen 1
      simp only [List.getElem?_toArray, List.getElem?_cons_zero, List.getElem?_cons_succ] at c1
      have HB := hide hb
      clear hb
      go_enter Tryd.func80, Tryd.ntmps80
      go_wp2_with (first
        | (go_at_call 82; refine (left_any _ h'.out).mono ?_; rintro e w' ⟨rfl, rfl⟩)
        | (go_at_call 84; refine (err_any _ h'.out).mono ?_; rintro e w' ⟨rfl, rfl⟩))
      · go_ret
        have hcn : c = n := ‹c = n›
        have hd := hs.drop hle hmc
        rw [if_pos hcn] at hd
        exact ⟨A, n, n, rfl, (hs.take hle).grown (grown_set _ _ _ _) (.inr (Nat.le_refl _)), by omega, ⟨A, m - n, 0, hlo, HB.out.set 1 _, hd.grown (grown_set _ _ _ _) (.inr (Nat.le_refl _)), by omega, ⟨by omega, by omega⟩, fun h => absurd rfl h⟩, grown_set _ _ _ _⟩
      · go_ret
        have hd := hs.drop hle hmc
        rw [if_neg ‹¬c = n›] at hd
        exact ⟨A, n, c, rfl, (hs.take hle).grown (grown_set _ _ _ _) (.inr (Nat.le_refl _)), by omega, ⟨_, m - n, c - n, hlo, HB.out.set 1 _, hd.grown (grown_set _ _ _ _) (.inr (Nat.le_refl _)), by omega, ⟨by omega, by omega⟩, fun h => absurd rfl h⟩, grown_set _ _ _ _⟩
  · have ht : tk n xs e = ([], xs, e) := by simp [tk, he]
    rw [ht]
    obtain rfl := he0 he
    have hd : (e != 0) = true := by rw [bne_iff_ne]; exact he
    clear hb
    go_enter Tryd.func80, Tryd.ntmps80
    go_wp2_with (first
      | (go_at_call 82; refine (left_any _ h'.out).mono ?_; rintro e w' ⟨rfl, rfl⟩)
      | (go_at_call 83; refine (fail_old _ h'.out he 4).mono ?_; rintro e w1 ⟨rfl, rfl⟩)
      | (go_at_call 84; refine (err_any _ h'.out).mono ?_; rintro e w' ⟨rfl, rfl⟩))
    all_goals
      go_ret
      exact ⟨none, 0, 0, rfl, Sp.nil_, by omega, h'.out, grown_refl _ _⟩

/-- The number whose bytes these are, the highest first. -/
def beV (xs : List Int) : Int := xs.foldl (fun a b => a * 256 + b) 0
set_option maxRecDepth 100000 in
theorem beV_snoc (xs : List Int) (b : Int) : beV (xs ++ [b]) = beV xs * 256 + b := by simp [beV]
theorem beV_bound {xs : List Int} (h : IsBy xs) : 0 ≤ beV xs ∧ beV xs < 256 ^ xs.length := by
  have key : ∀ (n : Nat) (xs : List Int), xs.length = n → IsBy xs → 0 ≤ beV xs ∧ beV xs < 256 ^ n := by
    intro n
    induction n with
    | zero => intro xs hl _; rw [List.eq_nil_of_length_eq_zero hl]; simp [beV]
    | succ n ih =>
      intro xs hl hx
      have hne : xs ≠ [] := by intro e; rw [e] at hl; simp at hl
      have hsp := List.dropLast_concat_getLast hne
      rw [← hsp, beV_snoc]
      obtain ⟨h0, h1⟩ := ih xs.dropLast (by simp [hl]) (fun x hm => hx x (List.dropLast_subset xs hm))
      obtain ⟨b0, b1⟩ := hx _ (List.getLast_mem hne)
      rw [Int.pow_succ]
      omega
  exact key _ xs rfl h
set_option maxRecDepth 100000 in
theorem beV_take_succ (xs : List Int) (k : Nat) (hk : k < xs.length) : beV (xs.take (k + 1)) = beV (xs.take k) * 256 + xs.getD k 0 := by
  rw [List.take_succ_eq_append_getElem hk, beV_snoc]
  simp [List.getD, List.getElem?_eq_getElem hk]
set_option maxRecDepth 100000 in
theorem tk_by {n : Nat} {xs : List Int} {e : Int} (h : IsBy xs) : IsBy (tk n xs e).1 ∧ IsBy (tk n xs e).2.1 := by
  unfold tk
  split
  · exact ⟨fun _ h => by simp at h, h⟩
  · split
    · exact ⟨fun _ h => by simp at h, fun _ h => by simp at h⟩
    · exact ⟨h.take n, h.drop n⟩
set_option maxRecDepth 100000 in
theorem tk_len (n : Nat) (xs : List Int) (e : Int) : (tk n xs e).1.length ≤ n ∧ (tk n xs e).2.1.length ≤ xs.length := by
  unfold tk
  split
  · simp
  · split <;> simp <;> omega
/-- What reading a number of n bytes tells. -/
def unum (n : Nat) (xs : List Int) (e : Int) : Int := beV (tk n xs e).1
set_option maxRecDepth 100000 in
theorem pow256_mono {a b : Nat} (h : a ≤ b) : (256 : Int) ^ a ≤ 256 ^ b := by
  obtain ⟨d, rfl⟩ := Nat.exists_eq_add_of_le h
  induction d with
  | zero => exact Int.le_refl _
  | succ d ih =>
    have := ih (by omega)
    have hp := pow256_pos (a + d)
    rw [← Nat.add_assoc, Int.pow_succ]
    omega
set_option maxRecDepth 100000 in
theorem unum_bound {n : Nat} {xs : List Int} {e : Int} (h : IsBy xs) : 0 ≤ unum n xs e ∧ unum n xs e < 256 ^ n := by
  obtain ⟨h0, h1⟩ := beV_bound (tk_by (n := n) (e := e) h).1
  exact ⟨h0, Int.lt_of_lt_of_le h1 (pow256_mono (tk_len n xs e).1)⟩

def NumPost (w : World) (lo g : Nat) (k : IntKind) (v : Int) (xs : List Int) (e : Int) (en : Ending) (w' : World) : Prop := en = .returned (.int k v) ∧ Rd w' lo g xs e ∧ w.grownBy w' (some g)
set_option maxHeartbeats 400000 in
set_option maxRecDepth 100000 in
theorem fromHigh32_any {lo g : Nat} {xs : List Int} {e : Int} (w : World) (h : Rd w lo g xs e) (hx : IsBy xs) :
    Calls Tryd.prog 76 #[.pointer (some ⟨g, 0, none⟩)] w (NumPost w lo g .u32 (unum 4 xs e) (tk 4 xs e).2.1 (tk 4 xs e).2.2) := by
  have hby := (tk_by (n := 4) (e := e) hx).1
  have hln := (tk_len 4 xs e).1
  have hct := hide (take_any w h 4 (by omega))
  unfold unum
  generalize tk 4 xs e = r at *
  clear h hx
  go_enter Tryd.func76, Tryd.ntmps76
  go_wp2_with (first
    | (go_at_call 79; refine (width32_any _).mono ?_; rintro e w' ⟨rfl, rfl⟩)
    | (go_at_call 80; refine hct.out.mono ?_; rintro en w1 ⟨A, n, c, rfl, hs, hn, hr, hg⟩))
  have hl1 := hs.1
  have hnN : n ≤ 4 := by omega
  have HL := hide hl1
  clear hl1
  go_loop [3, 10] (fun v i => ∃ k : Nat, k ≤ n ∧ i = .int .i64 k ∧ v = .int .u32 (beV (r.1.take k))) (fun _ i => n - (intOf i).toNat)
  case atStart => exact ⟨0, Nat.zero_le _, rfl, rfl⟩
  case round =>
    obtain ⟨k, hk, rfl, rfl⟩ := hrel
    obtain ⟨q0, q1⟩ := beV_bound (hby.take k)
    by_cases hlt : k < n
    · obtain ⟨b, o, rfl, hb, _, hc⟩ := hs.2 (by omega)
      have hck := hc k hlt
      obtain ⟨b0, b1⟩ := getD_byte hby k
      have hsu := beV_take_succ r.1 k (by rw [HL.out]; exact hlt)
      have HS := hide hsu
      have Q1 := hide q1
      clear hsu q1 hc
      have HO := hide (or_high32 k (by omega) q0 (by have := Q1.out; rw [List.length_take, HL.out, Nat.min_eq_left (by omega)] at this; exact this) b0 b1)
      go_wp2
      go_round
      case rel => exact ⟨k + 1, by omega, by go_num, congrArg (Value.int .u32) (by rw [HS.out, ← HO.out]; simp [List.getD])⟩
      case measure => simp [intOf]; omega
    · go_wp2
      go_ret
      have hkn : k = n := by omega
      refine ⟨?_, hr, hg⟩
      rw [← show beV (r.1.take k) = beV r.1 from by rw [List.take_of_length_le (by rw [HL.out]; omega)]]
      rfl
set_option maxRecDepth 100000 in
theorem u32_any {lo g : Nat} {xs : List Int} {e : Int} (w : World) (h : Rd w lo g xs e) (hx : IsBy xs) :
    Calls Tryd.prog 68 #[.pointer (some ⟨g, 0, none⟩)] w (NumPost w lo g .u32 (unum 4 xs e) (tk 4 xs e).2.1 (tk 4 xs e).2.2) := by
  go_enter Tryd.func68, Tryd.ntmps68
  go_wp2_with (go_at_call 76; refine (fromHigh32_any _ h hx).mono ?_; rintro en w1 ⟨rfl, hr, hg⟩)
  go_ret
  exact ⟨rfl, hr, hg⟩
set_option maxRecDepth 100000 in
theorem Sp.later {w w' : World} {lo hi n : Nat} {A : Option Addr} {xs : List Int} (h : Sp w lo hi A n xs) (hb : Below w.heap.size w w') : Sp w' lo hi A n xs :=
  ⟨h.1, fun h0 => let ⟨b, o, e, h1, h2, hc⟩ := h.2 h0; ⟨b, o, e, h1, h2, fun j hj => (hb.cell (p := ⟨b, o + j, none⟩) (block_lt_of_cell (hc j hj) : b < w.heap.size)).trans (hc j hj)⟩⟩
set_option maxRecDepth 100000 in
theorem Rd.later {w w' : World} {lo g : Nat} {xs : List Int} {e : Int} (h : Rd w lo g xs e) (hb : Below w.heap.size w w') : Rd w' lo g xs e := by
  obtain ⟨A, n, c, h0, h1, h2, h3, h4, h5⟩ := h
  exact ⟨A, n, c, h0, h1.below hb h1.lt, h2.later hb, h3, h4, h5⟩

set_option maxRecDepth 100000 in
theorem read_any (A : Option Addr) (n c : Nat) (xs : List Int) (w : World) (h : Bs w w.heap.size A n xs) (hn : n ≤ 1000000) :
    Calls Tryd.prog 67 #[.slice A n c] w fun en w' => ∃ g, en = .returned (.pointer (some ⟨g, 0, none⟩)) ∧ w.heap.size ≤ g ∧ g < w'.heap.size ∧ Rd w' w.heap.size g xs 0 ∧ Below w.heap.size w w' := by
  go_enter Tryd.func67, Tryd.ntmps67
  go_wp2_with (go_at_call 75; refine (clone_new A n c xs _ h (by omega)).mono ?_; rintro e w1 ⟨A1, n1, c1, rfl, hb1, hn1, hc1, hl1⟩)
  go_ret
  have hlen : n1 ≤ 1000000 := by have := hb1.1; have := h.1; omega
  simp only [maxLen] at hc1
  exact ⟨w1.heap.size, rfl, hl1.size, by simp, ⟨A1, n1, c1, hl1.size, heap_alloc_new w1 _, hb1.later ((Below.refl _ _).alloc (Nat.le_refl _) _), hn1, ⟨by omega, by omega⟩, fun h => absurd rfl h⟩, hl1.alloc hl1.size _⟩
end Go.Proofs.YtbolfkigiachlaaDoor

/-
  SHA-256: the words of a block: contract. Own work.
-/
namespace Go.Proofs.YtbolfkigiachlaaDoor
open Go.RowKit
def IsW (xs : List Int) : Prop := ∀ x, x ∈ xs → w32 x
theorem IsW.app {xs ys : List Int} (h : IsW xs) (k : IsW ys) : IsW (xs ++ ys) := fun x hx => (List.mem_append.1 hx).elim (h x) (k x)
theorem IsW.getD {xs : List Int} (h : IsW xs) (j : Nat) : w32 (xs.getD j 0) := by
  by_cases hj : j < xs.length
  · exact h _ (by rw [List.getD, List.getElem?_eq_getElem hj]; simp)
  · rw [List.getD, List.getElem?_eq_none (by omega)]; exact ⟨by decide, by decide⟩
theorem IsW.one {x : Int} (h : w32 x) : IsW [x] := fun y hy => by simp at hy; subst hy; exact h
theorem IsW.rep (n : Nat) : IsW (List.replicate n 0) := fun x hx => by rw [List.eq_of_mem_replicate hx]; exact ⟨by decide, by decide⟩
theorem grown_only {g : Nat} {w w' : World} (h : Only g w w') : w.grownBy w' (some g) := ⟨h.os, h.tape, h.output, Nat.le_of_eq h.size.symm, fun k hk hne => h.block k (fun e => hne (by rw [e]))⟩
theorem Row.grown {w w' : World} {t g : Nat} {vs : List Value} (h : Row w t g vs) {r : Option Nat} (hg : w.grownBy w' r) (hr : some g ≠ r) : Row w' t g vs := (hg.block g h.lt hr).trans h
/-- The first words: four bytes each. -/
def w16 (bs : List Int) (k : Nat) : List Int := (List.range k).map fun i => beV ((bs.drop (4 * i)).take 4)
theorem w16_len (bs : List Int) (k : Nat) : (w16 bs k).length = k := by simp [w16]
theorem w16_succ (bs : List Int) (k : Nat) : w16 bs (k + 1) = w16 bs k ++ [beV ((bs.drop (4 * k)).take 4)] := by simp [w16, List.range_succ]
theorem beV4 {xs : List Int} (h : IsBy xs) : w32 (beV (xs.take 4)) := by
  obtain ⟨h0, h1⟩ := beV_bound (h.take 4)
  refine ⟨h0, ?_⟩
  have h2 : (xs.take 4).length ≤ 4 := by rw [List.length_take]; omega
  exact Int.lt_of_lt_of_le h1 (pow256_mono h2)
theorem w16_w {bs : List Int} (h : IsBy bs) (k : Nat) : IsW (w16 bs k) := by
  intro x hx
  simp only [w16, List.mem_map, List.mem_range] at hx
  obtain ⟨i, _, rfl⟩ := hx
  exact beV4 (h.drop _)
def wNext (l : List Int) : Int := (sg_s1 (l.getD (l.length - 2) 0) + l.getD (l.length - 7) 0 + sg_s0 (l.getD (l.length - 15) 0) + l.getD (l.length - 16) 0) % 4294967296
def wX (bs : List Int) : Nat → List Int
  | 0 => w16 bs 16
  | n + 1 => wX bs n ++ [wNext (wX bs n)]
theorem wX_len (bs : List Int) (n : Nat) : (wX bs n).length = 16 + n := by
  induction n with
  | zero => exact w16_len _ _
  | succ n ih => simp [wX, ih]; omega
theorem wX_w {bs : List Int} (h : IsBy bs) (n : Nat) : IsW (wX bs n) := by
  induction n with
  | zero => exact w16_w h 16
  | succ n ih => exact ih.app (IsW.one (mod_w32 _))
/-- All the words of a block. -/
def wAll (bs : List Int) : List Int := wX bs 48
theorem wAll_len (bs : List Int) : (wAll bs).length = 64 := wX_len bs 48
theorem wAll_w {bs : List Int} (h : IsBy bs) : IsW (wAll bs) := wX_w h 48
theorem fill_set (L : List Int) (k n : Nat) (hL : L.length = k) (hk : k < n) (v : Int) : (L ++ List.replicate (n - k) 0).set k v = (L ++ [v]) ++ List.replicate (n - (k + 1)) 0 := by
  rw [List.set_append_right _ _ (by omega), hL, Nat.sub_self, show n - k = (n - (k + 1)) + 1 from by omega, List.replicate_succ, List.set_cons_zero]
  simp
theorem getD_left {L R : List Int} {j : Nat} (h : j < L.length) : (L ++ R).getD j 0 = L.getD j 0 := by simp [List.getD, List.getElem?_append_left h]
theorem zero64u : (Tryd.prog.info? 65).map (fun i => i.zero) = some (some (.agg (vk .u32 (List.replicate 64 0)).toArray)) := by kernel_rfl
theorem size64u {xs : List Int} (h : xs.length = 64) : (Tryd.prog.info? 65).map (·.size) = some (vk .u32 xs).length := by rw [vk_len, h]; kernel_rfl
theorem size64b {xs : List Int} (h : xs.length = 64) : (Tryd.prog.info? 85).map (·.size) = some (bv xs).length := by rw [bv_len, h]; kernel_rfl
theorem JB.callX {g T k : Nat} {w0 w w' : World} {cur new : List Value} {bs bs' : List Bool} {vs us : List Value} (h : JB g T w0 k cur new bs vs w) (hb : Below w.heap.size w w') (h1 : bs'.getD k false = bs.getD k false) : JB g T w0 k cur new bs' us w' :=
  ⟨fun h0 => (h.1 (h1.symm.trans h0)).later hb, fun h0 => (h.2.1 (h1.symm.trans h0)).later hb, h.2.2.trans (But.of hb g)⟩
theorem pureB {P : Program} {f : FuncId} {xs : Array Value} {w : World} {v : Value} (h : Calls P f xs w fun e w' => e = .returned v ∧ w = w') : Calls P f xs w fun e w' => e = .returned v ∧ Below w.heap.size w w' := h.mono fun e w' h => ⟨h.1, by rw [← h.2]; exact Below.refl _ _⟩
theorem bv_app (xs ys : List Int) : bv (xs ++ ys) = bv xs ++ bv ys := by simp [bv]
theorem row_bs_at {w : World} {t g B off n : Nat} {ks : List Int} (h : Row w t g (bv ks)) (hn : off + n ≤ ks.length) (hB : g < B) : Bs w B (some ⟨g, off, none⟩) n ((ks.drop off).take n) := by
  have e : bv ks = bv (ks.take off) ++ (bv ((ks.drop off).take n) ++ bv ((ks.drop off).drop n)) := by
    rw [← bv_app, List.take_append_drop, ← bv_app, List.take_append_drop]
  rw [e] at h
  have := h.bs (B := B) (off := off) (by rw [bv_len, List.length_take]; omega) hB
  rwa [show ((ks.drop off).take n).length = n by rw [List.length_take, List.length_drop]; omega] at this
def SWd (cur : List Int) (g3 i : Nat) (opn : Nat) (v : Value) : Prop :=
  match opn with
  | 0 | 1 | 6 | 11 | 17 => v = .int .i64 (i : Int)
  | 2 => v = .int .i64 ((i - 2 : Nat) : Int)
  | 3 => v = .pointer (some ⟨g3, i - 2, none⟩)
  | 4 => v = .int .u32 (cur.getD (i - 2) 0)
  | 5 => v = .int .u32 (sg_s1 (cur.getD (i - 2) 0))
  | 7 => v = .int .i64 ((i - 7 : Nat) : Int)
  | 8 => v = .pointer (some ⟨g3, i - 7, none⟩)
  | 9 => v = .int .u32 (cur.getD (i - 7) 0)
  | 10 => v = .int .u32 ((sg_s1 (cur.getD (i - 2) 0) + cur.getD (i - 7) 0) % 4294967296)
  | 12 => v = .int .i64 ((i - 15 : Nat) : Int)
  | 13 => v = .pointer (some ⟨g3, i - 15, none⟩)
  | 14 => v = .int .u32 (cur.getD (i - 15) 0)
  | 15 => v = .int .u32 (sg_s0 (cur.getD (i - 15) 0))
  | 16 => v = .int .u32 ((sg_s1 (cur.getD (i - 2) 0) + cur.getD (i - 7) 0 + sg_s0 (cur.getD (i - 15) 0)) % 4294967296)
  | 18 => v = .int .i64 ((i - 16 : Nat) : Int)
  | 19 => v = .pointer (some ⟨g3, i - 16, none⟩)
  | 20 => v = .int .u32 (cur.getD (i - 16) 0)
  | 21 => v = .int .u32 ((sg_s1 (cur.getD (i - 2) 0) + cur.getD (i - 7) 0 + sg_s0 (cur.getD (i - 15) 0) + cur.getD (i - 16) 0) % 4294967296)
  | 22 => v = .pointer (some ⟨g3, i, none⟩)
  | _ => True

set_option maxRecDepth 100000 in
set_option maxHeartbeats 1000000 in
theorem words_any (bs : List Int) (w : World) (hl : bs.length = 64) (hb : IsBy bs) :
    Calls Tryd.prog 63 #[.agg (bv bs).toArray] w fun en w' => en = .returned (.agg (vk .u32 (wAll bs)).toArray) ∧ Below w.heap.size w w' := by
  have z64 := hide (size64b hl)
  have HL := hide hl
  have zw := hide (size64u (wAll_len bs))
  have lw := hide (show (vk .u32 (List.replicate 64 0)).length = (vk .u32 (wAll bs)).length by rw [vk_len, vk_len, wAll_len, List.length_replicate])
  clear hl
  have HWA := hide (show ∀ m, m = 48 → wX bs m = wAll bs from fun m h => by rw [h]; rfl)
  generalize wAll bs = WA at *
  go_enter Tryd.func63, Tryd.ntmps63
  go_wp2_with (first
    | (with_reducible refine wl_box rfl 85 (.tmp 0) _ (bv bs) rfl rfl rfl ?_; intro g1 w1 r1 p1 l1 b1)
    | (with_reducible refine wl_alloc (o := ⟨some 2, _, _, _, _, _⟩) rfl 65 _ (vk .u32 (List.replicate 64 0)) rfl zero64u rfl ?_; intro g2 w2 r2 p2 l2 b2; have r1' := r1.later b2)
    | (with_reducible refine wl_alloc (o := ⟨some 3, _, _, _, _, _⟩) rfl 65 _ (vk .u32 (List.replicate 64 0)) rfl zero64u rfl ?_; intro g3 w3 r3 p3 l3 b3; have r1'' := r1'.later b3; have r2' := r2.later b3))
  have s1 := b1.size; have s2 := b2.size; have s3 := b3.size
  have B3 := (b1.trans (b2.mono s1)).trans (b3.mono (Nat.le_trans s1 s2))
  have hbs : Bs w3 w3.heap.size (some ⟨g1, 0, none⟩) 64 bs := by
    have := row_bs_at (n := 64) (off := 0) r1'' (by rw [HL.out]; decide) r1''.lt
    rw [List.drop_zero, List.take_of_length_le (by rw [HL.out]; decide)] at this
    exact this
  refine (read_any _ 64 64 bs w3 hbs (by decide)).mono ?_
  rintro en w4 ⟨gr, rfl, pr, lr, hrd, b4⟩
  have B4 := B3.trans (b4.mono B3.size)
  have r2a := r2'.later b4
  have r3a := r3.later b4
  have hne3 : g3 < w3.heap.size := r3.lt
  have hne2 : g2 < w3.heap.size := r2'.lt
  have hg23 : g2 ≠ g3 := by omega
  have q3 : w.heap.size ≤ g3 := by omega
  clear r1 r1' r1'' r2 r2' r3 hbs b1 b2 b3 b4
  go_wp2_with fail
  go_loopw [9] (fun iv wr => ∃ k : Nat, k ≤ 16 ∧ iv = .int .i64 k ∧ Row wr 65 g3 (vk .u32 (w16 bs k ++ List.replicate (64 - k) 0)) ∧ Rd wr w3.heap.size gr (bs.drop (4 * k)) 0 ∧ Row wr 65 g2 (vk .u32 (List.replicate 64 0)) ∧ Below w.heap.size w wr) (fun iv _ => 16 - (intOf iv).toNat)
  case atStart => exact ⟨0, Nat.zero_le _, rfl, r3a, hrd, r2a, B4⟩
  case round =>
    clear r3a r2a hrd
    obtain ⟨k, hk, rfl, rr, rd, r2r, br⟩ := hrel
    by_cases hlt : k < 16
    · have hu := u32_any wr rd (hb.drop (4 * k))
      have hln : (bs.drop (4 * k)).length = 64 - 4 * k := by rw [List.length_drop, HL.out]
      have htk : tk 4 (bs.drop (4 * k)) 0 = ((bs.drop (4 * k)).take 4, (bs.drop (4 * k)).drop 4, 0) := by
        unfold tk
        rw [if_neg (by simp), if_neg (by omega)]
      unfold unum at hu
      rw [htk] at hu
      simp only [List.drop_drop] at hu
      have hset := fill_set (w16 bs k) k 64 (w16_len bs k) (by omega) (beV ((bs.drop (4 * k)).take 4))
      rw [← w16_succ] at hset
      have HSt := hide hset
      have hw := beV4 (hb.drop (4 * k))
      have hlen : k < (vk .u32 (w16 bs k ++ List.replicate (64 - k) 0)).length := by rw [vk_len, List.length_append, w16_len, List.length_replicate]; omega
      have h4k : 4 * k + 4 = 4 * (k + 1) := by omega
      rw [h4k] at hu
      have HU := hide hu
      have HRD := hide rd
      clear hset htk h4k hln hu rd
      generalize beV ((bs.drop (4 * k)).take 4) = v at *
      go_wp2_with fail
      refine HU.out.mono ?_
      rintro en w5 ⟨rfl, rd5, gr5⟩
      have rr5 := rr.grown gr5 (by intro e; injection e with e; omega)
      have r25 := r2r.grown gr5 (by intro e; injection e with e; omega)
      have br5 := br.trans (below_of_grown gr5 (by omega) br.size)
      have hk64 : k < 64 := by omega
      clear HU rr HRD r2r
      go_wp2_with (first
        | (with_reducible refine wl_store rfl 64 (.tmp 15) (.tmp 14) g3 k 65 _ (.int .u32 v) rfl (by kernel_rfl) rfl rfl rr5 hlen rfl ?_; intro w6 r6 o6; rw [vk_set, HSt.out] at r6))
      go_roundw
      case rel => exact ⟨k + 1, by omega, by go_num, r6, rd5.grown (grown_only o6) (.inl (by omega)), r25.only o6 hg23, br5.trans (o6.below q3)⟩
      case measure => simp [intOf]; omega
    · obtain rfl : k = 16 := by omega
      clear rd
      go_wp2_with fail
      go_loopw [6] (fun iv wq => ∃ m : Nat, m ≤ 48 ∧ iv = .int .i64 ((16 + m : Nat) : Int) ∧ Row wq 65 g3 (vk .u32 (wX bs m ++ List.replicate (64 - (16 + m)) 0)) ∧ Row wq 65 g2 (vk .u32 (List.replicate 64 0)) ∧ Below w.heap.size w wq) (fun iv _ => 64 - (intOf iv).toNat)
      case atStart => exact ⟨0, Nat.zero_le _, rfl, rr, r2r, br⟩
      case round =>
        clear rr r2r br
        obtain ⟨m, hm, rfl, rr, r2r, br⟩ := hrel
        obtain ⟨i, hi⟩ : ∃ i, i = 16 + m := ⟨_, rfl⟩
        rw [← hi] at rr ⊢
        by_cases hlt : i < 64
        · have hlx := wX_len bs m
          have hset := fill_set (wX bs m) i 64 (by omega) hlt (wNext (wX bs m))
          rw [show wX bs m ++ [wNext (wX bs m)] = wX bs (m + 1) from rfl] at hset
          have hcw : IsW (wX bs m ++ List.replicate (64 - i) 0) := (wX_w hb m).app (IsW.rep _)
          have hcl : (wX bs m ++ List.replicate (64 - i) 0).length = 64 := by rw [List.length_append, List.length_replicate]; omega
          have hN : wNext (wX bs m) = (sg_s1 ((wX bs m ++ List.replicate (64 - i) 0).getD (i - 2) 0) + (wX bs m ++ List.replicate (64 - i) 0).getD (i - 7) 0 + sg_s0 ((wX bs m ++ List.replicate (64 - i) 0).getD (i - 15) 0) + (wX bs m ++ List.replicate (64 - i) 0).getD (i - 16) 0) % 4294967296 := by
            rw [getD_left (by omega), getD_left (by omega), getD_left (by omega), getD_left (by omega)]
            unfold wNext
            rw [hlx, ← hi]
          rw [hN] at hset
          have hi16 : 16 ≤ i := by omega
          have him : 16 + (m + 1) = i + 1 := by omega
          have HI := hide hi
          have HM := hide him
          clear hlx hN hi him
          generalize wX bs m ++ List.replicate (64 - i) 0 = cur at *
          generalize hnw : wX bs (m + 1) ++ List.replicate (64 - (i + 1)) 0 = new at *
          have HNw := hide hnw
          clear hnw
          have HS := hide hset
          have HC := hide hcl
          clear hset hcl
          go_wp2_with fail
          rename_i Q1 K1 hK1
          have hset := HS.out
          have hcl := HC.out
          refine wp_region_vals [5, 15, 23] (SWd cur g3 i) (JB g3 65 wr 2 (vk .u32 cur) (vk .u32 new)) (by kernel_rfl) (by kernel_rfl) (by kernel_rfl) (by kernel_rfl) (by kernel_rfl) (JB.start rr rfl) ?obs ?he
          case obs =>
            refine ⟨?_, ?_, ?_, ?_, ?_, ?_, ?_, ?_, ?_, ?_, ?_, ?_, ?_, ?_, ?_, ?_, ?_, ?_, ?_, ?_, ?_, ?_, ?_, ?_, trivial⟩
            · exact .inl ⟨by kernel_rfl, fun L a1 w1 n h => ⟨_, rfl, run_move (.tmp 6) rfl (h.var n 6 (by kernel_rfl))⟩⟩
            · exact .inl ⟨by kernel_rfl, fun L a1 w1 n h => ⟨_, rfl, run_move (.tmp 6) rfl (h.var n 6 (by kernel_rfl))⟩⟩
            · refine .inl ⟨by kernel_rfl, fun L a1 w1 n h => ⟨.int .i64 ((i - 2 : Nat) : Int), rfl, ?_⟩⟩
              have e0 : a1.eval (.tmp 22) = _ := h.dep n 1 22 (by kernel_rfl) rfl
              unfold execOp
              simp only [e0]
              go_simp
              first | omega | (rw [IntWalk.i64_in _ (by omega)]; congr 3; omega)
            · exact .inl ⟨by kernel_rfl, fun L a1 w1 n h => ⟨_, rfl, run_index0 65 (.tmp 3) (.tmp 23) 64 64 g3 (i - 2) rfl Tryd.underlying65 Tryd.sizeOf64 (h.var n 3 (by kernel_rfl)) (h.dep n 2 23 (by kernel_rfl) rfl) (by omega)⟩⟩
            · exact .inl ⟨by kernel_rfl, fun L a1 w1 n h => ⟨_, rfl, run_loadA 64 (.tmp 24) ⟨g3, i - 2, none⟩ rfl Tryd.isAgg64 (h.dep n 3 24 (by kernel_rfl) rfl) ((h.inv.1 (n.later (by kernel_rfl))).cell (vk_get (kd := .u32) (xs := cur) (j := i - 2) (by omega)))⟩⟩
            · refine .inr fun L a1 w1 n h K hK => ?_
              have e0 : a1.eval (.tmp 25) = .int .u32 (cur.getD (i - 2) 0) := h.dep n 4 25 (by kernel_rfl) rfl
              refine st_call 69 _ _ #[.int .u32 (cur.getD (i - 2) 0)] rfl Tryd.call69 ?_ (pureB (s1_any (cur.getD (i - 2) 0) w1 (hcw.getD _))) ?_
              · simp only [List.map_toArray, List.map_cons, List.map_nil, e0]
              · rintro e w3 ⟨rfl, b9⟩
                exact ⟨_, rfl, hK _ w3 rfl (JB.callX h.inv b9 rfl)⟩
            · exact .inl ⟨by kernel_rfl, fun L a1 w1 n h => ⟨_, rfl, run_move (.tmp 6) rfl (h.var n 6 (by kernel_rfl))⟩⟩
            · refine .inl ⟨by kernel_rfl, fun L a1 w1 n h => ⟨.int .i64 ((i - 7 : Nat) : Int), rfl, ?_⟩⟩
              have e0 : a1.eval (.tmp 27) = _ := h.dep n 6 27 (by kernel_rfl) rfl
              unfold execOp
              simp only [e0]
              go_simp
              first | omega | (rw [IntWalk.i64_in _ (by omega)]; congr 3; omega)
            · exact .inl ⟨by kernel_rfl, fun L a1 w1 n h => ⟨_, rfl, run_index0 65 (.tmp 3) (.tmp 28) 64 64 g3 (i - 7) rfl Tryd.underlying65 Tryd.sizeOf64 (h.var n 3 (by kernel_rfl)) (h.dep n 7 28 (by kernel_rfl) rfl) (by omega)⟩⟩
            · exact .inl ⟨by kernel_rfl, fun L a1 w1 n h => ⟨_, rfl, run_loadA 64 (.tmp 29) ⟨g3, i - 7, none⟩ rfl Tryd.isAgg64 (h.dep n 8 29 (by kernel_rfl) rfl) ((h.inv.1 (n.later (by kernel_rfl))).cell (vk_get (kd := .u32) (xs := cur) (j := i - 7) (by omega)))⟩⟩
            · refine .inl ⟨by kernel_rfl, fun L a1 w1 n h => ⟨.int .u32 ((sg_s1 (cur.getD (i - 2) 0) + cur.getD (i - 7) 0) % 4294967296), rfl, ?_⟩⟩
              have e0 : a1.eval (.tmp 26) = _ := h.dep n 5 26 (by kernel_rfl) rfl
              have e1 : a1.eval (.tmp 30) = _ := h.dep n 9 30 (by kernel_rfl) rfl
              unfold execOp
              simp only [e0, e1]
              go_simp
              simp only [IntKind.wrap_u32]
            · exact .inl ⟨by kernel_rfl, fun L a1 w1 n h => ⟨_, rfl, run_move (.tmp 6) rfl (h.var n 6 (by kernel_rfl))⟩⟩
            · refine .inl ⟨by kernel_rfl, fun L a1 w1 n h => ⟨.int .i64 ((i - 15 : Nat) : Int), rfl, ?_⟩⟩
              have e0 : a1.eval (.tmp 32) = _ := h.dep n 11 32 (by kernel_rfl) rfl
              unfold execOp
              simp only [e0]
              go_simp
              first | omega | (rw [IntWalk.i64_in _ (by omega)]; congr 3; omega)
            · exact .inl ⟨by kernel_rfl, fun L a1 w1 n h => ⟨_, rfl, run_index0 65 (.tmp 3) (.tmp 33) 64 64 g3 (i - 15) rfl Tryd.underlying65 Tryd.sizeOf64 (h.var n 3 (by kernel_rfl)) (h.dep n 12 33 (by kernel_rfl) rfl) (by omega)⟩⟩
            · exact .inl ⟨by kernel_rfl, fun L a1 w1 n h => ⟨_, rfl, run_loadA 64 (.tmp 34) ⟨g3, i - 15, none⟩ rfl Tryd.isAgg64 (h.dep n 13 34 (by kernel_rfl) rfl) ((h.inv.1 (n.later (by kernel_rfl))).cell (vk_get (kd := .u32) (xs := cur) (j := i - 15) (by omega)))⟩⟩
            · refine .inr fun L a1 w1 n h K hK => ?_
              have e0 : a1.eval (.tmp 35) = .int .u32 (cur.getD (i - 15) 0) := h.dep n 14 35 (by kernel_rfl) rfl
              refine st_call 70 _ _ #[.int .u32 (cur.getD (i - 15) 0)] rfl Tryd.call70 ?_ (pureB (s0_any (cur.getD (i - 15) 0) w1 (hcw.getD _))) ?_
              · simp only [List.map_toArray, List.map_cons, List.map_nil, e0]
              · rintro e w3 ⟨rfl, b9⟩
                exact ⟨_, rfl, hK _ w3 rfl (JB.callX h.inv b9 rfl)⟩
            · refine .inl ⟨by kernel_rfl, fun L a1 w1 n h => ⟨.int .u32 ((sg_s1 (cur.getD (i - 2) 0) + cur.getD (i - 7) 0 + sg_s0 (cur.getD (i - 15) 0)) % 4294967296), rfl, ?_⟩⟩
              have e0 : a1.eval (.tmp 31) = _ := h.dep n 10 31 (by kernel_rfl) rfl
              have e1 : a1.eval (.tmp 36) = _ := h.dep n 15 36 (by kernel_rfl) rfl
              unfold execOp
              simp only [e0, e1]
              go_simp
              simp only [IntKind.wrap_u32, Int.emod_add_emod]
            · exact .inl ⟨by kernel_rfl, fun L a1 w1 n h => ⟨_, rfl, run_move (.tmp 6) rfl (h.var n 6 (by kernel_rfl))⟩⟩
            · refine .inl ⟨by kernel_rfl, fun L a1 w1 n h => ⟨.int .i64 ((i - 16 : Nat) : Int), rfl, ?_⟩⟩
              have e0 : a1.eval (.tmp 38) = _ := h.dep n 17 38 (by kernel_rfl) rfl
              unfold execOp
              simp only [e0]
              go_simp
              first | omega | (rw [IntWalk.i64_in _ (by omega)]; congr 3; omega)
            · exact .inl ⟨by kernel_rfl, fun L a1 w1 n h => ⟨_, rfl, run_index0 65 (.tmp 3) (.tmp 39) 64 64 g3 (i - 16) rfl Tryd.underlying65 Tryd.sizeOf64 (h.var n 3 (by kernel_rfl)) (h.dep n 18 39 (by kernel_rfl) rfl) (by omega)⟩⟩
            · exact .inl ⟨by kernel_rfl, fun L a1 w1 n h => ⟨_, rfl, run_loadA 64 (.tmp 40) ⟨g3, i - 16, none⟩ rfl Tryd.isAgg64 (h.dep n 19 40 (by kernel_rfl) rfl) ((h.inv.1 (n.later (by kernel_rfl))).cell (vk_get (kd := .u32) (xs := cur) (j := i - 16) (by omega)))⟩⟩
            · refine .inl ⟨by kernel_rfl, fun L a1 w1 n h => ⟨.int .u32 ((sg_s1 (cur.getD (i - 2) 0) + cur.getD (i - 7) 0 + sg_s0 (cur.getD (i - 15) 0) + cur.getD (i - 16) 0) % 4294967296), rfl, ?_⟩⟩
              have e0 : a1.eval (.tmp 37) = _ := h.dep n 16 37 (by kernel_rfl) rfl
              have e1 : a1.eval (.tmp 41) = _ := h.dep n 20 41 (by kernel_rfl) rfl
              unfold execOp
              simp only [e0, e1]
              go_simp
              simp only [IntKind.wrap_u32, Int.emod_add_emod]
            · exact .inl ⟨by kernel_rfl, fun L a1 w1 n h => ⟨_, rfl, run_index0 65 (.tmp 3) (.tmp 21) 64 64 g3 (i) rfl Tryd.underlying65 Tryd.sizeOf64 (h.var n 3 (by kernel_rfl)) (h.dep n 0 21 (by kernel_rfl) rfl) (by omega)⟩⟩
            · refine .inr fun L a1 w1 n h K hK => ?_
              have no : L.getD 23 false = false := n.not_yet
              have e1 : a1.eval (.tmp 43) = _ := h.dep n 22 43 (by kernel_rfl) rfl
              have e2 : a1.eval (.tmp 42) = _ := h.dep n 21 42 (by kernel_rfl) rfl
              refine st_store 64 (.tmp 43) (.tmp 42) g3 i 65 (vk .u32 cur) _ rfl (by kernel_rfl) e1 e2 (h.inv.1 no) (by rw [vk_len]; omega) rfl ?_
              intro w3 r3 o3
              rw [vk_set, hset] at r3
              exact hK undef w3 trivial (JB.store h.inv o3 r3 rfl)
          case he =>
            intro V w7 hV hJ
            have r7 := hJ.2.1 rfl
            have bu := hJ.2.2
            clear hV hJ
            simp only [putOps, List.setIfInBounds_toArray, List.set_cons_succ, List.set_cons_zero]
            refine hK1 _ _ ?_
            go_wp2
            go_roundw
            case rel => exact ⟨m + 1, by have := HI.out; omega, by rw [HM.out]; go_num, by rw [HM.out, HNw.out]; exact r7, r2r.but bu hg23, br.trans (bu.below q3 br.size)⟩
            case measure => simp [intOf]; omega
        · have h48 : m = 48 := by omega
          have h64 : i = 64 := by omega
          rw [HWA.out m h48, show 64 - i = 0 by omega, List.replicate_zero, List.append_nil] at rr
          clear hi h48 h64
          have hnl : decide ((i : Int) < 64) = false := by simp; omega
          go_wp2_with (first
            | (with_reducible refine wl_load_row rfl 65 (.tmp 3) g3 65 (vk .u32 WA) _ rfl rfl rr Tryd.underlying65 rfl zw.out ?_)
            | (with_reducible refine wl_store_row rfl 65 (.tmp 2) (.tmp 44) g2 65 _ (vk .u32 WA) rfl rfl rfl r2r zw.out lw.out (vk_one' _ _) ?_; intro w8 r8 o8))
          refine bodyPost_ret (v := .agg (vk .u32 WA).toArray) ?_ rfl ⟨rfl, ?_⟩
          · exact results_cell_row Tryd.results63 _ _ g2 65 _ (0, 0) _ rfl r8 Tryd.underlying65 rfl zw.out
          · exact br.trans (o8.below (by omega))
end Go.Proofs.YtbolfkigiachlaaDoor

/-
  SHA-256: the state behind a block: contract. Own work.
-/
namespace Go.Proofs.YtbolfkigiachlaaDoor
open Go.RowKit
theorem run_indexV {P : Program} (w : World) (T elem len : Nat) (cs : Array Value) (i : Nat) (v : Value) (hu : P.underlying T = some (.array len elem)) (ha : ∀ w, (isAgg elem).run P w = .ok false w) (hs : ∀ w, (sizeOf elem).run P w = .ok 1 w) (hi : i < len) (hv : cs[i]? = some v) :
    (Instr.index T (.agg cs) (.int .i64 i)).run P w = .ok v w := by
  have h2 : ((0 : Int) ≤ i ∧ (i : Int) < len) := by omega
  have h3 : ¬ len ≤ i := by omega
  simp [Instr.index, asIntOf, underlying, hu, part, ha, hs, h2, h3, hv]
def startL : List Int := [0x6a09e667, 0xbb67ae85, 0x3c6ef372, 0xa54ff53a, 0x510e527f, 0x9b05688c, 0x1f83d9ab, 0x5be0cd19]
def rootsL : List Int := [
  0x428a2f98, 0x71374491, 0xb5c0fbcf, 0xe9b5dba5, 0x3956c25b, 0x59f111f1, 0x923f82a4, 0xab1c5ed5,
  0xd807aa98, 0x12835b01, 0x243185be, 0x550c7dc3, 0x72be5d74, 0x80deb1fe, 0x9bdc06a7, 0xc19bf174,
  0xe49b69c1, 0xefbe4786, 0x0fc19dc6, 0x240ca1cc, 0x2de92c6f, 0x4a7484aa, 0x5cb0a9dc, 0x76f988da,
  0x983e5152, 0xa831c66d, 0xb00327c8, 0xbf597fc7, 0xc6e00bf3, 0xd5a79147, 0x06ca6351, 0x14292967,
  0x27b70a85, 0x2e1b2138, 0x4d2c6dfc, 0x53380d13, 0x650a7354, 0x766a0abb, 0x81c2c92e, 0x92722c85,
  0xa2bfe8a1, 0xa81a664b, 0xc24b8b70, 0xc76c51a3, 0xd192e819, 0xd6990624, 0xf40e3585, 0x106aa070,
  0x19a4c116, 0x1e376c08, 0x2748774c, 0x34b0bcb5, 0x391c0cb3, 0x4ed8aa4a, 0x5b9cca4f, 0x682e6ff3,
  0x748f82ee, 0x78a5636f, 0x84c87814, 0x8cc70208, 0x90befffa, 0xa4506ceb, 0xbef9a3f7, 0xc67178f2]
/-- The program's two tables. -/
def Tabs (w : World) : Prop := (3 + 1) ≤ w.heap.size ∧ (∀ j, j < 8 → w.cell? ⟨2, j, none⟩ = some (.int .u32 (startL.getD j 0))) ∧ ∀ j, j < 64 → w.cell? ⟨3, j, none⟩ = some (.int .u32 (rootsL.getD j 0))
theorem Tabs.below {w w' : World} {B : Nat} (h : Tabs w) (hb : Below B w w') (h2 : (3 + 1) ≤ B) : Tabs w' := by
  refine ⟨Nat.le_trans h.1 hb.size, fun j hj => ?_, fun j hj => ?_⟩
  · rw [hb.cell (by show 2 < B; omega)]; exact h.2.1 j hj
  · rw [hb.cell (by show 3 < B; omega)]; exact h.2.2 j hj
theorem Tabs.later {w w' : World} (h : Tabs w) (hb : Below w.heap.size w w') : Tabs w' := h.below hb h.1
theorem isW_of_all {xs : List Int} (h : (xs.all fun x => decide (0 ≤ x) && decide (x < 4294967296)) = true) : IsW xs := fun x hx => by
  have := List.all_eq_true.1 h x hx
  simp at this
  exact this
theorem rootsW : IsW rootsL := isW_of_all (by decide +kernel)
theorem startW : IsW startL := isW_of_all (by decide +kernel)
/-- The state behind a round. -/
def rndS (s : List Int) (x : Int) : List Int := rndL (s.getD 0 0) (s.getD 1 0) (s.getD 2 0) (s.getD 3 0) (s.getD 4 0) (s.getD 5 0) (s.getD 6 0) (s.getD 7 0) x
theorem rndS_len (s : List Int) (x : Int) : (rndS s x).length = 8 := rfl
theorem rndS_w {s : List Int} (h : IsW s) (x : Int) : IsW (rndS s x) := by
  intro y hy
  simp only [rndS, rndL, List.mem_cons, List.not_mem_nil, or_false] at hy
  rcases hy with rfl | rfl | rfl | rfl | rfl | rfl | rfl | rfl
  · exact mod_w32 _
  · exact h.getD _
  · exact h.getD _
  · exact h.getD _
  · exact mod_w32 _
  · exact h.getD _
  · exact h.getD _
  · exact h.getD _
theorem list8 {s : List Int} (h : s.length = 8) : s = [s.getD 0 0, s.getD 1 0, s.getD 2 0, s.getD 3 0, s.getD 4 0, s.getD 5 0, s.getD 6 0, s.getD 7 0] := by
  match s, h with
  | [a, b, c, d, e, f, g, i], _ => rfl
theorem round_s (s : List Int) (x : Int) (w : World) (hl : s.length = 8) (hs : IsW s) (hx : w32 x) :
    Calls Tryd.prog 64 #[.agg (vk .u32 s).toArray, .int .u32 x] w fun en w' => en = .returned (.agg (vk .u32 (rndS s x)).toArray) ∧ Below w.heap.size w w' := by
  have h := round_any (s.getD 0 0) (s.getD 1 0) (s.getD 2 0) (s.getD 3 0) (s.getD 4 0) (s.getD 5 0) (s.getD 6 0) (s.getD 7 0) x w (hs.getD _) (hs.getD _) (hs.getD _) (hs.getD _) (hs.getD _) (hs.getD _) (hs.getD _) (hs.getD _) hx
  rw [← list8 hl] at h
  exact h
/-- The state behind some rounds. -/
def stN (s W : List Int) : Nat → List Int
  | 0 => s
  | k + 1 => rndS (stN s W k) ((rootsL.getD k 0 + W.getD k 0) % 4294967296)
theorem stN_len {s : List Int} (h : s.length = 8) (W : List Int) (k : Nat) : (stN s W k).length = 8 := by cases k <;> first | exact h | rfl
theorem stN_w {s : List Int} (h : IsW s) (W : List Int) (k : Nat) : IsW (stN s W k) := by
  induction k with
  | zero => exact h
  | succ k ih => exact rndS_w ih _
def adZ (s t : List Int) : List Int := List.zipWith (fun a b => (a + b) % 4294967296) s t
theorem adZ_len {s t : List Int} (h1 : s.length = 8) (h2 : t.length = 8) : (adZ s t).length = 8 := by simp [adZ, h1, h2]
theorem adZ_w (s t : List Int) : IsW (adZ s t) := by
  intro x hx
  unfold adZ at hx
  obtain ⟨i, hi, rfl⟩ := List.getElem_of_mem hx
  rw [List.getElem_zipWith]
  exact mod_w32 _
theorem adZ_get {s t : List Int} (h1 : s.length = 8) (h2 : t.length = 8) {k : Nat} (hk : k < 8) : (adZ s t).getD k 0 = (s.getD k 0 + t.getD k 0) % 4294967296 := by
  simp [adZ, List.getD, List.getElem?_zipWith, List.getElem?_eq_getElem (show k < s.length by omega), List.getElem?_eq_getElem (show k < t.length by omega)]
def mixL (z s : List Int) (k : Nat) : List Int := z.take k ++ s.drop k
theorem mixL_len {z s : List Int} (h1 : z.length = 8) (h2 : s.length = 8) {k : Nat} (hk : k ≤ 8) : (mixL z s k).length = 8 := by unfold mixL; rw [List.length_append, List.length_take, List.length_drop]; omega
theorem mixL_get {z s : List Int} (h1 : z.length = 8) (h2 : s.length = 8) {k : Nat} (hk : k < 8) : (mixL z s k).getD k 0 = s.getD k 0 := by
  unfold mixL
  simp [List.getD, List.getElem?_append, List.length_take, h1, show ¬ k < min k 8 by omega, show k - min k 8 = 0 by omega]
theorem mixL_set {z s : List Int} (h1 : z.length = 8) (h2 : s.length = 8) {k : Nat} (hk : k < 8) : (mixL z s k).set k (z.getD k 0) = mixL z s (k + 1) := by
  unfold mixL
  rw [List.set_append_right _ _ (by rw [List.length_take]; omega), List.length_take, h1, show k - min k 8 = 0 by omega, List.drop_eq_getElem_cons (show k < s.length by omega), List.set_cons_zero, List.take_succ_eq_append_getElem (show k < z.length by omega), List.append_assoc]
  simp [List.getD, List.getElem?_eq_getElem (show k < z.length by omega)]
/-- The state behind a block. -/
def blkS (s bs : List Int) : List Int := adZ s (stN s (wAll bs) 64)
theorem blkS_len {s : List Int} (h : s.length = 8) (bs : List Int) : (blkS s bs).length = 8 := adZ_len h (stN_len h _ _)
theorem blkS_w (s bs : List Int) : IsW (blkS s bs) := adZ_w _ _
def SBe5 (cur new : List Int) (y : Int) (g5 i : Nat) (opn : Nat) (v : Value) : Prop :=
  match opn with
  | 0 => v = .agg (vk .u32 cur).toArray
  | 1 => v = .int .i64 (i : Int)
  | 2 => v = .pointer (some ⟨3, i, none⟩)
  | 3 => v = .int .u32 (rootsL.getD i 0)
  | 4 => v = .int .u32 y
  | 5 => v = .int .u32 ((rootsL.getD i 0 + y) % 4294967296)
  | 6 => v = .agg (vk .u32 new).toArray
  | _ => True

def SBe10 (cur fin : List Int) (g2 g5 i : Nat) (opn : Nat) (v : Value) : Prop :=
  match opn with
  | 0 | 3 => v = .int .i64 (i : Int)
  | 1 | 7 => v = .pointer (some ⟨g2, i, none⟩)
  | 2 => v = .int .u32 (cur.getD i 0)
  | 4 => v = .pointer (some ⟨g5, i, none⟩)
  | 5 => v = .int .u32 (fin.getD i 0)
  | 6 => v = .int .u32 ((cur.getD i 0 + fin.getD i 0) % 4294967296)
  | _ => True

set_option maxRecDepth 100000 in
set_option maxHeartbeats 2000000 in
theorem behind_any (st bs : List Int) (w : World) (hT : Tabs w) (hsl : st.length = 8) (hsw : IsW st) (hl : bs.length = 64) (hb : IsBy bs) :
    Calls Tryd.prog 58 #[.agg (vk .u32 st).toArray, .agg (bv bs).toArray] w fun en w' => en = .returned (.agg (vk .u32 (blkS st bs)).toArray) ∧ Below w.heap.size w w' := by
  have z64 := hide (size64b hl)
  have HW := fun w => words_any bs w hl hb
  have hWl := wAll_len bs
  have hWw := wAll_w hb
  have HF := hide (show ∀ k, k = 64 → adZ st (stN st (wAll bs) k) = blkS st bs from fun k h => by rw [h]; rfl)
  have z8 := hide (size8 hsl)
  have l8 := hide (show (vk .u32 (List.replicate 8 0)).length = (vk .u32 st).length by rw [vk_len, vk_len, hsl, List.length_replicate])
  have hfl := blkS_len hsl bs
  have zf := hide (size8 hfl)
  have lf := hide (show (vk .u32 (List.replicate 8 0)).length = (vk .u32 (blkS st bs)).length by rw [vk_len, vk_len, hfl, List.length_replicate])
  have HWL := hide hWl
  have Hsl := hide hsl
  have zW := hide (size64u hWl)
  clear hl hWl hfl hsl
  generalize wAll bs = W at *
  generalize blkS st bs = FS at *
  go_enter Tryd.func58, Tryd.ntmps58
  go_wp2_with (first
    | (with_reducible refine wl_box rfl 86 (.tmp 0) _ (vk .u32 st) rfl rfl rfl ?_; intro g2 w1 r1 p1 l1 b1)
    | (with_reducible refine wl_box rfl 85 (.tmp 1) _ (bv bs) rfl rfl rfl ?_; intro g3 w2 r2 p2 l2 b2; have r1a := r1.later b2)
    | (with_reducible refine wl_alloc (o := ⟨some 4, _, _, _, _, _⟩) rfl 86 _ (vk .u32 (List.replicate 8 0)) rfl zero8u rfl ?_; intro g4 w3 r3 p3 l3 b3; have r1b := r1a.later b3; have r2a := r2.later b3)
    | (with_reducible refine wl_load_row rfl 86 (.tmp 2) g2 86 (vk .u32 st) _ rfl rfl r1b Tryd.underlying86 rfl z8.out ?_)
    | (with_reducible refine wl_alloc (o := ⟨some 5, _, _, _, _, _⟩) rfl 86 _ (vk .u32 (List.replicate 8 0)) rfl zero8u rfl ?_; intro g5 w4 r4 p4 l4 b4; have r1c := r1b.later b4; have r2b := r2a.later b4; have r3a := r3.later b4)
    | (with_reducible refine wl_store_row rfl 86 (.tmp 5) (.tmp 9) g5 86 _ (vk .u32 st) rfl rfl rfl r4 z8.out l8.out (vk_one' _ _) ?_; intro w5 r5 o5; have r2c := r2b.only o5 (by have := r2a.lt; omega))
    | (with_reducible refine wl_load_row rfl 85 (.tmp 3) g3 85 (bv bs) _ rfl rfl r2c Tryd.underlying85 rfl z64.out ?_))
  have s1 := b1.size; have s2 := b2.size; have s3 := b3.size; have s4 := b4.size
  have B4 := ((b1.trans (b2.mono s1)).trans (b3.mono (Nat.le_trans s1 s2))).trans (b4.mono (Nat.le_trans s1 (Nat.le_trans s2 s3)))
  have q2 : w.heap.size ≤ g2 := p1
  have q4 : w.heap.size ≤ g4 := by omega
  have q5 : w.heap.size ≤ g5 := by omega
  have h25 : g2 ≠ g5 := by have := r1b.lt; omega
  have h45 : g4 ≠ g5 := by have := r3.lt; omega
  have h24 : g2 ≠ g4 := by have := r1a.lt; omega
  have B5 := B4.trans (o5.below q5)
  have r1d := r1c.only o5 h25
  have r3b := r3a.only o5 h45
  clear r1 r1a r1b r1c r2 r2a r2b r2c r3 r3a r4 o5 b1 b2 b3 b4 B4 z64
  refine (HW w5).mono ?_
  rintro en w6 ⟨rfl, b6⟩
  have R5 := r5.later b6
  have R2 := r1d.later b6
  have R4 := r3b.later b6
  have B6 := B5.trans (b6.mono B5.size)
  clear HW r5 r1d r3b b6 B5
  go_wp2_with fail
  go_loopw [12] (fun iv wr => ∃ k : Nat, k ≤ 64 ∧ iv = .int .i64 k ∧ Row wr 86 g5 (vk .u32 (stN st W k)) ∧ Row wr 86 g2 (vk .u32 st) ∧ Row wr 86 g4 (vk .u32 (List.replicate 8 0)) ∧ Below w.heap.size w wr) (fun iv _ => 64 - (intOf iv).toNat)
  case atStart => exact ⟨0, Nat.zero_le _, rfl, R5, R2, R4, B6⟩
  case round =>
    clear R5 R2 R4
    obtain ⟨i, hk, rfl, r5, r2, r4, br⟩ := hrel
    by_cases hi : i < 64
    · have hcl := stN_len Hsl.out W i
      have hcw := stN_w hsw W i
      have hidx : (vk .u32 W)[i]? = some (.int .u32 (W.getD i 0)) := vk_get (by rw [HWL.out]; exact hi)
      have hnew : rndS (stN st W i) ((rootsL.getD i 0 + W.getD i 0) % 4294967296) = stN st W (i + 1) := rfl
      have hnl := stN_len Hsl.out W (i + 1)
      have Hcl := hide hcl
      have Hnl := hide hnl
      have Hnew := hide hnew.symm
      clear hcl hnl hnew
      generalize hn2 : stN st W (i + 1) = new at *
      have Hn2 := hide hn2
      clear hn2
      generalize stN st W i = cur at *
      generalize W.getD i 0 = y at *
      have hIx : ∀ w, (Instr.index 65 (.agg (vk .u32 W).toArray) (.int .i64 (i : Int))).run Tryd.prog w = .ok (.int .u32 y) w := fun w => run_indexV w 65 64 64 (vk .u32 W).toArray i (.int .u32 y) Tryd.underlying65 Tryd.isAgg64 Tryd.sizeOf64 hi (by simpa using hidx)
      go_wp2_with (first | rw [hIx])
      rename_i Q1 K1 hK1
      have hcl := Hcl.out
      have hnl := Hnl.out
      have hnew := Hnew.out
      have hg5 := q5
      have hwr := br.size
      have hgr : 3 < w.heap.size := hT.1
      have hTr := hT.later br
      refine wp_region_vals [6, 7] (SBe5 cur new y g5 i) (JB g5 86 wr 1 (vk .u32 cur) (vk .u32 new)) (by kernel_rfl) (by kernel_rfl) (by kernel_rfl) (by kernel_rfl) (by kernel_rfl) (JB.start r5 rfl) ?obs ?he
      case obs =>
        refine ⟨?_, ?_, ?_, ?_, ?_, ?_, ?_, ?_, trivial⟩
        · exact .inl ⟨by kernel_rfl, fun L a1 w1 n h => ⟨_, rfl, run_loadRow 86 (.tmp 5) g5 86 _ _ rfl (h.var n 5 (by kernel_rfl)) (h.inv.1 (n.later (by kernel_rfl))) Tryd.underlying86 rfl (size8 hcl)⟩⟩
        · exact .inl ⟨by kernel_rfl, fun L a1 w1 n h => ⟨_, rfl, run_move (.tmp 6) rfl (h.var n 6 (by kernel_rfl))⟩⟩
        · exact .inl ⟨by kernel_rfl, fun L a1 w1 n h => ⟨_, rfl, run_index0 65 (.global 3) (.tmp 17) 64 64 3 i rfl Tryd.underlying65 Tryd.sizeOf64 rfl (h.dep n 1 17 (by kernel_rfl) rfl) hi⟩⟩
        · exact .inl ⟨by kernel_rfl, fun L a1 w1 n h => ⟨_, rfl, run_loadA 64 (.tmp 18) ⟨3, i, none⟩ rfl Tryd.isAgg64 (h.dep n 2 18 (by kernel_rfl) rfl) (((h.inv.2.2.below hg5 hwr).cell hgr).trans (hTr.2.2 i hi))⟩⟩
        · exact .inl ⟨by kernel_rfl, fun L a1 w1 n h => ⟨_, rfl, run_move (.tmp 7) rfl (h.var n 7 (by kernel_rfl))⟩⟩
        · refine .inl ⟨by kernel_rfl, fun L a1 w1 n h => ⟨.int .u32 ((rootsL.getD i 0 + y) % 4294967296), rfl, ?_⟩⟩
          have e0 : a1.eval (.tmp 19) = _ := h.dep n 3 19 (by kernel_rfl) rfl
          have e1 : a1.eval (.tmp 20) = _ := h.dep n 4 20 (by kernel_rfl) rfl
          unfold execOp
          simp only [e0, e1]
          go_simp
          simp only [IntKind.wrap_u32]
        · refine .inr fun L a1 w1 n h K hK => ?_
          have e0 : a1.eval (.tmp 16) = .agg (vk .u32 cur).toArray := h.dep n 0 16 (by kernel_rfl) rfl
          have e1 : a1.eval (.tmp 21) = .int .u32 ((rootsL.getD i 0 + y) % 4294967296) := h.dep n 5 21 (by kernel_rfl) rfl
          refine st_call 64 _ _ #[.agg (vk .u32 cur).toArray, .int .u32 ((rootsL.getD i 0 + y) % 4294967296)] rfl Tryd.call64 ?_ (round_s cur _ w1 hcl hcw (mod_w32 _)) ?_
          · simp only [List.map_toArray, List.map_cons, List.map_nil, e0, e1]
          · rintro e w3 ⟨he, b9⟩
            exact ⟨_, he, hK _ w3 (by rw [hnew]; rfl) (JB.callX h.inv b9 rfl)⟩
        · refine .inr fun L a1 w1 n h K hK => ?_
          have no : L.getD 7 false = false := n.not_yet
          refine st_store_row 86 (.tmp 5) (.tmp 22) g5 86 (vk .u32 cur) (vk .u32 new) rfl (h.var n 5 (by kernel_rfl)) (h.dep n 6 22 (by kernel_rfl) rfl) (h.inv.1 no) (size8 hnl) (by rw [vk_len, vk_len, hcl, hnl]) (vk_one' _ _) ?_
          intro w3 r3 o3
          exact hK undef w3 trivial (JB.store h.inv o3 r3 rfl)
      case he =>
        intro V w7 hV hJ
        have r7 := hJ.2.1 rfl
        have bu := hJ.2.2
        clear hV hJ hcl hnl hnew
        simp only [putOps, List.setIfInBounds_toArray, List.set_cons_succ, List.set_cons_zero]
        refine hK1 _ _ ?_
        go_wp2
        go_roundw
        case rel => exact ⟨i + 1, by omega, by go_num, by rw [Hn2.out]; exact r7, r2.but bu h25, r4.but bu h45, br.trans (bu.below q5 br.size)⟩
        case measure => simp [intOf]; omega
    · have hk64 : i = 64 := by omega
      have HFin := HF.out i hk64
      have hfl2 := stN_len Hsl.out W i
      have hnl : decide ((i : Int) < 64) = false := by simp; omega
      have Hfl := hide hfl2
      have HFin' := hide HFin
      clear hk64 HFin hfl2 HF hk
      generalize stN st W i = fin at *
      have hzl := adZ_len Hsl.out Hfl.out
      have HZ := hide hzl
      clear hzl
      go_wp2_with fail
      go_loopw [24] (fun iv wq => ∃ k : Nat, k ≤ 8 ∧ iv = .int .i64 k ∧ Row wq 86 g2 (vk .u32 (mixL (adZ st fin) st k)) ∧ Row wq 86 g5 (vk .u32 fin) ∧ Row wq 86 g4 (vk .u32 (List.replicate 8 0)) ∧ Below w.heap.size w wq) (fun iv _ => 8 - (intOf iv).toNat)
      case atStart => exact ⟨0, Nat.zero_le _, rfl, r2, r5, r4, br⟩
      case round =>
        clear r2 r5 r4 br
        obtain ⟨i, hk, rfl, r2, r5, r4, br⟩ := hrel
        by_cases hi : i < 8
        · have hcl := mixL_len HZ.out Hsl.out (k := i) (by omega)
          have hset := mixL_set HZ.out Hsl.out hi
          have hget := mixL_get HZ.out Hsl.out hi
          rw [adZ_get Hsl.out Hfl.out hi, ← hget] at hset
          have Hcl := hide hcl
          have Hset := hide hset
          clear hcl hset hget
          generalize hn : mixL (adZ st fin) st (i + 1) = new at *
          generalize mixL (adZ st fin) st i = cur at *
          have Hn := hide hn
          clear hn
          go_wp2_with fail
          rename_i Q1 K1 hK1
          have hcl := Hcl.out
          have hset := Hset.out
          have hfl := Hfl.out
          have hg52 := h25.symm
          refine wp_region_vals [8] (SBe10 cur fin g2 g5 i) (JB g2 86 wr 0 (vk .u32 cur) (vk .u32 new)) (by kernel_rfl) (by kernel_rfl) (by kernel_rfl) (by kernel_rfl) (by kernel_rfl) (JB.start r2 rfl) ?obs ?he
          case obs =>
            refine ⟨?_, ?_, ?_, ?_, ?_, ?_, ?_, ?_, ?_, trivial⟩
            · exact .inl ⟨by kernel_rfl, fun L a1 w1 n h => ⟨_, rfl, run_move (.tmp 8) rfl (h.var n 8 (by kernel_rfl))⟩⟩
            · exact .inl ⟨by kernel_rfl, fun L a1 w1 n h => ⟨_, rfl, run_index0 86 (.tmp 2) (.tmp 27) 8 64 g2 i rfl Tryd.underlying86 Tryd.sizeOf64 (h.var n 2 (by kernel_rfl)) (h.dep n 0 27 (by kernel_rfl) rfl) hi⟩⟩
            · exact .inl ⟨by kernel_rfl, fun L a1 w1 n h => ⟨_, rfl, run_loadA 64 (.tmp 28) ⟨g2, i, none⟩ rfl Tryd.isAgg64 (h.dep n 1 28 (by kernel_rfl) rfl) ((h.inv.1 (n.later (by kernel_rfl))).cell (vk_get (kd := .u32) (xs := cur) (j := i) (by omega)))⟩⟩
            · exact .inl ⟨by kernel_rfl, fun L a1 w1 n h => ⟨_, rfl, run_move (.tmp 8) rfl (h.var n 8 (by kernel_rfl))⟩⟩
            · exact .inl ⟨by kernel_rfl, fun L a1 w1 n h => ⟨_, rfl, run_index0 86 (.tmp 5) (.tmp 30) 8 64 g5 i rfl Tryd.underlying86 Tryd.sizeOf64 (h.var n 5 (by kernel_rfl)) (h.dep n 3 30 (by kernel_rfl) rfl) hi⟩⟩
            · exact .inl ⟨by kernel_rfl, fun L a1 w1 n h => ⟨_, rfl, run_loadA 64 (.tmp 31) ⟨g5, i, none⟩ rfl Tryd.isAgg64 (h.dep n 4 31 (by kernel_rfl) rfl) ((r5.but h.inv.2.2 hg52).cell (vk_get (kd := .u32) (xs := fin) (j := i) (by omega)))⟩⟩
            · refine .inl ⟨by kernel_rfl, fun L a1 w1 n h => ⟨.int .u32 ((cur.getD i 0 + fin.getD i 0) % 4294967296), rfl, ?_⟩⟩
              have e0 : a1.eval (.tmp 29) = _ := h.dep n 2 29 (by kernel_rfl) rfl
              have e1 : a1.eval (.tmp 32) = _ := h.dep n 5 32 (by kernel_rfl) rfl
              unfold execOp
              simp only [e0, e1]
              go_simp
              simp only [IntKind.wrap_u32]
            · exact .inl ⟨by kernel_rfl, fun L a1 w1 n h => ⟨_, rfl, run_index0 86 (.tmp 2) (.tmp 27) 8 64 g2 i rfl Tryd.underlying86 Tryd.sizeOf64 (h.var n 2 (by kernel_rfl)) (h.dep n 0 27 (by kernel_rfl) rfl) hi⟩⟩
            · refine .inr fun L a1 w1 n h K hK => ?_
              have no : L.getD 8 false = false := n.not_yet
              have e1 : a1.eval (.tmp 34) = _ := h.dep n 7 34 (by kernel_rfl) rfl
              have e2 : a1.eval (.tmp 33) = _ := h.dep n 6 33 (by kernel_rfl) rfl
              refine st_store 64 (.tmp 34) (.tmp 33) g2 i 86 (vk .u32 cur) _ rfl (by kernel_rfl) e1 e2 (h.inv.1 no) (by rw [vk_len]; omega) rfl ?_
              intro w3 r3 o3
              rw [vk_set, hset] at r3
              exact hK undef w3 trivial (JB.store h.inv o3 r3 rfl)
          case he =>
            intro V w7 hV hJ
            have r7 := hJ.2.1 rfl
            have bu := hJ.2.2
            clear hV hJ hcl hset hfl
            simp only [putOps, List.setIfInBounds_toArray, List.set_cons_succ, List.set_cons_zero]
            refine hK1 _ _ ?_
            go_wp2
            go_roundw
            case rel => exact ⟨i + 1, by omega, by go_num, by rw [Hn.out]; exact r7, r5.but bu hg52, r4.but bu h24.symm, br.trans (bu.below q2 br.size)⟩
            case measure => simp [intOf]; omega
        · have h8 : i = 8 := by omega
          subst h8
          have hm : mixL (adZ st fin) st 8 = FS := by
            unfold mixL
            rw [List.take_of_length_le (by rw [HZ.out]; exact Nat.le_refl _), List.drop_of_length_le (by rw [Hsl.out]; exact Nat.le_refl _), List.append_nil, HFin'.out]
          rw [hm] at r2
          clear hm
          go_wp2_with (first
            | (with_reducible refine wl_load_row rfl 86 (.tmp 2) g2 86 (vk .u32 FS) _ rfl rfl r2 Tryd.underlying86 rfl zf.out ?_)
            | (with_reducible refine wl_store_row rfl 86 (.tmp 4) (.tmp 36) g4 86 _ (vk .u32 FS) rfl rfl rfl r4 zf.out lf.out (vk_one' _ _) ?_; intro w8 r8 o8))
          refine bodyPost_ret (v := .agg (vk .u32 FS).toArray) ?_ rfl ⟨rfl, ?_⟩
          · exact results_cell_row Tryd.results58 _ _ g4 86 _ (0, 0) _ rfl r8 Tryd.underlying86 rfl zf.out
          · exact br.trans (o8.below q4)
end Go.Proofs.YtbolfkigiachlaaDoor

/-
  SHA-256: a Hash in memory; New, Len, the state's bytes, what comes behind a text: contracts. Own work.
-/
namespace Go.Proofs.YtbolfkigiachlaaDoor
open Go.RowKit
theorem IsBy.rep (n : Nat) : IsBy (List.replicate n 0) := fun x hx => by rw [List.eq_of_mem_replicate hx]; exact ⟨by decide, by decide⟩
/-- The state behind the first k blocks of a text. -/
def stK (xs : List Int) : Nat → List Int
  | 0 => startL
  | k + 1 => blkS (stK xs k) ((xs.drop (64 * k)).take 64)
theorem stK_len (xs : List Int) (k : Nat) : (stK xs k).length = 8 := by
  induction k with
  | zero => rfl
  | succ k ih => exact blkS_len ih _
theorem stK_w (xs : List Int) (k : Nat) : IsW (stK xs k) := by
  cases k with
  | zero => exact startW
  | succ k => exact blkS_w _ _
theorem stK_app {xs : List Int} (ys : List Int) {k : Nat} (h : 64 * k ≤ xs.length) : stK (xs ++ ys) k = stK xs k := by
  induction k with
  | zero => rfl
  | succ k ih =>
    unfold stK
    rw [ih (by omega), List.drop_append_of_le_length (by omega), List.take_append_of_le_length (by rw [List.length_drop]; omega)]
/-- A Hash in cells. -/
def hashL (st held : List Int) (n : Nat) : List Value := .bool true :: (vk .u32 st ++ (bv held ++ [.int .i64 (n : Int)]))
theorem hashL_len {st held : List Int} {n : Nat} (h1 : st.length = 8) (h2 : held.length = 64) : (hashL st held n).length = 74 := by simp [hashL, vk_len, bv_len, h1, h2]
theorem hash0 (st held : List Int) (n : Nat) : (hashL st held n)[0]? = some (.bool true) := rfl
theorem hash73 {st held : List Int} {n : Nat} (h1 : st.length = 8) (h2 : held.length = 64) : (hashL st held n)[73]? = some (.int .i64 (n : Int)) := by
  unfold hashL
  rw [List.getElem?_cons_succ, List.getElem?_append_right (by rw [vk_len]; omega), vk_len, h1, List.getElem?_append_right (by rw [bv_len]; omega), bv_len, h2]
  rfl
theorem hash_set {st held : List Int} {n : Nat} (m : Nat) (h1 : st.length = 8) (h2 : held.length = 64) : (hashL st held n).set 73 (.int .i64 (m : Int)) = hashL st held m := by
  unfold hashL
  rw [List.set_cons_succ, List.set_append_right _ _ (by rw [vk_len]; omega), vk_len, h1, List.set_append_right _ _ (by rw [bv_len]; omega), bv_len, h2]
  rfl
theorem hashSt {w : World} {T g n : Nat} {st held : List Int} (r : Row w T g (hashL st held n)) : Row w T g ([.bool true] ++ (vk .u32 st ++ (bv held ++ [.int .i64 (n : Int)]))) := r
theorem hashHe {w : World} {T g n : Nat} {st held : List Int} (r : Row w T g (hashL st held n)) : Row w T g ((.bool true :: vk .u32 st) ++ (bv held ++ [.int .i64 (n : Int)])) := r
theorem hashHe_len {st : List Int} (h1 : st.length = 8) : (Value.bool true :: vk .u32 st).length = 9 := by rw [List.length_cons, vk_len, h1]
theorem hash_fill {st held ys : List Int} {n r k : Nat} (h1 : st.length = 8) (h2 : held.length = 64) (hk : ys.length = k) (hr : r + k ≤ 64) :
    (hashL st held n).take (9 + r) ++ (bv ys ++ (hashL st held n).drop (9 + r + k)) = hashL st (held.take r ++ (ys ++ held.drop (r + k))) n := by
  have e : hashL st held n = (.bool true :: vk .u32 st) ++ (bv held ++ [.int .i64 (n : Int)]) := rfl
  have hl := hashHe_len h1
  rw [e, List.take_append, hl, List.take_of_length_le (by omega), show 9 + r - 9 = r by omega, List.take_append_of_le_length (by rw [bv_len]; omega), List.drop_append, hl, List.drop_of_length_le (by omega), show 9 + r + k - 9 = r + k by omega, List.drop_append_of_le_length (by rw [bv_len]; omega)]
  simp [hashL, bv, List.map_take, List.map_drop]
/-- The Hash in block g has taken in the text xs. -/
def HashAt (w : World) (g : Nat) (xs : List Int) : Prop :=
  ∃ held, held.length = 64 ∧ IsBy held ∧ held.take (xs.length % 64) = xs.drop (64 * (xs.length / 64)) ∧ Row w 88 g (hashL (stK xs (xs.length / 64)) held xs.length)
theorem HashAt.later {w w' : World} {g : Nat} {xs : List Int} (h : HashAt w g xs) (hb : Below w.heap.size w w') : HashAt w' g xs := by
  obtain ⟨held, h1, h2, h3, h4⟩ := h
  exact ⟨held, h1, h2, h3, h4.later hb⟩
theorem HashAt.lt {w : World} {g : Nat} {xs : List Int} (h : HashAt w g xs) : g < w.heap.size := by
  obtain ⟨held, h1, h2, h3, h4⟩ := h
  exact h4.lt

theorem size8s : (Tryd.prog.info? 86).map (·.size) = some (vk .u32 startL).length := by kernel_rfl
theorem builtHash : Tryd.prog.built 88 [(0, .bool true), (1, .agg (vk .u32 startL).toArray)] = some (hashL startL (List.replicate 64 0) 0).toArray := by kernel_rfl
theorem zero64b : (Tryd.prog.info? 85).map (fun i => i.zero) = some (some (.agg (bv (List.replicate 64 0)).toArray)) := by kernel_rfl
set_option maxRecDepth 100000 in
set_option maxHeartbeats 1000000 in
theorem hnew_any (w : World) (hT : Tabs w) : Calls Tryd.prog 54 #[] w fun e w' => ∃ g, e = .returned (.pointer (some ⟨g, 0, none⟩)) ∧ w.heap.size ≤ g ∧ HashAt w' g [] ∧ Below w.heap.size w w' := by
  have hcl : ∀ j v, (vk .u32 startL)[j]? = some v → w.cell? ⟨2, 0 + j, none⟩ = some v := by
    intro j v hv
    have hj : j < 8 := by have := (List.getElem?_eq_some_iff.1 hv).1; rw [vk_len] at this; exact this
    have := hT.2.1 j hj
    rw [vk_get (by exact hj)] at hv
    rw [Nat.zero_add, this]
    exact hv
  have z8 := size8s
  have bh := builtHash
  have hfin : ∀ w' g, Row w' 88 g (hashL startL (List.replicate 64 0) 0) → HashAt w' g [] := fun w' g h => ⟨List.replicate 64 0, by simp, IsBy.rep _, rfl, h⟩
  generalize startL = st at *
  generalize hashL st (List.replicate 64 0) 0 = hl at *
  go_enter Tryd.func54, Tryd.ntmps54
  go_wp2_with (first
    | (with_reducible refine wl_load_cells rfl 86 (.global 2) _ 0 (vk .u32 st) _ rfl rfl hcl Tryd.underlying86 rfl z8 ?_)
    | ((with_reducible refine wl_build rfl 88 [(0, .const (.bool true)), (1, .tmp 1)] rfl _ ?hv _ bh ?hk); case hv => rfl)
    | (with_reducible refine wl_box rfl 88 (.tmp 2) _ hl rfl rfl rfl ?_; intro g3 w3 r3 a3 l3 b3))
  go_ret
  exact ⟨g3, rfl, a3, hfin _ _ r3, b3⟩
/-- The bytes of the first k numbers of a state. -/
def byK (s : List Int) : Nat → List Int
  | 0 => []
  | k + 1 => byK s k ++ highB (s.getD k 0) 4
theorem byK_len (s : List Int) (k : Nat) : (byK s k).length = 4 * k := by
  induction k with
  | zero => rfl
  | succ k ih => unfold byK; rw [List.length_append, ih, highB_length]; omega
/-- The bytes of a state. -/
def byS (s : List Int) : List Int := byK s 8
theorem byS_len (s : List Int) : (byS s).length = 32 := byK_len s 8
theorem size32b {xs : List Int} (h : xs.length = 32) : (Tryd.prog.info? 23).map (·.size) = some (bv xs).length := by rw [bv_len, h]; kernel_rfl
theorem zero32b : (Tryd.prog.info? 23).map (fun i => i.zero) = some (some (.agg (bv (List.replicate 32 0)).toArray)) := by kernel_rfl
set_option maxRecDepth 100000 in
set_option maxHeartbeats 2000000 in
theorem bytes_any (s : List Int) (w : World) (hl : s.length = 8) (hw : IsW s) : Calls Tryd.prog 60 #[.agg (vk .u32 s).toArray] w fun e w' => e = .returned (.agg (bv (byS s)).toArray) ∧ Below w.heap.size w w' := by
  have HF := hide (show ∀ k, k = 8 → byK s k = byS s from fun k h => by rw [h]; rfl)
  have z8 := hide (size8 hl)
  have hbl := byS_len s
  have zf := hide (size32b hbl)
  have lf := hide (show (bv (List.replicate 32 0)).length = (bv (byS s)).length by rw [bv_len, bv_len, hbl, List.length_replicate])
  have Hl := hide hl
  have Hbl := hide hbl
  clear hl hbl
  generalize byS s = FS at *
  go_enter Tryd.func60, Tryd.ntmps60
  go_wp2_with (first
    | (with_reducible refine wl_box rfl 86 (.tmp 0) _ (vk .u32 s) rfl rfl rfl ?_; intro g1 w1 r1 p1 l1 b1)
    | (with_reducible refine wl_alloc rfl 23 _ (bv (List.replicate 32 0)) rfl zero32b rfl ?_; intro g2 w2 r2 p2 l2 b2; have r1' := r1.later b2)
    | (with_reducible refine wl_load_row rfl 86 (.tmp 1) g1 86 (vk .u32 s) _ rfl rfl r1' Tryd.underlying86 rfl z8.out ?_))
  have B2 := b1.trans (b2.mono b1.size)
  have q2 : w.heap.size ≤ g2 := Nat.le_trans b1.size p2
  clear r1 r1' b1 b2
  go_loopw [7, 3] (fun iv ov wr => ∃ (k n c : Nat) (A : Option Addr), k ≤ 8 ∧ iv = .int .i64 k ∧ ov = .slice A n c ∧ Bs wr wr.heap.size A n (byK s k) ∧ Row wr 23 g2 (bv (List.replicate 32 0)) ∧ n ≤ c ∧ Below w.heap.size w wr) (fun iv _ _ => 8 - (intOf iv).toNat)
  case atStart => exact ⟨0, 0, 0, none, Nat.zero_le _, rfl, rfl, Bs.nil_, r2, Nat.le_refl _, B2⟩
  case round =>
    clear r2
    obtain ⟨i, n, c, A, hk, rfl, rfl, hb, r2, hnc, br⟩ := hrel
    have hn4 : n = 4 * i := by rw [← hb.1, byK_len]
    have Hn4 := hide hn4
    clear hn4
    by_cases hi : i < 8
    · have hidx : (vk .u32 s)[i]? = some (.int .u32 (s.getD i 0)) := vk_get (by rw [Hl.out]; exact hi)
      have hy := hw.getD i
      have hIx : ∀ w, (Instr.index 86 (.agg (vk .u32 s).toArray) (.int .i64 (i : Int))).run Tryd.prog w = .ok (.int .u32 (s.getD i 0)) w := fun w => run_indexV w 86 64 8 (vk .u32 s).toArray i _ Tryd.underlying86 Tryd.isAgg64 Tryd.sizeOf64 hi (by simpa using hidx)
      have hP := hide (put32_any A n c (byK s i) (s.getD i 0) wr hb (by have := Hn4.out; omega) hy.1 hy.2)
      have hsucc : byK s i ++ highB (s.getD i 0) 4 = byK s (i + 1) := rfl
      rw [hsucc] at hP
      clear hidx hsucc hb hy
      generalize s.getD i 0 = y at *
      go_wp2_with (first | rw [hIx])
      refine hP.out.mono ?_
      rintro e w5 ⟨A5, n5, c5, rfl, hb5, hc5, _, b5⟩
      go_wp2_with fail
      go_roundw
      case rel => exact ⟨i + 1, n5, c5, A5, by omega, by go_num, rfl, hb5, r2.later b5, hc5, br.trans (b5.mono br.size)⟩
      case measure => simp [intOf]; omega
    · have h8 : i = 8 := by omega
      rw [HF.out i h8] at hb
      have hn : n = 32 := by rw [← hb.1, Hbl.out]
      subst hn
      obtain ⟨b, o, rfl, lb, hc⟩ := hb.2 (by decide)
      have hcl : ∀ j v, (bv FS)[j]? = some v → wr.cell? ⟨b, o + j, none⟩ = some v := by
        intro j v hv
        have hj : j < 32 := by have := (List.getElem?_eq_some_iff.1 hv).1; rw [bv_len, Hbl.out] at this; exact this
        rw [hc j hj]
        rw [show bv FS = vk .u8 FS from rfl, vk_get (by rw [Hbl.out]; exact hj)] at hv
        exact hv
      have hA : ∀ (w : World), (Instr.arrayAt 23 (.slice (some ⟨b, o, none⟩) 32 c)).run Tryd.prog w = .ok (.pointer (some ⟨b, o, none⟩)) w := fun w => by simp [Instr.arrayAt, run_underlying Tryd.underlying23]
      have hnl : decide ((i : Int) < 8) = false := by simp; omega
      clear hb hc h8 HF hk hi
      go_wp2_with (first
        | rw [hA]
        | (with_reducible refine wl_load_cells rfl 23 (.tmp 15) b o (bv FS) _ rfl rfl hcl Tryd.underlying23 rfl zf.out ?_)
        | (with_reducible refine wl_store_row rfl 23 (.tmp 2) (.tmp 16) g2 23 _ (bv FS) rfl rfl rfl r2 zf.out lf.out (bv_one _) ?_; intro w8 r8 o8))
      refine bodyPost_ret (v := .agg (bv FS).toArray) ?_ rfl ⟨rfl, ?_⟩
      · exact results_cell_row Tryd.results60 _ _ g2 23 _ (0, 0) _ rfl r8 Tryd.underlying23 rfl zf.out
      · exact br.trans (o8.below q2)
end Go.Proofs.YtbolfkigiachlaaDoor

/-
  SHA-256: bytes are taken in: contract. Own work.
-/
namespace Go.Proofs.YtbolfkigiachlaaDoor
open Go.RowKit
theorem IsBy.app {xs ys : List Int} (h : IsBy xs) (k : IsBy ys) : IsBy (xs ++ ys) := fun x hx => (List.mem_append.1 hx).elim (h x) (k x)
/-- 'x[lo:]' of an array in the middle of a block. -/
theorem run_sliceLoB {P : Program} {o : Oper} {a : Act} {w : World} (t : TypeId) (x y : Operand) (n e : Nat) (g b l : Nat) (ho : o.op = .slice t x (some y) none none) (hu : P.underlying t = some (.array n e)) (hs : ∀ w, (sizeOf e).run P w = .ok 1 w)
    (hx : a.eval x = .pointer (some ⟨g, b, none⟩)) (hy : a.eval y = .int .i64 l) (hl : l < n) : (execOp a.eval o).run P w = .ok (.value (.slice (some ⟨g, b + l, none⟩) (n - l) (n - l))) w := by
  have h1 : (0 : Int) ≤ l := by omega
  have h2 : (l : Int) ≤ n := by omega
  have h3 : n ≠ l := by omega
  have hadd : (⟨g, b, none⟩ : Addr).add l = ⟨g, b + l, none⟩ := by unfold Addr.add; split <;> simp_all
  unfold execOp
  simp only [ho, hx, hy, Option.map_some, Option.map_none]
  simp [Instr.sliceAt, underlying, hu, Instr.sureAddr, Instr.sliceBounds, Instr.sliceBound, asIntOf, hs, h1, h2, h3, hadd, show l ≤ n by omega]
/-- What is held, behind a copy. -/
def heldN (held ys : List Int) (r k : Nat) : List Int := held.take r ++ (ys.take k ++ held.drop (r + k))
theorem heldN_len {held ys : List Int} {r k : Nat} (h : held.length = 64) (hk : k ≤ ys.length) (hr : r + k ≤ 64) : (heldN held ys r k).length = 64 := by
  unfold heldN
  simp only [List.length_append, List.length_take, List.length_drop]
  omega
theorem heldN_by {held ys : List Int} {r k : Nat} (h : IsBy held) (hy : IsBy ys) : IsBy (heldN held ys r k) := (h.take _).app ((hy.take _).app (h.drop _))
theorem heldN_take {held ys : List Int} {r k : Nat} (h : held.length = 64) (hk : k ≤ ys.length) (hr : r + k ≤ 64) : (heldN held ys r k).take (r + k) = held.take r ++ ys.take k := by
  unfold heldN
  rw [← List.append_assoc, List.take_append_of_le_length (by simp only [List.length_append, List.length_take]; omega), List.take_of_length_le (by simp only [List.length_append, List.length_take]; omega)]
theorem stK_succ (xs : List Int) (k : Nat) : stK xs (k + 1) = blkS (stK xs k) ((xs.drop (64 * k)).take 64) := rfl
/-- Where a piece does not make a block whole. -/
theorem hash_part {xs held ys : List Int} {k : Nat} (hh : held.length = 64) (hb : held.take (xs.length % 64) = xs.drop (64 * (xs.length / 64))) (hk : k ≤ ys.length) (hr : xs.length % 64 + k < 64) :
    stK xs (xs.length / 64) = stK (xs ++ ys.take k) ((xs ++ ys.take k).length / 64) ∧ (heldN held ys (xs.length % 64) k).take ((xs ++ ys.take k).length % 64) = (xs ++ ys.take k).drop (64 * ((xs ++ ys.take k).length / 64)) ∧ xs.length + k = (xs ++ ys.take k).length := by
  have hl : (xs ++ ys.take k).length = xs.length + k := by rw [List.length_append, List.length_take]; omega
  have hq : (xs.length + k) / 64 = xs.length / 64 := by omega
  have hm : (xs.length + k) % 64 = xs.length % 64 + k := by omega
  refine ⟨?_, ?_, hl.symm⟩
  · rw [hl, hq, stK_app _ (by omega)]
  · rw [hl, hq, hm, heldN_take hh hk (by omega), hb, List.drop_append_of_le_length (by omega)]
/-- Where it does. -/
theorem hash_full {xs held ys : List Int} {k : Nat} (hh : held.length = 64) (hb : held.take (xs.length % 64) = xs.drop (64 * (xs.length / 64))) (hk : k ≤ ys.length) (hr : xs.length % 64 + k = 64) :
    blkS (stK xs (xs.length / 64)) (heldN held ys (xs.length % 64) k) = stK (xs ++ ys.take k) ((xs ++ ys.take k).length / 64) ∧ (heldN held ys (xs.length % 64) k).take ((xs ++ ys.take k).length % 64) = (xs ++ ys.take k).drop (64 * ((xs ++ ys.take k).length / 64)) ∧ xs.length + k = (xs ++ ys.take k).length := by
  have hl : (xs ++ ys.take k).length = xs.length + k := by rw [List.length_append, List.length_take]; omega
  have hq : (xs.length + k) / 64 = xs.length / 64 + 1 := by omega
  have hm : (xs.length + k) % 64 = 0 := by omega
  have ht := heldN_take hh hk (Nat.le_of_eq hr)
  rw [hr, List.take_of_length_le (by rw [heldN_len hh hk (Nat.le_of_eq hr)]; exact Nat.le_refl _), hb, ← List.drop_append_of_le_length (by omega)] at ht
  refine ⟨?_, ?_, hl.symm⟩
  · rw [hl, hq]
    rw [stK_succ, stK_app _ (by omega)]
    congr 1
    rw [ht]
    exact (List.take_of_length_le (by rw [List.length_drop, hl]; omega)).symm
  · rw [hl, hq, hm, List.take_zero, List.drop_of_length_le (by rw [hl]; omega)]
def SWr2 (g n m c k : Nat) (A : Option Addr) (opn : Nat) (v : Value) : Prop :=
  match opn with
  | 0 | 1 | 3 | 4 => v = .pointer (some ⟨g, 0, none⟩)
  | 2 => v = .pointer (some ⟨g, 9, none⟩)
  | 5 => v = .pointer (some ⟨g, 73, none⟩)
  | 6 => v = .int .i64 (n : Int)
  | 7 => v = .int .i64 ((n % 64 : Nat) : Int)
  | 8 => v = .slice (some ⟨g, 9 + n % 64, none⟩) (64 - n % 64) (64 - n % 64)
  | 9 => v = .slice A m c
  | 10 | 11 => v = .int .i64 (k : Int)
  | _ => True

def SWr6 (st hd : List Int) (g : Nat) (opn : Nat) (v : Value) : Prop :=
  match opn with
  | 0 | 1 | 2 | 5 | 6 | 10 => v = .pointer (some ⟨g, 0, none⟩)
  | 3 | 11 => v = .pointer (some ⟨g, 1, none⟩)
  | 4 => v = .agg (vk .u32 st).toArray
  | 7 => v = .pointer (some ⟨g, 9, none⟩)
  | 8 => v = .agg (bv hd).toArray
  | 9 => v = .agg (vk .u32 (blkS st hd)).toArray
  | _ => True

set_option maxRecDepth 100000 in
set_option maxHeartbeats 2000000 in
theorem write_any (xs zs : List Int) (g m0 c0 : Nat) (A0 : Option Addr) (w : World) (hT : Tabs w) (hg : (3 + 1) ≤ g) (hh : HashAt w g xs) (hxb : IsBy xs) (hzb : IsBy zs) (hb : Bs w w.heap.size A0 m0 zs) (ho : Off g m0 A0) (hc : m0 ≤ c0) (hM : xs.length + zs.length ≤ 9223372036854775807) :
    Calls Tryd.prog 55 #[.pointer (some ⟨g, 0, none⟩), .slice A0 m0 c0] w fun e w' => e = .returned (.tuple #[]) ∧ HashAt w' g (xs ++ zs) ∧ But g w w' := by
  obtain ⟨held, h1, h2, h3, h4⟩ := hh
  have cc0 := h4.cell (hash0 _ _ _)
  have hgw := h4.lt
  have hinit : HashAt w g xs := ⟨held, h1, h2, h3, h4⟩
  clear h1 h2 h3 h4
  go_enter Tryd.func55, Tryd.ntmps55
  go_wp2_with fail
  clear cc0
  go_loopw [1] (fun bv wr => ∃ (done ys : List Int) (m c : Nat) (A : Option Addr), zs = done ++ ys ∧ bv = .slice A m c ∧ Bs wr wr.heap.size A m ys ∧ Off g m A ∧ m ≤ c ∧ HashAt wr g (xs ++ done) ∧ But g w wr) (fun bv _ => (match bv with | .slice _ n _ => n | _ => 0))
  case atStart => exact ⟨[], zs, m0, c0, A0, rfl, rfl, hb, ho, hc, by rw [List.append_nil]; exact hinit, But.refl _ _⟩
  case round =>
    clear hb ho hc hinit
    obtain ⟨done, ys, m, c, A, hys, rfl, hx, ho, hc, hash, bu⟩ := hrel
    have hTw := hT.below (bu.below hg hT.1) (Nat.le_refl _)
    obtain ⟨held, h1, h2, h3, h4⟩ := hash
    by_cases hm : 0 < m
    · have hxl := hx.1
      have hyb : IsBy ys := fun x hx => hzb x (by rw [hys]; exact List.mem_append_right _ hx)
      have hlen : (xs ++ done).length + ys.length ≤ 9223372036854775807 := by rw [hys] at hM; simp only [List.length_append] at hM ⊢; omega
      have hsl := stK_len (xs ++ done) ((xs ++ done).length / 64)
      have hsw := stK_w (xs ++ done) ((xs ++ done).length / 64)
      obtain ⟨k, hk⟩ : ∃ k, k = min m (64 - (xs ++ done).length % 64) := ⟨_, rfl⟩
      have hk1 : k ≤ ys.length := by omega
      have hk2 : (xs ++ done).length % 64 + k ≤ 64 := by omega
      have hpos : 0 < k := by omega
      have hkm : k ≤ m := by omega
      have hPart := hash_part h1 h3 hk1
      have hFull := hash_full h1 h3 hk1
      have hfill := hash_fill (ys := ys.take k) (n := (xs ++ done).length) (r := (xs ++ done).length % 64) (k := k) hsl h1 (by rw [List.length_take]; omega) hk2
      have hhl := heldN_len h1 hk1 hk2
      have hhb := heldN_by (r := (xs ++ done).length % 64) (k := k) h2 hyb
      have hcl := hashL_len (n := (xs ++ done).length) hsl h1
      have c73 := hash73 (n := (xs ++ done).length) hsl h1
      have hpp : k < m ∨ k = m := by omega
      have HP := hide hPart
      have HFu := hide hFull
      have HK := hide hk
      have hnew : hashL (stK (xs ++ done) ((xs ++ done).length / 64)) (held.take ((xs ++ done).length % 64) ++ (ys.take k ++ held.drop ((xs ++ done).length % 64 + k))) (xs ++ done).length = hashL (stK (xs ++ done) ((xs ++ done).length / 64)) (heldN held ys ((xs ++ done).length % 64) k) (xs ++ done).length := rfl
      rw [hnew] at hfill
      clear hPart hFull hk hnew h3
      generalize heldN held ys ((xs ++ done).length % 64) k = hd at *
      generalize stK (xs ++ done) ((xs ++ done).length / 64) = st at *
      generalize hn0 : (xs ++ done).length = n at *
      have Hn0 := hide hn0
      clear hn0
      generalize hcur : hashL st held n = cur at *
      have Hcur := hide hcur
      clear hcur
      have Hfill := hide hfill
      have Hcl := hide hcl
      have Hhl := hide hhl
      have Hsl := hide hsl
      have Hxl := hide hxl
      have h64 : n % 64 + k ≤ 64 := hk2
      have Hys := hide hys
      clear hfill hcl hhl hsl hxl h1 hys
      go_wp2_with fail
      rename_i Q1 K1 hK1
      have hfill := Hfill.out
      have hfit : 9 + n % 64 + k ≤ cur.length := by rw [Hcl.out]; omega
      refine wp_region_vals [10] (SWr2 g n m c k A) (JB g 88 wr 0 cur (hashL st hd n)) (by kernel_rfl) (by kernel_rfl) (by kernel_rfl) (by kernel_rfl) (by kernel_rfl) (JB.start h4 rfl) ?obs ?he
      case obs =>
        refine ⟨?_, ?_, ?_, ?_, ?_, ?_, ?_, ?_, ?_, ?_, ?_, ?_, trivial⟩
        · exact .inl ⟨by kernel_rfl, fun L a1 w1 n' h => ⟨_, rfl, run_move (.tmp 0) rfl (h.var n' 0 (by kernel_rfl))⟩⟩
        · refine .inl ⟨by kernel_rfl, fun L a1 w1 n' h => ⟨.pointer (some ⟨g, 0, none⟩), rfl, ?_⟩⟩
          have e0 : a1.eval (.tmp 17) = _ := h.dep n' 0 17 (by kernel_rfl) rfl
          unfold execOp
          simp only [e0]
          go_simp
        · refine .inl ⟨by kernel_rfl, fun L a1 w1 n' h => ⟨.pointer (some ⟨g, 9, none⟩), rfl, ?_⟩⟩
          have e0 : a1.eval (.tmp 18) = _ := h.dep n' 1 18 (by kernel_rfl) rfl
          unfold execOp
          simp only [e0]
          go_simp
        · exact .inl ⟨by kernel_rfl, fun L a1 w1 n' h => ⟨_, rfl, run_move (.tmp 0) rfl (h.var n' 0 (by kernel_rfl))⟩⟩
        · refine .inl ⟨by kernel_rfl, fun L a1 w1 n' h => ⟨.pointer (some ⟨g, 0, none⟩), rfl, ?_⟩⟩
          have e0 : a1.eval (.tmp 20) = _ := h.dep n' 3 20 (by kernel_rfl) rfl
          unfold execOp
          simp only [e0]
          go_simp
        · refine .inl ⟨by kernel_rfl, fun L a1 w1 n' h => ⟨.pointer (some ⟨g, 73, none⟩), rfl, ?_⟩⟩
          have e0 : a1.eval (.tmp 21) = _ := h.dep n' 4 21 (by kernel_rfl) rfl
          unfold execOp
          simp only [e0]
          go_simp
        · exact .inl ⟨by kernel_rfl, fun L a1 w1 n' h => ⟨_, rfl, run_loadA 3 (.tmp 22) ⟨g, 73, none⟩ rfl Tryd.isAgg3 (h.dep n' 5 22 (by kernel_rfl) rfl) ((h.inv.1 (n'.later (by kernel_rfl))).cell c73)⟩⟩
        · refine .inl ⟨by kernel_rfl, fun L a1 w1 n' h => ⟨.int .i64 ((n % 64 : Nat) : Int), rfl, ?_⟩⟩
          have e0 : a1.eval (.tmp 23) = _ := h.dep n' 6 23 (by kernel_rfl) rfl
          unfold execOp
          simp only [e0]
          go_simp
          exact Int.tmod_eq_emod_of_nonneg (by omega)
        · exact .inl ⟨by kernel_rfl, fun L a1 w1 n' h => ⟨_, rfl, run_sliceLoB 85 (.tmp 19) (.tmp 24) 64 5 g 9 (n % 64) rfl Tryd.underlying85 Tryd.sizeOf5 (h.dep n' 2 19 (by kernel_rfl) rfl) (h.dep n' 7 24 (by kernel_rfl) rfl) (by omega)⟩⟩
        · exact .inl ⟨by kernel_rfl, fun L a1 w1 n' h => ⟨_, rfl, run_move (.tmp 1) rfl (h.var n' 1 (by kernel_rfl))⟩⟩
        · refine .inr fun L a1 w1 n' h K hK => ?_
          have no : L.getD 10 false = false := n'.not_yet
          refine st_copy_take (.tmp 25) (.tmp 26) _ _ rfl 5 Tryd.underlying22 u8_size g (9 + n % 64) (64 - n % 64) (64 - n % 64) m c 88 wr.heap.size A (h.dep n' 8 25 (by kernel_rfl) rfl) (h.dep n' 9 26 (by kernel_rfl) rfl) cur ys k (h.inv.1 no) (hx.keepOff h.inv.2.2 ho (Nat.le_refl _)) HK.out hpos hfit ?_
          intro w3 r3 o3
          rw [hfill] at r3
          exact hK _ w3 rfl (JB.store h.inv o3 r3 rfl)
        · exact .inl ⟨by kernel_rfl, fun L a1 w1 n' h => ⟨_, rfl, run_assign (.tmp 27) rfl (h.dep n' 10 27 (by kernel_rfl) rfl)⟩⟩
      case he =>
        intro V w5 hV hJ
        have r5 := hJ.2.1 rfl
        have bu5 := hJ.2.2
        have h10 : V 10 = .int .i64 (k : Int) := hV 10 27 rfl
        have h11 : V 11 = .int .i64 (k : Int) := hV 11 4 rfl
        clear hV hJ hfill hfit c73
        simp only [putOps, List.setIfInBounds_toArray, List.set_cons_succ, List.set_cons_zero]
        rw [h10, h11]
        refine hK1 _ _ ?_
        clear hK1 h10 h11
        have c73 := hash73 (n := n) Hsl.out Hhl.out
        have cell5 := r5.cell c73
        have hlt73 : 73 < (hashL st hd n).length := by rw [hashL_len Hsl.out Hhl.out]; decide
        have hset := hash_set (n := n) (n + k) Hsl.out Hhl.out
        have hnk : (n : Int) + (k : Int) = ((n + k : Nat) : Int) := by omega
        rw [← hnk] at hset
        have Hset := hide hset
        have hSF := fun w => run_sliceFrom (P := Tryd.prog) w 22 5 Tryd.underlying22 Tryd.sizeOf5 A m c .i64 k hkm
        have h73b := hash73 (n := n + k) Hsl.out Hhl.out
        rw [← hnk] at h73b
        have H73b := hide h73b
        have hadd : (n : Int) + (k : Int) ≤ 9223372036854775807 := by have := Hxl.out; omega
        clear hset h73b hnk c73
        go_wp2_with (first
          | (with_reducible refine wl_store rfl 3 (.tmp 35) (.tmp 33) g 73 88 _ (.int .i64 ((n : Int) + (k : Int))) rfl (by kernel_rfl) rfl rfl r5 hlt73 rfl ?_; intro w6 r6 o6; rw [Hset.out] at r6)
          | rw [hSF]
          | (with_reducible refine wl_load rfl 3 (.tmp 41) g 73 88 _ (.int .i64 ((n : Int) + (k : Int))) rfl Tryd.isAgg3 rfl r6 H73b.out ?_))
        · rename_i hK2 hz0
          have hz : ((n : Int) + (k : Int)) % 64 = 0 := by simpa using hz0
          clear hz0
          have hfull : n % 64 + k = 64 := by omega
          have hF := HFu.out hfull
          have hg6 : g ≤ w6.heap.size := Nat.le_of_lt r6.lt
          have b6 : But g w w6 := (bu.trans bu5).trans (But.only o6)
          have hT6 : Tabs w6 := hT.below (b6.below hg hT.1) (Nat.le_refl _)
          have hx6 : Bs w6 wr.heap.size A m ys := (hx.keepOff bu5 ho (Nat.le_refl _)).keepOff (But.only o6) ho bu5.size
          have HFF := hide hF
          clear hz hF hT hTw hx cell5 hlt73 hSF hfull
          have hsl := Hsl.out
          have hhl := Hhl.out
          refine wp_region_vals [9, 12] (SWr6 st hd g) (JB g 88 w6 1 (hashL st hd (n + k)) (hashL (blkS st hd) hd (n + k))) (by kernel_rfl) (by kernel_rfl) (by kernel_rfl) (by kernel_rfl) (by kernel_rfl) (JB.start r6 rfl) ?obs2 ?he2
          case obs2 =>
            refine ⟨?_, ?_, ?_, ?_, ?_, ?_, ?_, ?_, ?_, ?_, ?_, ?_, ?_, trivial⟩
            · exact .inl ⟨by kernel_rfl, fun L a1 w1 n' h => ⟨_, rfl, run_move (.tmp 0) rfl (h.var n' 0 (by kernel_rfl))⟩⟩
            · exact .inl ⟨by kernel_rfl, fun L a1 w1 n' h => ⟨_, rfl, run_move (.tmp 0) rfl (h.var n' 0 (by kernel_rfl))⟩⟩
            · refine .inl ⟨by kernel_rfl, fun L a1 w1 n' h => ⟨.pointer (some ⟨g, 0, none⟩), rfl, ?_⟩⟩
              have e0 : a1.eval (.tmp 46) = _ := h.dep n' 1 46 (by kernel_rfl) rfl
              unfold execOp
              simp only [e0]
              go_simp
            · refine .inl ⟨by kernel_rfl, fun L a1 w1 n' h => ⟨.pointer (some ⟨g, 1, none⟩), rfl, ?_⟩⟩
              have e0 : a1.eval (.tmp 47) = _ := h.dep n' 2 47 (by kernel_rfl) rfl
              unfold execOp
              simp only [e0]
              go_simp
            · exact .inl ⟨by kernel_rfl, fun L a1 w1 n' h => ⟨_, rfl, run_loadP 86 (.tmp 48) g 1 88 [.bool true] (vk .u32 st) _ _ rfl (h.dep n' 3 48 (by kernel_rfl) rfl) (hashSt (h.inv.1 (n'.later (by kernel_rfl)))) rfl Tryd.underlying86 rfl (size8 hsl)⟩⟩
            · exact .inl ⟨by kernel_rfl, fun L a1 w1 n' h => ⟨_, rfl, run_move (.tmp 0) rfl (h.var n' 0 (by kernel_rfl))⟩⟩
            · refine .inl ⟨by kernel_rfl, fun L a1 w1 n' h => ⟨.pointer (some ⟨g, 0, none⟩), rfl, ?_⟩⟩
              have e0 : a1.eval (.tmp 50) = _ := h.dep n' 5 50 (by kernel_rfl) rfl
              unfold execOp
              simp only [e0]
              go_simp
            · refine .inl ⟨by kernel_rfl, fun L a1 w1 n' h => ⟨.pointer (some ⟨g, 9, none⟩), rfl, ?_⟩⟩
              have e0 : a1.eval (.tmp 51) = _ := h.dep n' 6 51 (by kernel_rfl) rfl
              unfold execOp
              simp only [e0]
              go_simp
            · exact .inl ⟨by kernel_rfl, fun L a1 w1 n' h => ⟨_, rfl, run_loadP 85 (.tmp 52) g 9 88 (.bool true :: vk .u32 st) (bv hd) _ _ rfl (h.dep n' 7 52 (by kernel_rfl) rfl) (hashHe (h.inv.1 (n'.later (by kernel_rfl)))) (hashHe_len hsl) Tryd.underlying85 rfl (size64b hhl)⟩⟩
            · refine .inr fun L a1 w1 n' h K hK => ?_
              have e0 : a1.eval (.tmp 49) = .agg (vk .u32 st).toArray := h.dep n' 4 49 (by kernel_rfl) rfl
              have e1 : a1.eval (.tmp 53) = .agg (bv hd).toArray := h.dep n' 8 53 (by kernel_rfl) rfl
              refine st_call 58 _ _ #[.agg (vk .u32 st).toArray, .agg (bv hd).toArray] rfl Tryd.call58 ?_ (behind_any st hd w1 (hT6.below (h.inv.2.2.below (Nat.le_refl g) hg6) hg) hsl hsw hhl hhb) ?_
              · simp only [List.map_toArray, List.map_cons, List.map_nil, e0, e1]
              · rintro e w3 ⟨rfl, b9⟩
                exact ⟨_, rfl, hK _ w3 rfl (JB.callX h.inv b9 rfl)⟩
            · refine .inl ⟨by kernel_rfl, fun L a1 w1 n' h => ⟨.pointer (some ⟨g, 0, none⟩), rfl, ?_⟩⟩
              have e0 : a1.eval (.tmp 45) = _ := h.dep n' 0 45 (by kernel_rfl) rfl
              unfold execOp
              simp only [e0]
              go_simp
            · refine .inl ⟨by kernel_rfl, fun L a1 w1 n' h => ⟨.pointer (some ⟨g, 1, none⟩), rfl, ?_⟩⟩
              have e0 : a1.eval (.tmp 55) = _ := h.dep n' 10 55 (by kernel_rfl) rfl
              unfold execOp
              simp only [e0]
              go_simp
            · refine .inr fun L a1 w1 n' h K hK => ?_
              have no : L.getD 12 false = false := n'.not_yet
              refine st_store_part 86 (.tmp 56) (.tmp 54) g 1 88 [.bool true] (vk .u32 st) (bv hd ++ [.int .i64 ((n + k : Nat) : Int)]) (vk .u32 (blkS st hd)) rfl (h.dep n' 11 56 (by kernel_rfl) rfl) (h.dep n' 9 54 (by kernel_rfl) rfl) (hashSt (h.inv.1 no)) rfl (by rw [vk_len, vk_len, hsl, blkS_len hsl]) (size8 (blkS_len hsl _)) (vk_one' _ _) ?_
              intro w3 r3 o3
              exact hK undef w3 trivial (JB.store h.inv o3 r3 rfl)
          case he2 =>
            intro V w7 hV hJ
            have r7 := hJ.2.1 rfl
            have bu7 := hJ.2.2
            clear hV hJ
            simp only [putOps, List.setIfInBounds_toArray, List.set_cons_succ, List.set_cons_zero]
            go_wp2
            have r7' : Row w7 88 g (hashL (blkS st hd) hd (n + k)) := r7
            clear r7
            rw [HFF.out.1, HFF.out.2.2] at r7'
            have hxs : xs ++ (done ++ ys.take k) = xs ++ done ++ ys.take k := (List.append_assoc _ _ _).symm
            have hx7 := (hx6.keepOff bu7 ho (Nat.le_trans bu5.size (Nat.le_of_eq o6.size.symm))).sub (I := k) (K := m) hkm (Nat.le_refl _) hc
            rw [List.take_of_length_le (by rw [List.length_drop, Hxl.out]; exact Nat.le_refl _)] at hx7
            refine ⟨⟨done ++ ys.take k, ys.drop k, m - k, c - k, subA A c k, by rw [List.append_assoc, List.take_append_drop]; exact Hys.out, rfl, ?_, ho.sub c k, by omega, ?_, b6.trans bu7⟩, show m - k < m by omega⟩
            · exact hx7.up (Nat.le_trans (Nat.le_trans bu5.size (Nat.le_of_eq o6.size.symm)) bu7.size)
            · rw [hxs]
              exact ⟨hd, hhl, hhb, HFF.out.2.1, r7'⟩
        · rename_i hz0
          have hz : ¬ ((n : Int) + (k : Int)) % 64 = 0 := by simpa using hz0
          have hpart : n % 64 + k < 64 := by omega
          have hP := HP.out hpart
          have b6 : But g w w6 := (bu.trans bu5).trans (But.only o6)
          have hx6 := ((hx.keepOff bu5 ho (Nat.le_refl _)).keepOff (But.only o6) ho bu5.size).sub (I := k) (K := m) hkm (Nat.le_refl _) hc
          rw [List.take_of_length_le (by rw [List.length_drop, Hxl.out]; exact Nat.le_refl _)] at hx6
          have hxs : xs ++ (done ++ ys.take k) = xs ++ done ++ ys.take k := (List.append_assoc _ _ _).symm
          rw [hP.1, hP.2.2] at r6
          refine ⟨⟨done ++ ys.take k, ys.drop k, m - k, c - k, subA A c k, by rw [List.append_assoc, List.take_append_drop]; exact Hys.out, rfl, ?_, ho.sub c k, by omega, ?_, b6⟩, show m - k < m by omega⟩
          · exact hx6.up (Nat.le_trans bu5.size (Nat.le_of_eq o6.size.symm))
          · rw [hxs]
            exact ⟨hd, Hhl.out, hhb, hP.2.1, r6⟩
    · have hm0 : m = 0 := by omega
      subst hm0
      have hyn : ys = [] := List.eq_nil_of_length_eq_zero hx.1
      subst hyn
      rw [List.append_nil] at hys
      have hfin : HashAt wr g (xs ++ zs) := by rw [hys]; exact ⟨held, h1, h2, h3, h4⟩
      clear h1 h2 h3 h4 hys
      go_wp2_with fail
      go_end0
      exact ⟨rfl, hfin, bu⟩
end Go.Proofs.YtbolfkigiachlaaDoor

/-
  SHA-256: what comes behind a text; the sum of what was written; of a text: contracts. Own work.
-/
namespace Go.Proofs.YtbolfkigiachlaaDoor
open Go.RowKit
/-- What a call hands back that lies in the next block. -/
def RetNew (out : List Int) (w : World) (e : Ending) (w' : World) : Prop :=
  ∃ n c, e = .returned (.slice (some ⟨w.heap.size, 0, none⟩) n c) ∧ Bs w' w'.heap.size (some ⟨w.heap.size, 0, none⟩) n out ∧ n ≤ c ∧ c ≤ maxLen ∧ Below w.heap.size w w'
theorem ret_new {w w1 : World} {t n c : Nat} {xs ys : List Int} (h : Own w1 t w.heap.size xs) (hb : Below w.heap.size w w1) (he : ys = xs) (hn : xs.length = n) (hc : n ≤ c) (hm : c ≤ maxLen) : RetNew ys w (.returned (.slice (some ⟨w.heap.size, 0, none⟩) n c)) w1 := by
  subst he
  subst hn
  exact ⟨_, c, rfl, h.bs h.lt, hc, hm, hb⟩
set_option maxHeartbeats 400000 in
set_option maxRecDepth 100000 in
theorem lay64h_new (A : Option Addr) (m c : Nat) (xs : List Int) (x : Int) (w : World) (h : Bs w w.heap.size A m xs) (hm : m ≤ 1000000) (h0 : 0 ≤ x) (h1 : x < 2 ^ 64) :
    Calls Tryd.prog 73 #[.slice A m c, .int .u64 x, .bool false] w (RetNew (xs ++ highB x 8) w) := by
  obtain ⟨i0, hi, hz, hsz, hby⟩ := u8_info
  go_enter Tryd.func73, Tryd.ntmps73
  go_wp2_with (first
    | (go_at_call 78; refine (width64_any _).mono ?_; rintro e w' ⟨rfl, rfl⟩)
    | (refine wpList_make_bs rfl _ _ _ rfl 5 i0 Tryd.underlying22 hi hz hsz hby (m + 8) rfl rfl (by omega) ?_; intro w1 hown hs1 hb1)
    | (refine wpList_copy_bs rfl (.tmp 17) (.tmp 18) _ _ rfl 5 Tryd.underlying22 u8_size w.heap.size 0 _ _ m c A rfl rfl _ xs 5 w.heap.size hown (h.below hb1) (by omega) (by rw [List.length_replicate]; omega) w.heap.size w hb1 (Nat.le_refl _) ?_; intro w2 hown2 hb2))
  go_loopw [21] (fun i wr => ∃ k : Nat, k ≤ 8 ∧ i = .int .i64 k ∧ Own wr 5 w.heap.size (xs ++ (List.replicate (8 - k) 0 ++ highB x k)) ∧ Below w.heap.size w wr) (fun i _ => 8 - (intOf i).toNat)
  case atStart => exact ⟨0, Nat.zero_le _, rfl, by simpa [highB, lowB, h.1] using hown2, hb2⟩
  case round =>
    obtain ⟨k, hk, rfl, hown, hb⟩ := hrel
    by_cases hlt : k < 8
    · have hc := hown.cell (j := m + 7 - k) (by simp [highB_length, h.1]; omega)
      have hf := hown.frozen (m + 7 - k)
      have hs := hown.set (m + 7 - k) (x / 2 ^ (8 * k) % 256)
      have he := set_high hlt (highB x k) (x / 2 ^ (8 * k) % 256) xs
      rw [h.1, show m + (8 - 1 - k) = m + 7 - k from by omega] at he
      rw [he, ← pow256_two, ← highB_cons, pow256_two] at hs
      have HS := hide hs
      clear hs he
      go_wp2
      go_roundw
      case rel => exact ⟨k + 1, by omega, by go_num, HS.out, hb.setCell (Nat.le_refl _) _⟩
      case measure => simp [intOf]; omega
    · go_wp2
      go_ret
      obtain rfl : k = 8 := by omega
      exact ret_new hown hb (by simp) (by simp [highB_length, h.1]) (Nat.le_refl _) (by simp only [maxLen]; omega)
set_option maxRecDepth 100000 in
theorem put64_new (A : Option Addr) (m c : Nat) (xs : List Int) (x : Int) (w : World) (h : Bs w w.heap.size A m xs) (hm : m ≤ 1000000) (h0 : 0 ≤ x) (h1 : x < 2 ^ 64) :
    Calls Tryd.prog 65 #[.slice A m c, .int .u64 x] w (RetNew (xs ++ highB x 8) w) := by
  go_enter Tryd.func65, Tryd.ntmps65
  go_wp2_with (go_at_call 73; refine (lay64h_new A m c xs x _ h hm h0 h1).mono ?_; rintro e w1 ⟨n1, c1, rfl, hb, hn, hc, hl⟩)
  go_ret
  exact ⟨n1, c1, rfl, hb, hn, hc, hl⟩
/-- What a call hands back that lies in new memory. -/
def RetFr (out : List Int) (w : World) (e : Ending) (w' : World) : Prop :=
  ∃ A n c, e = .returned (.slice A n c) ∧ Bs w' w'.heap.size A n out ∧ n ≤ c ∧ c ≤ maxLen ∧ Below w.heap.size w w' ∧ ∀ x, A = some x → w.heap.size ≤ x.block
theorem RetFr.bs {out : List Int} {w w' : World} {e : Ending} (h : RetFr out w e w') : RetBs out w e w' := by
  obtain ⟨A, n, c, h1, h2, h3, h4, h5, _⟩ := h
  exact ⟨A, n, c, h1, h2, h3, h4, h5⟩
/-- How many bytes 0 come behind the byte 128. -/
def zN (m : Nat) : Nat := (64 - (m % 64 + 9) % 64) % 64
/-- What comes behind a text of m bytes. -/
def padS (m : Nat) : List Int := (128 :: List.replicate (zN m) 0) ++ highB ((8 * m % 18446744073709551616 : Nat) : Int) 8
theorem highB_by (x : Int) (n : Nat) : IsBy (highB x n) := fun b hb => lowB_byte x n b (by simpa [highB] using hb)
theorem padS_by (m : Nat) : IsBy (padS m) := IsBy.app (fun x hx => by
  rcases List.mem_cons.1 hx with rfl | hx
  · exact ⟨by decide, by decide⟩
  · exact IsBy.rep _ x hx) (highB_by _ _)
theorem padS_len (m : Nat) : (padS m).length = zN m + 9 := by unfold padS; simp [highB_length]
theorem padS_whole (m : Nat) : (m + (padS m).length) % 64 = 0 := by rw [padS_len]; unfold zN; omega
set_option maxRecDepth 100000 in
set_option maxHeartbeats 1000000 in
theorem pad_nat (m : Nat) (w : World) (hm : m ≤ 9223372036854775807) : Calls Tryd.prog 59 #[.int .i64 (m : Int)] w (RetFr (padS m) w) := by
  obtain ⟨i0, hi, hz, hsz, hby⟩ := u8_info
  have hzl : zN m ≤ 63 := by unfold zN; omega
  have hze : 1 + -(((m : Int) % 64 + 1 + 8) % 64) % 64 = ((zN m + 1 : Nat) : Int) := by unfold zN; omega
  have hf8 : (8 * (m : Int)) % 18446744073709551616 = ((8 * m % 18446744073709551616 : Nat) : Int) := by omega
  have hdef : padS m = (128 :: List.replicate (zN m) 0) ++ highB ((8 * m % 18446744073709551616 : Nat) : Int) 8 := rfl
  have HD := hide hdef
  have HE := hide hze
  have H8 := hide hf8
  have hlt8 : 8 * m % 18446744073709551616 < 18446744073709551616 := Nat.mod_lt _ (by decide)
  clear hdef hze hf8
  generalize zN m = z at *
  have hset : (List.replicate (z + 1) (0 : Int)).set 0 128 = 128 :: List.replicate z 0 := rfl
  have HS := hide hset
  clear hset
  generalize hX : 8 * m % 18446744073709551616 = X at *
  have HX := hide hX
  clear hX
  generalize padS m = P at *
  go_enter Tryd.func59, Tryd.ntmps59
  go_wp2_with (first
    | (with_reducible refine wl_make rfl 22 (.tmp 15) (.tmp 15) rfl 5 i0 (.int .u8 0) Tryd.underlying22 hi hz hsz rfl .i64 .i64 (z + 1) (z + 1) _ _ rfl rfl HE.out HE.out (Nat.le_refl _) (by rw [hby]; omega) (by omega) ?_; intro g4 w4 r4 a4 l4 b4; have r4' : Row w4 5 g4 (bv (List.replicate (z + 1) 0)) := by (rw [show bv (List.replicate (z + 1) 0) = List.replicate (z + 1) (Value.int .u8 0) by simp [bv]]; exact r4))
    | (with_reducible refine wl_store rfl 5 (.tmp 18) (.const (.int .u8 128)) g4 0 5 _ (.int .u8 128) rfl (by kernel_rfl) rfl rfl r4' (by rw [bv_len, List.length_replicate]; omega) rfl ?_; intro w5 r5 o5; rw [bv_set, HS.out] at r5))
  rw [IntKind.wrap_u64, H8.out]
  have hb5 : Bs w5 w5.heap.size (some ⟨g4, 0, none⟩) (z + 1) (128 :: List.replicate z 0) := by
    have := row_bs_at (n := z + 1) (off := 0) r5 (by simp) r5.lt
    rw [List.drop_zero, List.take_of_length_le (by simp)] at this
    exact this
  have B5 := b4.trans (o5.below a4)
  refine (put64_new _ (z + 1) (z + 1) _ (X : Int) w5 hb5 (by omega) (by omega) (by omega)).mono ?_
  rintro e w6 ⟨n6, c6, rfl, h6, hc6, hM6, b6⟩
  rw [← HD.out] at h6
  have B6 := B5.trans (b6.mono B5.size)
  have hs6 : w.heap.size ≤ w5.heap.size := B5.size
  have HH := hide (And.intro h6 (And.intro hc6 (And.intro hM6 (And.intro B6 (show ∀ x, (some ⟨w5.heap.size, 0, none⟩ : Option Addr) = some x → w.heap.size ≤ x.block from fun x hx => by injection hx with hx; subst hx; exact hs6)))))
  clear h6 hc6 hM6 b6 B6 B5 hb5 r5 r4' r4 o5 b4 hs6
  go_wp2_with fail
  go_ret
  exact ⟨_, n6, c6, rfl, HH.out⟩
set_option maxRecDepth 100000 in
theorem pad_neg (x : Int) (w : World) (hx : x < 0) : Calls Tryd.prog 59 #[.int .i64 x] w (RetFr (padS 0) w) := by
  obtain ⟨i0, hi, hz, hsz, hby⟩ := u8_info
  have hdef : padS 0 = (128 :: List.replicate 55 0) ++ highB 0 8 := rfl
  have HD := hide hdef
  have HS := hide (show (List.replicate 56 (0 : Int)).set 0 128 = 128 :: List.replicate 55 0 from rfl)
  have hmax : max x 0 = 0 := by omega
  clear hdef
  generalize padS 0 = P at *
  go_enter Tryd.func59, Tryd.ntmps59
  go_wp2_with (first
    | (with_reducible refine wl_make rfl 22 (.tmp 15) (.tmp 15) rfl 5 i0 (.int .u8 0) Tryd.underlying22 hi hz hsz rfl .i64 .i64 56 56 _ _ rfl rfl rfl rfl (Nat.le_refl _) (by rw [hby]; omega) (by omega) ?_; intro g4 w4 r4 a4 l4 b4; have r4' : Row w4 5 g4 (bv (List.replicate 56 0)) := by (rw [show bv (List.replicate 56 0) = List.replicate 56 (Value.int .u8 0) by simp [bv]]; exact r4))
    | (with_reducible refine wl_store rfl 5 (.tmp 18) (.const (.int .u8 128)) g4 0 5 _ (.int .u8 128) rfl (by kernel_rfl) rfl rfl r4' (by rw [bv_len, List.length_replicate]; omega) rfl ?_; intro w5 r5 o5; rw [bv_set, HS.out] at r5))
  have hb5 : Bs w5 w5.heap.size (some ⟨g4, 0, none⟩) 56 (128 :: List.replicate 55 0) := by
    have := row_bs_at (n := 56) (off := 0) r5 (by simp) r5.lt
    rw [List.drop_zero, List.take_of_length_le (by simp)] at this
    exact this
  have B5 := b4.trans (o5.below a4)
  refine (put64_new _ 56 56 _ 0 w5 hb5 (by omega) (by omega) (by omega)).mono ?_
  rintro e w6 ⟨n6, c6, rfl, h6, hc6, hM6, b6⟩
  rw [← HD.out] at h6
  have B6 := B5.trans (b6.mono B5.size)
  have hs6 : w.heap.size ≤ w5.heap.size := B5.size
  have HH := hide (And.intro h6 (And.intro hc6 (And.intro hM6 (And.intro B6 (show ∀ x, (some ⟨w5.heap.size, 0, none⟩ : Option Addr) = some x → w.heap.size ≤ x.block from fun x hx => by injection hx with hx; subst hx; exact hs6)))))
  clear h6 hc6 hM6 b6 B6 B5 hb5 r5 r4' r4 o5 b4 hs6
  go_wp2_with fail
  go_ret
  exact ⟨_, n6, c6, rfl, HH.out⟩
/-- A Hash that no call made. -/
def hashZ : List Value := .bool false :: (vk .u32 (List.replicate 8 0) ++ (bv (List.replicate 64 0) ++ [.int .i64 0]))
theorem zeroHash : (Tryd.prog.info? 88).map (fun i => i.zero) = some (some (.agg hashZ.toArray)) := by kernel_rfl
theorem hashZ_len : hashZ.length = 74 := rfl
/-- The sum of a text. -/
def sumS (xs : List Int) : List Int := byS (stK (xs ++ padS xs.length) ((xs ++ padS xs.length).length / 64))
theorem sumS_len (xs : List Int) : (sumS xs).length = 32 := byS_len _
set_option maxRecDepth 100000 in
set_option maxHeartbeats 2000000 in
theorem hsum_any (xs : List Int) (g : Nat) (w : World) (hT : Tabs w) (hh : HashAt w g xs) (hxb : IsBy xs) (hM : xs.length ≤ 4611686018427387904) :
    Calls Tryd.prog 56 #[.pointer (some ⟨g, 0, none⟩)] w fun e w' => e = .returned (.agg (bv (sumS xs)).toArray) ∧ Below w.heap.size w w' := by
  have hsl := sumS_len xs
  have zf := hide (size32b hsl)
  have lf := hide (show (bv (List.replicate 32 0)).length = (bv (sumS xs)).length by rw [bv_len, bv_len, hsl, List.length_replicate])
  have hPl := padS_len xs.length
  have hPb := padS_by xs.length
  have hzN : zN xs.length ≤ 63 := by unfold zN; omega
  have hfin : byS (stK (xs ++ padS xs.length) ((xs ++ padS xs.length).length / 64)) = sumS xs := rfl
  have HF := hide hfin
  have hP := fun w => pad_nat xs.length w (by omega)
  have hB := fun w => bytes_any (stK (xs ++ padS xs.length) ((xs ++ padS xs.length).length / 64)) w (stK_len _ _) (stK_w _ _)
  have hWr := fun g A m c w hT hg hh hb ho hc => write_any xs (padS xs.length) g m c A w hT hg hh hxb hPb hb ho hc (by omega)
  obtain ⟨held, h1, h2, h3, h4⟩ := hh
  have hst := stK_len xs (xs.length / 64)
  have zst2 := hide (size8 (stK_len (xs ++ padS xs.length) ((xs ++ padS xs.length).length / 64)))
  have hfin0 : ∀ w' g', Row w' 88 g' (hashL (stK xs (xs.length / 64)) held xs.length) → HashAt w' g' xs := fun w' g' h => ⟨held, h1, h2, h3, h⟩
  have c0 := h4.cell (hash0 _ _ _)
  have H73 := hide (hash73 (n := xs.length) hst h1)
  have hhl := hashL_len (n := xs.length) hst h1
  have zh := hide (show (Tryd.prog.info? 88).map (·.size) = some (hashL (stK xs (xs.length / 64)) held xs.length).length by rw [hhl]; kernel_rfl)
  have oh := hide (show ∀ u ∈ hashL (stK xs (xs.length / 64)) held xs.length, u.oneCell' = true by
    intro u hu
    simp only [hashL, List.mem_cons, List.mem_append, List.not_mem_nil, or_false] at hu
    rcases hu with rfl | hu | hu | rfl
    · rfl
    · exact vk_one' _ _ u hu
    · exact bv_one _ u hu
    · rfl)
  have zz := hide (show hashZ.length = (hashL (stK xs (xs.length / 64)) held xs.length).length by rw [hhl, hashZ_len])
  have zH := zeroHash
  have hgw := h4.lt
  clear hsl hfin h1 h2 h3 hhl hst hPl
  generalize hashL (stK xs (xs.length / 64)) held xs.length = hl at *
  generalize sumS xs = FS at *
  generalize hashZ = hz at *
  go_enter Tryd.func56, Tryd.ntmps56
  go_wp2_with (first
    | (with_reducible refine wl_alloc rfl 23 _ (bv (List.replicate 32 0)) rfl zero32b rfl ?_; intro g2 w2 r2 p2 l2 b2; have h4a := h4.later b2; have c0a := (b2.cell (p := ⟨g, 0, none⟩) hgw).trans c0)
    | (with_reducible refine wl_load_row rfl 88 (.tmp 15) g 88 hl _ rfl rfl h4a Tryd.underlying88 rfl zh.out ?_)
    | (with_reducible refine wl_alloc rfl 88 _ hz rfl zH rfl ?_; intro g3 w3 r3 p3 l3 b3; have h4b := h4a.later b3; have r2a := r2.later b3)
    | (with_reducible refine wl_store_row rfl 88 (.tmp 3) (.tmp 16) g3 88 _ hl rfl rfl rfl r3 zh.out zz.out oh.out ?_; intro w4 r4 o4; have h4c := h4b.only o4 (by have := h4a.lt; omega))
    | (with_reducible refine wl_load rfl 3 (.tmp 19) g 73 88 _ (.int .i64 (xs.length : Int)) rfl Tryd.isAgg3 rfl h4c H73.out ?_))
  have B3 := b2.trans (b3.mono b2.size)
  have q3 : w.heap.size ≤ g3 := Nat.le_trans b2.size p3
  have q2 : w.heap.size ≤ g2 := p2
  have h23 : g2 ≠ g3 := by have := r2.lt; omega
  have B4 := B3.trans (o4.below q3)
  have r2b := r2a.only o4 h23
  have hh4 := hfin0 _ _ r4
  clear h4 h4a h4b h4c r2 r2a r3 c0 c0a b2 b3 o4 hfin0 r4
  refine (hP w4).mono ?_
  rintro e w5 ⟨A5, n5, c5, rfl, h5, hc5, _, b5, hfr⟩
  have B5 := B4.trans (b5.mono B4.size)
  have hh5 := hh4.later b5
  have hg3 : (3 + 1) ≤ g3 := Nat.le_trans hT.1 q3
  have hlt4 : g3 < w4.heap.size := hh4.lt
  have ho : Off g3 n5 A5 := fun _ x hx => by have := hfr x hx; omega
  have r2c := r2b.later b5
  have T5 := hT.later B5
  clear hP hh4 b5 hfr r2b B4 B3
  go_wp2_with fail
  refine (hWr g3 A5 n5 c5 w5 T5 hg3 hh5 h5 ho hc5).mono ?_
  rintro e w6 ⟨rfl, hh6, b6⟩
  have B6 := B5.trans (b6.below q3 B5.size)
  have r2d := r2c.but b6 h23
  obtain ⟨held2, k1, k2, k3, k4⟩ := hh6
  have hsl2 := stK_len (xs ++ padS xs.length) ((xs ++ padS xs.length).length / 64)
  clear hWr hh5 h5 r2c b6 k3 T5
  generalize stK (xs ++ padS xs.length) ((xs ++ padS xs.length).length / 64) = st at *
  go_wp2_with (first
    | (with_reducible refine wl_load_part rfl 86 (.tmp 23) g3 1 88 [.bool true] (vk .u32 st) (bv held2 ++ [.int .i64 ((xs ++ padS xs.length).length : Int)]) _ rfl rfl (hashSt k4) rfl Tryd.underlying86 rfl zst2.out ?_))
  refine (hB w6).mono ?_
  rintro e w7 ⟨rfl, b7⟩
  rw [HF.out]
  have r2e := r2d.later b7
  have B7 := B6.trans (b7.mono B6.size)
  clear k4 r2d hB
  go_wp2_with (first
    | (with_reducible refine wl_store_row rfl 23 (.tmp 2) (.tmp 25) g2 23 _ (bv FS) rfl rfl rfl r2e zf.out lf.out (bv_one _) ?_; intro w8 r8 o8))
  refine bodyPost_ret (v := .agg (bv FS).toArray) ?_ rfl ⟨rfl, ?_⟩
  · exact results_cell_row Tryd.results56 _ _ g2 23 _ (0, 0) _ rfl r8 Tryd.underlying23 rfl zf.out
  · exact B7.trans (o8.below q2)
set_option maxRecDepth 100000 in
set_option maxHeartbeats 1000000 in
theorem sum_any (xs : List Int) (A : Option Addr) (m c : Nat) (w : World) (hT : Tabs w) (hx : Bs w w.heap.size A m xs) (hxb : IsBy xs) (hc : m ≤ c) (hM : m ≤ 4611686018427387904) :
    Calls Tryd.prog 44 #[.slice A m c] w fun e w' => e = .returned (.agg (bv (sumS xs)).toArray) ∧ Below w.heap.size w w' := by
  have hsl := sumS_len xs
  have zf := hide (size32b hsl)
  have lf := hide (show (bv (List.replicate 32 0)).length = (bv (sumS xs)).length by rw [bv_len, bv_len, hsl, List.length_replicate])
  have hlen := hx.1
  have hWr := fun g w hT hg hh hb ho => write_any [] xs g m c A w hT hg hh (fun _ h => by simp at h) hxb hb ho hc (by simp; omega)
  have hS := fun g w hT hh => hsum_any xs g w hT hh hxb (by omega)
  clear hsl hlen
  rw [List.nil_append] at hWr
  generalize sumS xs = FS at *
  go_enter Tryd.func44, Tryd.ntmps44
  go_wp2_with (first
    | (with_reducible refine wl_alloc rfl 23 _ (bv (List.replicate 32 0)) rfl zero32b rfl ?_; intro g2 w2 r2 p2 l2 b2))
  refine (hnew_any w2 (hT.later b2)).mono ?_
  rintro e w3 ⟨g, rfl, pg, hh, b3⟩
  have B3 := b2.trans (b3.mono b2.size)
  have hg2 : (3 + 1) ≤ g := Nat.le_trans hT.1 (Nat.le_trans b2.size pg)
  have hne : g2 ≠ g := by have := r2.lt; omega
  have ho : Off g m A := Off.of hx (Nat.le_trans b2.size pg)
  go_wp2_with fail
  refine (hWr g w3 (hT.later B3) hg2 hh (hx.later B3) ho).mono ?_
  rintro e w4 ⟨rfl, hh4, b4⟩
  have B4 := B3.trans (b4.below (Nat.le_trans b2.size pg) B3.size)
  have r4 := (r2.later b3).but b4 hne
  clear hWr hh r2 b4
  go_wp2_with fail
  refine (hS g w4 (hT.later B4) hh4).mono ?_
  rintro e w5 ⟨rfl, b5⟩
  have r5 := r4.later b5
  have B5 := B4.trans (b5.mono B4.size)
  go_wp2_with (first
    | (with_reducible refine wl_store_row rfl 23 (.tmp 2) (.tmp 9) g2 23 _ (bv FS) rfl rfl rfl r5 zf.out lf.out (bv_one _) ?_; intro w8 r8 o8))
  refine bodyPost_ret (v := .agg (bv FS).toArray) ?_ rfl ⟨rfl, ?_⟩
  · exact results_cell_row Tryd.results44 _ _ g2 23 _ (0, 0) _ rfl r8 Tryd.underlying23 rfl zf.out
  · exact B5.trans (o8.below p2)
end Go.Proofs.YtbolfkigiachlaaDoor

/-
  Several own texts in one: ShaA, ShaB, ShaC, ShaD, ShaE, ShaF, ShaG, ShaX, SumBy, MacA, MacB, MacC, Build3, MacD, MacE, Apart, KeyN. Own work.
-/
import Derived.Test.YtooooncmjhcdbaaGreatDoorRows
import Derived.WalkKit
import Derived.Lib.EndianBits
import Derived.Laws.BitsAllLaws
import Derived.Deep.QuietTactic
import Derived.BigQuiet
import Derived.Test.YtooooncmjhcdbaaGreatDoorGA
import Derived.Test.YtooooncmjhcdbaaGreatDoorGK
import Derived.Test.YtooooncmjhcdbaaGreatDoorGC
set_option linter.unusedVariables false
set_option linter.unusedSimpArgs false
/-
  SHA-256: numbers that are turned, and what is made of them: contracts. Own work.
-/
namespace Go.Proofs.YtooooncmjhcdbaaGreatDoor.Sm
open Go.Proofs.YtooooncmjhcdbaaGreatDoor
open Go.RowKit
def w32 (x : Int) : Prop := 0 ≤ x ∧ x < 4294967296
/-- Turned left: p is 2 to the places, q 2 to the others. -/
def rot (p q x : Int) : Int := bits .or .u32 (x * p % 4294967296) (x / q)
theorem below_drewn {B : Nat} {w w' : World} (h : Below B w w') (n : Nat) : Below B w (w'.drewN n) := ⟨h.os, h.tape, h.output, h.size, h.block⟩
theorem or_w32 {x y : Int} (hx : w32 x) (hy : w32 y) : w32 (bits .or .u32 x y) := by
  rw [u32_or x y hx.1 hx.2 hy.1 hy.2]
  have h1 := hx.1
  have h2 := hx.2
  have h3 := hy.1
  have h4 := hy.2
  have := Nat.or_lt_two_pow (x := x.toNat) (y := y.toNat) (n := 32) (by omega) (by omega)
  exact ⟨by omega, by omega⟩
theorem xor_w32 {x y : Int} (hx : w32 x) (hy : w32 y) : w32 (bits .xor .u32 x y) := by
  rw [u32_xor x y hx.1 hx.2 hy.1 hy.2]
  have h1 := hx.1
  have h2 := hx.2
  have h3 := hy.1
  have h4 := hy.2
  have := Nat.xor_lt_two_pow (x := x.toNat) (y := y.toNat) (n := 32) (by omega) (by omega)
  exact ⟨by omega, by omega⟩
theorem and_w32 {x y : Int} (hx : w32 x) (hy : w32 y) : w32 (bits .and .u32 x y) := by
  rw [u32_and x y hx.1 hx.2 hy.1 hy.2]
  have h1 := hx.1
  have h2 := hx.2
  have h3 := hy.1
  have h4 := hy.2
  have := Nat.and_lt_two_pow (x := x.toNat) (y := y.toNat) (n := 32) (by omega)
  exact ⟨by omega, by omega⟩
theorem mod_w32 (x : Int) : w32 (x % 4294967296) := ⟨by omega, by omega⟩
theorem div_w32 {x : Int} (h : w32 x) {q : Int} (hq : 0 < q) : w32 (x / q) := by
  obtain ⟨h0, h1⟩ := h
  have a := Int.ediv_nonneg h0 (Int.le_of_lt hq)
  have b := Int.ediv_le_self q h0
  exact ⟨a, by omega⟩
theorem rot_w32 {p q x : Int} (h : w32 x) (hq : 0 < q) : w32 (rot p q x) := or_w32 (mod_w32 _) (div_w32 h hq)
/-- Turned right: by how many places, 2 to the others, 2 to these. -/
def ror2 (x : Int) : Int := rot 1073741824 4 x
theorem ror2_w32 {x : Int} (h : w32 x) : w32 (ror2 x) := rot_w32 h (by decide)
set_option maxRecDepth 100000 in
set_option maxHeartbeats 400000 in
theorem rotl2_any (x : Int) (w : World) (h : w32 x) : Calls Tryz.prog 69 #[.int .u32 x, .int .i64 (-2)] w fun e w' => e = .returned (.int .u32 (ror2 x)) ∧ w = w' := by
  obtain ⟨h0, h1⟩ := h
  have hb : bits .and .u64 (IntKind.u64.wrap (-2)) 31 = 30 := by decide +kernel
  go_enter Tryz.func69, Tryz.ntmps69
  go_wp2
  go_ret
  exact ⟨rfl, rfl⟩
set_option maxRecDepth 100000 in
set_option maxHeartbeats 400000 in
theorem turned2_any (x : Int) (w : World) (h : w32 x) : Calls Tryz.prog 98 #[.int .u32 x, .int .i64 2] w fun e w' => e = .returned (.int .u32 (ror2 x)) ∧ w = w' := by
  go_enter Tryz.func98, Tryz.ntmps98
  go_wp2_with fail
  refine (rotl2_any x w h).mono ?_
  rintro e w' ⟨rfl, rfl⟩
  go_wp2
  go_ret
  exact ⟨rfl, rfl⟩
def ror6 (x : Int) : Int := rot 67108864 64 x
theorem ror6_w32 {x : Int} (h : w32 x) : w32 (ror6 x) := rot_w32 h (by decide)
set_option maxRecDepth 100000 in
set_option maxHeartbeats 400000 in
theorem rotl6_any (x : Int) (w : World) (h : w32 x) : Calls Tryz.prog 69 #[.int .u32 x, .int .i64 (-6)] w fun e w' => e = .returned (.int .u32 (ror6 x)) ∧ w = w' := by
  obtain ⟨h0, h1⟩ := h
  have hb : bits .and .u64 (IntKind.u64.wrap (-6)) 31 = 26 := by decide +kernel
  go_enter Tryz.func69, Tryz.ntmps69
  go_wp2
  go_ret
  exact ⟨rfl, rfl⟩
set_option maxRecDepth 100000 in
set_option maxHeartbeats 400000 in
theorem turned6_any (x : Int) (w : World) (h : w32 x) : Calls Tryz.prog 98 #[.int .u32 x, .int .i64 6] w fun e w' => e = .returned (.int .u32 (ror6 x)) ∧ w = w' := by
  go_enter Tryz.func98, Tryz.ntmps98
  go_wp2_with fail
  refine (rotl6_any x w h).mono ?_
  rintro e w' ⟨rfl, rfl⟩
  go_wp2
  go_ret
  exact ⟨rfl, rfl⟩
def ror7 (x : Int) : Int := rot 33554432 128 x
theorem ror7_w32 {x : Int} (h : w32 x) : w32 (ror7 x) := rot_w32 h (by decide)
set_option maxRecDepth 100000 in
set_option maxHeartbeats 400000 in
theorem rotl7_any (x : Int) (w : World) (h : w32 x) : Calls Tryz.prog 69 #[.int .u32 x, .int .i64 (-7)] w fun e w' => e = .returned (.int .u32 (ror7 x)) ∧ w = w' := by
  obtain ⟨h0, h1⟩ := h
  have hb : bits .and .u64 (IntKind.u64.wrap (-7)) 31 = 25 := by decide +kernel
  go_enter Tryz.func69, Tryz.ntmps69
  go_wp2
  go_ret
  exact ⟨rfl, rfl⟩
set_option maxRecDepth 100000 in
set_option maxHeartbeats 400000 in
theorem turned7_any (x : Int) (w : World) (h : w32 x) : Calls Tryz.prog 98 #[.int .u32 x, .int .i64 7] w fun e w' => e = .returned (.int .u32 (ror7 x)) ∧ w = w' := by
  go_enter Tryz.func98, Tryz.ntmps98
  go_wp2_with fail
  refine (rotl7_any x w h).mono ?_
  rintro e w' ⟨rfl, rfl⟩
  go_wp2
  go_ret
  exact ⟨rfl, rfl⟩
def ror11 (x : Int) : Int := rot 2097152 2048 x
theorem ror11_w32 {x : Int} (h : w32 x) : w32 (ror11 x) := rot_w32 h (by decide)
set_option maxRecDepth 100000 in
set_option maxHeartbeats 400000 in
theorem rotl11_any (x : Int) (w : World) (h : w32 x) : Calls Tryz.prog 69 #[.int .u32 x, .int .i64 (-11)] w fun e w' => e = .returned (.int .u32 (ror11 x)) ∧ w = w' := by
  obtain ⟨h0, h1⟩ := h
  have hb : bits .and .u64 (IntKind.u64.wrap (-11)) 31 = 21 := by decide +kernel
  go_enter Tryz.func69, Tryz.ntmps69
  go_wp2
  go_ret
  exact ⟨rfl, rfl⟩
set_option maxRecDepth 100000 in
set_option maxHeartbeats 400000 in
theorem turned11_any (x : Int) (w : World) (h : w32 x) : Calls Tryz.prog 98 #[.int .u32 x, .int .i64 11] w fun e w' => e = .returned (.int .u32 (ror11 x)) ∧ w = w' := by
  go_enter Tryz.func98, Tryz.ntmps98
  go_wp2_with fail
  refine (rotl11_any x w h).mono ?_
  rintro e w' ⟨rfl, rfl⟩
  go_wp2
  go_ret
  exact ⟨rfl, rfl⟩
def ror13 (x : Int) : Int := rot 524288 8192 x
theorem ror13_w32 {x : Int} (h : w32 x) : w32 (ror13 x) := rot_w32 h (by decide)
set_option maxRecDepth 100000 in
set_option maxHeartbeats 400000 in
theorem rotl13_any (x : Int) (w : World) (h : w32 x) : Calls Tryz.prog 69 #[.int .u32 x, .int .i64 (-13)] w fun e w' => e = .returned (.int .u32 (ror13 x)) ∧ w = w' := by
  obtain ⟨h0, h1⟩ := h
  have hb : bits .and .u64 (IntKind.u64.wrap (-13)) 31 = 19 := by decide +kernel
  go_enter Tryz.func69, Tryz.ntmps69
  go_wp2
  go_ret
  exact ⟨rfl, rfl⟩
set_option maxRecDepth 100000 in
set_option maxHeartbeats 400000 in
theorem turned13_any (x : Int) (w : World) (h : w32 x) : Calls Tryz.prog 98 #[.int .u32 x, .int .i64 13] w fun e w' => e = .returned (.int .u32 (ror13 x)) ∧ w = w' := by
  go_enter Tryz.func98, Tryz.ntmps98
  go_wp2_with fail
  refine (rotl13_any x w h).mono ?_
  rintro e w' ⟨rfl, rfl⟩
  go_wp2
  go_ret
  exact ⟨rfl, rfl⟩
def ror17 (x : Int) : Int := rot 32768 131072 x
theorem ror17_w32 {x : Int} (h : w32 x) : w32 (ror17 x) := rot_w32 h (by decide)
set_option maxRecDepth 100000 in
set_option maxHeartbeats 400000 in
theorem rotl17_any (x : Int) (w : World) (h : w32 x) : Calls Tryz.prog 69 #[.int .u32 x, .int .i64 (-17)] w fun e w' => e = .returned (.int .u32 (ror17 x)) ∧ w = w' := by
  obtain ⟨h0, h1⟩ := h
  have hb : bits .and .u64 (IntKind.u64.wrap (-17)) 31 = 15 := by decide +kernel
  go_enter Tryz.func69, Tryz.ntmps69
  go_wp2
  go_ret
  exact ⟨rfl, rfl⟩
set_option maxRecDepth 100000 in
set_option maxHeartbeats 400000 in
theorem turned17_any (x : Int) (w : World) (h : w32 x) : Calls Tryz.prog 98 #[.int .u32 x, .int .i64 17] w fun e w' => e = .returned (.int .u32 (ror17 x)) ∧ w = w' := by
  go_enter Tryz.func98, Tryz.ntmps98
  go_wp2_with fail
  refine (rotl17_any x w h).mono ?_
  rintro e w' ⟨rfl, rfl⟩
  go_wp2
  go_ret
  exact ⟨rfl, rfl⟩
def ror18 (x : Int) : Int := rot 16384 262144 x
theorem ror18_w32 {x : Int} (h : w32 x) : w32 (ror18 x) := rot_w32 h (by decide)
set_option maxRecDepth 100000 in
set_option maxHeartbeats 400000 in
theorem rotl18_any (x : Int) (w : World) (h : w32 x) : Calls Tryz.prog 69 #[.int .u32 x, .int .i64 (-18)] w fun e w' => e = .returned (.int .u32 (ror18 x)) ∧ w = w' := by
  obtain ⟨h0, h1⟩ := h
  have hb : bits .and .u64 (IntKind.u64.wrap (-18)) 31 = 14 := by decide +kernel
  go_enter Tryz.func69, Tryz.ntmps69
  go_wp2
  go_ret
  exact ⟨rfl, rfl⟩
set_option maxRecDepth 100000 in
set_option maxHeartbeats 400000 in
theorem turned18_any (x : Int) (w : World) (h : w32 x) : Calls Tryz.prog 98 #[.int .u32 x, .int .i64 18] w fun e w' => e = .returned (.int .u32 (ror18 x)) ∧ w = w' := by
  go_enter Tryz.func98, Tryz.ntmps98
  go_wp2_with fail
  refine (rotl18_any x w h).mono ?_
  rintro e w' ⟨rfl, rfl⟩
  go_wp2
  go_ret
  exact ⟨rfl, rfl⟩
def ror19 (x : Int) : Int := rot 8192 524288 x
theorem ror19_w32 {x : Int} (h : w32 x) : w32 (ror19 x) := rot_w32 h (by decide)
set_option maxRecDepth 100000 in
set_option maxHeartbeats 400000 in
theorem rotl19_any (x : Int) (w : World) (h : w32 x) : Calls Tryz.prog 69 #[.int .u32 x, .int .i64 (-19)] w fun e w' => e = .returned (.int .u32 (ror19 x)) ∧ w = w' := by
  obtain ⟨h0, h1⟩ := h
  have hb : bits .and .u64 (IntKind.u64.wrap (-19)) 31 = 13 := by decide +kernel
  go_enter Tryz.func69, Tryz.ntmps69
  go_wp2
  go_ret
  exact ⟨rfl, rfl⟩
set_option maxRecDepth 100000 in
set_option maxHeartbeats 400000 in
theorem turned19_any (x : Int) (w : World) (h : w32 x) : Calls Tryz.prog 98 #[.int .u32 x, .int .i64 19] w fun e w' => e = .returned (.int .u32 (ror19 x)) ∧ w = w' := by
  go_enter Tryz.func98, Tryz.ntmps98
  go_wp2_with fail
  refine (rotl19_any x w h).mono ?_
  rintro e w' ⟨rfl, rfl⟩
  go_wp2
  go_ret
  exact ⟨rfl, rfl⟩
def ror22 (x : Int) : Int := rot 1024 4194304 x
theorem ror22_w32 {x : Int} (h : w32 x) : w32 (ror22 x) := rot_w32 h (by decide)
set_option maxRecDepth 100000 in
set_option maxHeartbeats 400000 in
theorem rotl22_any (x : Int) (w : World) (h : w32 x) : Calls Tryz.prog 69 #[.int .u32 x, .int .i64 (-22)] w fun e w' => e = .returned (.int .u32 (ror22 x)) ∧ w = w' := by
  obtain ⟨h0, h1⟩ := h
  have hb : bits .and .u64 (IntKind.u64.wrap (-22)) 31 = 10 := by decide +kernel
  go_enter Tryz.func69, Tryz.ntmps69
  go_wp2
  go_ret
  exact ⟨rfl, rfl⟩
set_option maxRecDepth 100000 in
set_option maxHeartbeats 400000 in
theorem turned22_any (x : Int) (w : World) (h : w32 x) : Calls Tryz.prog 98 #[.int .u32 x, .int .i64 22] w fun e w' => e = .returned (.int .u32 (ror22 x)) ∧ w = w' := by
  go_enter Tryz.func98, Tryz.ntmps98
  go_wp2_with fail
  refine (rotl22_any x w h).mono ?_
  rintro e w' ⟨rfl, rfl⟩
  go_wp2
  go_ret
  exact ⟨rfl, rfl⟩
def ror25 (x : Int) : Int := rot 128 33554432 x
theorem ror25_w32 {x : Int} (h : w32 x) : w32 (ror25 x) := rot_w32 h (by decide)
set_option maxRecDepth 100000 in
set_option maxHeartbeats 400000 in
theorem rotl25_any (x : Int) (w : World) (h : w32 x) : Calls Tryz.prog 69 #[.int .u32 x, .int .i64 (-25)] w fun e w' => e = .returned (.int .u32 (ror25 x)) ∧ w = w' := by
  obtain ⟨h0, h1⟩ := h
  have hb : bits .and .u64 (IntKind.u64.wrap (-25)) 31 = 7 := by decide +kernel
  go_enter Tryz.func69, Tryz.ntmps69
  go_wp2
  go_ret
  exact ⟨rfl, rfl⟩
set_option maxRecDepth 100000 in
set_option maxHeartbeats 400000 in
theorem turned25_any (x : Int) (w : World) (h : w32 x) : Calls Tryz.prog 98 #[.int .u32 x, .int .i64 25] w fun e w' => e = .returned (.int .u32 (ror25 x)) ∧ w = w' := by
  go_enter Tryz.func98, Tryz.ntmps98
  go_wp2_with fail
  refine (rotl25_any x w h).mono ?_
  rintro e w' ⟨rfl, rfl⟩
  go_wp2
  go_ret
  exact ⟨rfl, rfl⟩
theorem or_comm32 {x y : Int} (hx : w32 x) (hy : w32 y) : bits .or .u32 x y = bits .or .u32 y x := by
  rw [u32_or x y hx.1 hx.2 hy.1 hy.2, u32_or y x hy.1 hy.2 hx.1 hx.2, Nat.or_comm]
end Go.Proofs.YtooooncmjhcdbaaGreatDoor.Sm

/-
  SHA-256: s0, s1, S0, S1 and a round: contracts. Own work.
-/
namespace Go.Proofs.YtooooncmjhcdbaaGreatDoor.Sm
open Go.Proofs.YtooooncmjhcdbaaGreatDoor
open Go.RowKit
def sg_s0 (x : Int) : Int := bits .xor .u32 (bits .xor .u32 (ror7 x) (ror18 x)) (x / 8)
theorem sg_s0_eq (x : Int) : sg_s0 x = bits .xor .u32 (bits .xor .u32 (ror7 x) (ror18 x)) (x / 8) := rfl
theorem sg_s0_w32 {x : Int} (h : w32 x) : w32 (sg_s0 x) := xor_w32 (xor_w32 (ror7_w32 h) (ror18_w32 h)) (div_w32 h (by decide))
set_option maxRecDepth 100000 in
set_option maxHeartbeats 400000 in
theorem s0_any (x : Int) (w : World) (h : w32 x) : Calls Tryz.prog 94 #[.int .u32 x] w fun e w' => e = .returned (.int .u32 (sg_s0 x)) ∧ w = w' := by
  have h' := h
  obtain ⟨h0, h1⟩ := h
  go_enter Tryz.func94, Tryz.ntmps94
  go_wp2_with fail
  refine (turned7_any x w h').mono ?_
  rintro e w' ⟨rfl, rfl⟩
  go_wp2_with fail
  refine (turned18_any x w h').mono ?_
  rintro e w' ⟨rfl, rfl⟩
  have g1 := ror7_w32 h'
  have g2 := ror18_w32 h'
  have Hd := hide (sg_s0_eq x)
  generalize ror7 x = y at *
  generalize ror18 x = z at *
  go_wp2
  go_ret
  exact ⟨by rw [Hd.out]; rfl, rfl⟩
def sg_s1 (x : Int) : Int := bits .xor .u32 (bits .xor .u32 (ror17 x) (ror19 x)) (x / 1024)
theorem sg_s1_eq (x : Int) : sg_s1 x = bits .xor .u32 (bits .xor .u32 (ror17 x) (ror19 x)) (x / 1024) := rfl
theorem sg_s1_w32 {x : Int} (h : w32 x) : w32 (sg_s1 x) := xor_w32 (xor_w32 (ror17_w32 h) (ror19_w32 h)) (div_w32 h (by decide))
set_option maxRecDepth 100000 in
set_option maxHeartbeats 400000 in
theorem s1_any (x : Int) (w : World) (h : w32 x) : Calls Tryz.prog 93 #[.int .u32 x] w fun e w' => e = .returned (.int .u32 (sg_s1 x)) ∧ w = w' := by
  have h' := h
  obtain ⟨h0, h1⟩ := h
  go_enter Tryz.func93, Tryz.ntmps93
  go_wp2_with fail
  refine (turned17_any x w h').mono ?_
  rintro e w' ⟨rfl, rfl⟩
  go_wp2_with fail
  refine (turned19_any x w h').mono ?_
  rintro e w' ⟨rfl, rfl⟩
  have g1 := ror17_w32 h'
  have g2 := ror19_w32 h'
  have Hd := hide (sg_s1_eq x)
  generalize ror17 x = y at *
  generalize ror19 x = z at *
  go_wp2
  go_ret
  exact ⟨by rw [Hd.out]; rfl, rfl⟩
def sg_bigS0 (x : Int) : Int := bits .xor .u32 (bits .xor .u32 (ror2 x) (ror13 x)) (ror22 x)
theorem sg_bigS0_eq (x : Int) : sg_bigS0 x = bits .xor .u32 (bits .xor .u32 (ror2 x) (ror13 x)) (ror22 x) := rfl
theorem sg_bigS0_w32 {x : Int} (h : w32 x) : w32 (sg_bigS0 x) := xor_w32 (xor_w32 (ror2_w32 h) (ror13_w32 h)) (ror22_w32 h)
set_option maxRecDepth 100000 in
set_option maxHeartbeats 400000 in
theorem bigS0_any (x : Int) (w : World) (h : w32 x) : Calls Tryz.prog 96 #[.int .u32 x] w fun e w' => e = .returned (.int .u32 (sg_bigS0 x)) ∧ w = w' := by
  have h' := h
  obtain ⟨h0, h1⟩ := h
  go_enter Tryz.func96, Tryz.ntmps96
  go_wp2_with fail
  refine (turned2_any x w h').mono ?_
  rintro e w' ⟨rfl, rfl⟩
  go_wp2_with fail
  refine (turned13_any x w h').mono ?_
  rintro e w' ⟨rfl, rfl⟩
  go_wp2_with fail
  refine (turned22_any x w h').mono ?_
  rintro e w' ⟨rfl, rfl⟩
  have Hd := hide (sg_bigS0_eq x)
  generalize ror2 x = y at *
  generalize ror13 x = z at *
  generalize ror22 x = u at *
  go_wp2
  go_ret
  exact ⟨by rw [Hd.out]; rfl, rfl⟩
def sg_bigS1 (x : Int) : Int := bits .xor .u32 (bits .xor .u32 (ror6 x) (ror11 x)) (ror25 x)
theorem sg_bigS1_eq (x : Int) : sg_bigS1 x = bits .xor .u32 (bits .xor .u32 (ror6 x) (ror11 x)) (ror25 x) := rfl
theorem sg_bigS1_w32 {x : Int} (h : w32 x) : w32 (sg_bigS1 x) := xor_w32 (xor_w32 (ror6_w32 h) (ror11_w32 h)) (ror25_w32 h)
set_option maxRecDepth 100000 in
set_option maxHeartbeats 400000 in
theorem bigS1_any (x : Int) (w : World) (h : w32 x) : Calls Tryz.prog 95 #[.int .u32 x] w fun e w' => e = .returned (.int .u32 (sg_bigS1 x)) ∧ w = w' := by
  have h' := h
  obtain ⟨h0, h1⟩ := h
  go_enter Tryz.func95, Tryz.ntmps95
  go_wp2_with fail
  refine (turned6_any x w h').mono ?_
  rintro e w' ⟨rfl, rfl⟩
  go_wp2_with fail
  refine (turned11_any x w h').mono ?_
  rintro e w' ⟨rfl, rfl⟩
  go_wp2_with fail
  refine (turned25_any x w h').mono ?_
  rintro e w' ⟨rfl, rfl⟩
  have Hd := hide (sg_bigS1_eq x)
  generalize ror6 x = y at *
  generalize ror11 x = z at *
  generalize ror25 x = u at *
  go_wp2
  go_ret
  exact ⟨by rw [Hd.out]; rfl, rfl⟩
def chF (e f g : Int) : Int := bits .xor .u32 (bits .and .u32 e f) (bits .and .u32 (bits .xor .u32 4294967295 e) g)
def mjF (a b c : Int) : Int := bits .xor .u32 (bits .xor .u32 (bits .and .u32 a b) (bits .and .u32 a c)) (bits .and .u32 b c)
theorem chF_w32 {e f g : Int} (he : w32 e) (hf : w32 f) (hg : w32 g) : w32 (chF e f g) := xor_w32 (and_w32 he hf) (and_w32 (xor_w32 ⟨by decide, by decide⟩ he) hg)
theorem mjF_w32 {e f g : Int} (he : w32 e) (hf : w32 f) (hg : w32 g) : w32 (mjF e f g) := xor_w32 (xor_w32 (and_w32 he hf) (and_w32 he hg)) (and_w32 hf hg)
def tS (e f g h x : Int) : Int := h + sg_bigS1 e + chF e f g + x
def uS (a b c : Int) : Int := sg_bigS0 a + mjF a b c
/-- The state behind a round. -/
def rndL (a b c d e f g h x : Int) : List Int := [(tS e f g h x + uS a b c) % 4294967296, a, b, c, (d + tS e f g h x) % 4294967296, e, f, g]
theorem all_one (us : List Value) (h : us.all (·.oneCell') = true) : ∀ u ∈ us, u.oneCell' = true := fun u hu => List.all_eq_true.1 h u hu
theorem zero8u : (Tryz.prog.info? 153).map (fun i => i.zero) = some (some (.agg (vk .u32 (List.replicate 8 0)).toArray)) := by kernel_rfl
theorem size8 {xs : List Int} (h : xs.length = 8) : (Tryz.prog.info? 153).map (·.size) = some (vk .u32 xs).length := by rw [vk_len, h]; kernel_rfl
theorem bSt (a b c d e f g h : Int) : Tryz.prog.built 153 [(0, .int .u32 a), (1, .int .u32 b), (2, .int .u32 c), (3, .int .u32 d), (4, .int .u32 e), (5, .int .u32 f), (6, .int .u32 g), (7, .int .u32 h)] = some (vk .u32 [a, b, c, d, e, f, g, h]).toArray := by kernel_rfl
set_option maxRecDepth 100000 in
set_option maxHeartbeats 2000000 in
theorem round_any (a b c d e f g h x : Int) (w : World) (ha : w32 a) (hb : w32 b) (hc : w32 c) (hd : w32 d) (he : w32 e) (hf : w32 f) (hg : w32 g) (hh : w32 h) (hx : w32 x) :
    Calls Tryz.prog 88 #[.agg (vk .u32 [a, b, c, d, e, f, g, h]).toArray, .int .u32 x] w fun en w' => en = .returned (.agg (vk .u32 (rndL a b c d e f g h x)).toArray) ∧ Below w.heap.size w w' := by
  have HS1 := fun w => bigS1_any e w he
  have HS0 := fun w => bigS0_any a w ha
  have k1 := sg_bigS1_w32 he
  have k0 := sg_bigS0_w32 ha
  have hdef : rndL a b c d e f g h x = [(h + sg_bigS1 e + chF e f g + x + (sg_bigS0 a + mjF a b c)) % 4294967296, a, b, c, (d + (h + sg_bigS1 e + chF e f g + x)) % 4294967296, e, f, g] := rfl
  have Hd := hide hdef
  clear hdef
  obtain ⟨a0, a1⟩ := ha
  obtain ⟨e0, e1⟩ := he
  generalize sg_bigS1 e = S1 at *
  generalize sg_bigS0 a = S0 at *
  go_enter Tryz.func88, Tryz.ntmps88
  go_wp2_with (first
    | (with_reducible refine wl_box rfl 153 (.tmp 0) _ (vk .u32 [a, b, c, d, e, f, g, h]) rfl rfl rfl ?_; intro g1 w1 r1 p1 l1 b1)
    | (with_reducible refine wl_alloc rfl 153 _ (vk .u32 (List.replicate 8 0)) rfl zero8u rfl ?_; intro g2 w2 r2 p2 l2 b2; have r1' := r1.later b2))
  have c0 := r1'.cell (j := 0) rfl
  have c1 := r1'.cell (j := 1) rfl
  have c2 := r1'.cell (j := 2) rfl
  have c3 := r1'.cell (j := 3) rfl
  have c4 := r1'.cell (j := 4) rfl
  have c5 := r1'.cell (j := 5) rfl
  have c6 := r1'.cell (j := 6) rfl
  have c7 := r1'.cell (j := 7) rfl
  have B2 := b1.trans (b2.mono b1.size)
  have b1s := b1.size
  go_quiet (fail)
  have r2' := r2.drewN nq
  have B3 := below_drewn B2 nq
  clear r1 r1' c0 c1 c2 c3 c4 c5 c6 c7 r2 b1 b2 B2
  generalize w2.drewN nq = w3 at *
  go_wp2_with fail
  refine (HS1 w3).mono ?_
  rintro en w' ⟨rfl, rfl⟩
  go_wp2_with fail
  refine (HS0 w3).mono ?_
  rintro en w' ⟨rfl, rfl⟩
  clear HS1 HS0
  go_wp2_with (first
    | (refine wl_store_row rfl 153 (.tmp 4) (.tmp 72) g2 153 _ _ rfl rfl rfl r2' (by kernel_rfl) rfl (all_one _ rfl) ?_; intro w4 r4 o4))
  rw [Hd.out]
  refine bodyPost_ret ?_ rfl ⟨rfl, ?_⟩
  · exact results_cell_row Tryz.results88 _ _ g2 153 _ (0, 0) _ rfl r4 Tryz.underlying153 rfl (by kernel_rfl)
  · exact B3.trans (o4.below (Nat.le_trans b1s p2))
end Go.Proofs.YtooooncmjhcdbaaGreatDoor.Sm

/-
  SHA-256: the words of a block: contract. Own work.
-/
namespace Go.Proofs.YtooooncmjhcdbaaGreatDoor.Sm
open Go.Proofs.YtooooncmjhcdbaaGreatDoor
open Go.RowKit
def IsW (xs : List Int) : Prop := ∀ x, x ∈ xs → w32 x
theorem IsW.app {xs ys : List Int} (h : IsW xs) (k : IsW ys) : IsW (xs ++ ys) := fun x hx => (List.mem_append.1 hx).elim (h x) (k x)
theorem IsW.getD {xs : List Int} (h : IsW xs) (j : Nat) : w32 (xs.getD j 0) := by
  by_cases hj : j < xs.length
  · exact h _ (by rw [List.getD, List.getElem?_eq_getElem hj]; simp)
  · rw [List.getD, List.getElem?_eq_none (by omega)]; exact ⟨by decide, by decide⟩
theorem IsW.one {x : Int} (h : w32 x) : IsW [x] := fun y hy => by simp at hy; subst hy; exact h
theorem IsW.rep (n : Nat) : IsW (List.replicate n 0) := fun x hx => by rw [List.eq_of_mem_replicate hx]; exact ⟨by decide, by decide⟩
theorem grown_only {g : Nat} {w w' : World} (h : Only g w w') : w.grownBy w' (some g) := ⟨h.os, h.tape, h.output, Nat.le_of_eq h.size.symm, fun k hk hne => h.block k (fun e => hne (by rw [e]))⟩
theorem _root_.Go.Proofs.YtooooncmjhcdbaaGreatDoor.Row.grown {w w' : World} {t g : Nat} {vs : List Value} (h : Row w t g vs) {r : Option Nat} (hg : w.grownBy w' r) (hr : some g ≠ r) : Row w' t g vs := (hg.block g h.lt hr).trans h
/-- The first words: four bytes each. -/
def w16 (bs : List Int) (k : Nat) : List Int := (List.range k).map fun i => beV ((bs.drop (4 * i)).take 4)
theorem w16_len (bs : List Int) (k : Nat) : (w16 bs k).length = k := by simp [w16]
theorem w16_succ (bs : List Int) (k : Nat) : w16 bs (k + 1) = w16 bs k ++ [beV ((bs.drop (4 * k)).take 4)] := by simp [w16, List.range_succ]
theorem beV4 {xs : List Int} (h : IsBy xs) : w32 (beV (xs.take 4)) := by
  obtain ⟨h0, h1⟩ := beV_bound (h.take 4)
  refine ⟨h0, ?_⟩
  have h2 : (xs.take 4).length ≤ 4 := by rw [List.length_take]; omega
  exact Int.lt_of_lt_of_le h1 (pow256_mono h2)
theorem w16_w {bs : List Int} (h : IsBy bs) (k : Nat) : IsW (w16 bs k) := by
  intro x hx
  simp only [w16, List.mem_map, List.mem_range] at hx
  obtain ⟨i, _, rfl⟩ := hx
  exact beV4 (h.drop _)
def wNext (l : List Int) : Int := (sg_s1 (l.getD (l.length - 2) 0) + l.getD (l.length - 7) 0 + sg_s0 (l.getD (l.length - 15) 0) + l.getD (l.length - 16) 0) % 4294967296
def wX (bs : List Int) : Nat → List Int
  | 0 => w16 bs 16
  | n + 1 => wX bs n ++ [wNext (wX bs n)]
theorem wX_len (bs : List Int) (n : Nat) : (wX bs n).length = 16 + n := by
  induction n with
  | zero => exact w16_len _ _
  | succ n ih => simp [wX, ih]; omega
theorem wX_w {bs : List Int} (h : IsBy bs) (n : Nat) : IsW (wX bs n) := by
  induction n with
  | zero => exact w16_w h 16
  | succ n ih => exact ih.app (IsW.one (mod_w32 _))
/-- All the words of a block. -/
def wAll (bs : List Int) : List Int := wX bs 48
theorem wAll_len (bs : List Int) : (wAll bs).length = 64 := wX_len bs 48
theorem wAll_w {bs : List Int} (h : IsBy bs) : IsW (wAll bs) := wX_w h 48
theorem fill_set (L : List Int) (k n : Nat) (hL : L.length = k) (hk : k < n) (v : Int) : (L ++ List.replicate (n - k) 0).set k v = (L ++ [v]) ++ List.replicate (n - (k + 1)) 0 := by
  rw [List.set_append_right _ _ (by omega), hL, Nat.sub_self, show n - k = (n - (k + 1)) + 1 from by omega, List.replicate_succ, List.set_cons_zero]
  simp
theorem getD_left {L R : List Int} {j : Nat} (h : j < L.length) : (L ++ R).getD j 0 = L.getD j 0 := by simp [List.getD, List.getElem?_append_left h]
theorem zero64u : (Tryz.prog.info? 158).map (fun i => i.zero) = some (some (.agg (vk .u32 (List.replicate 64 0)).toArray)) := by kernel_rfl
theorem size64u {xs : List Int} (h : xs.length = 64) : (Tryz.prog.info? 158).map (·.size) = some (vk .u32 xs).length := by rw [vk_len, h]; kernel_rfl
theorem size64b {xs : List Int} (h : xs.length = 64) : (Tryz.prog.info? 98).map (·.size) = some (bv xs).length := by rw [bv_len, h]; kernel_rfl
theorem _root_.Go.Proofs.YtooooncmjhcdbaaGreatDoor.JB.callX {g T k : Nat} {w0 w w' : World} {cur new : List Value} {bs bs' : List Bool} {vs us : List Value} (h : JB g T w0 k cur new bs vs w) (hb : Below w.heap.size w w') (h1 : bs'.getD k false = bs.getD k false) : JB g T w0 k cur new bs' us w' :=
  ⟨fun h0 => (h.1 (h1.symm.trans h0)).later hb, fun h0 => (h.2.1 (h1.symm.trans h0)).later hb, h.2.2.trans (But.of hb g)⟩
theorem pureB {P : Program} {f : FuncId} {xs : Array Value} {w : World} {v : Value} (h : Calls P f xs w fun e w' => e = .returned v ∧ w = w') : Calls P f xs w fun e w' => e = .returned v ∧ Below w.heap.size w w' := h.mono fun e w' h => ⟨h.1, by rw [← h.2]; exact Below.refl _ _⟩
theorem bv_app (xs ys : List Int) : bv (xs ++ ys) = bv xs ++ bv ys := by simp [bv]
theorem row_bs_at {w : World} {t g B off n : Nat} {ks : List Int} (h : Row w t g (bv ks)) (hn : off + n ≤ ks.length) (hB : g < B) : Bs w B (some ⟨g, off, none⟩) n ((ks.drop off).take n) := by
  have e : bv ks = bv (ks.take off) ++ (bv ((ks.drop off).take n) ++ bv ((ks.drop off).drop n)) := by
    rw [← bv_app, List.take_append_drop, ← bv_app, List.take_append_drop]
  rw [e] at h
  have := h.bs (B := B) (off := off) (by rw [bv_len, List.length_take]; omega) hB
  rwa [show ((ks.drop off).take n).length = n by rw [List.length_take, List.length_drop]; omega] at this
def SWd (cur : List Int) (g3 i : Nat) (opn : Nat) (v : Value) : Prop :=
  match opn with
  | 0 | 1 | 6 | 11 | 17 => v = .int .i64 (i : Int)
  | 2 => v = .int .i64 ((i - 2 : Nat) : Int)
  | 3 => v = .pointer (some ⟨g3, i - 2, none⟩)
  | 4 => v = .int .u32 (cur.getD (i - 2) 0)
  | 5 => v = .int .u32 (sg_s1 (cur.getD (i - 2) 0))
  | 7 => v = .int .i64 ((i - 7 : Nat) : Int)
  | 8 => v = .pointer (some ⟨g3, i - 7, none⟩)
  | 9 => v = .int .u32 (cur.getD (i - 7) 0)
  | 10 => v = .int .u32 ((sg_s1 (cur.getD (i - 2) 0) + cur.getD (i - 7) 0) % 4294967296)
  | 12 => v = .int .i64 ((i - 15 : Nat) : Int)
  | 13 => v = .pointer (some ⟨g3, i - 15, none⟩)
  | 14 => v = .int .u32 (cur.getD (i - 15) 0)
  | 15 => v = .int .u32 (sg_s0 (cur.getD (i - 15) 0))
  | 16 => v = .int .u32 ((sg_s1 (cur.getD (i - 2) 0) + cur.getD (i - 7) 0 + sg_s0 (cur.getD (i - 15) 0)) % 4294967296)
  | 18 => v = .int .i64 ((i - 16 : Nat) : Int)
  | 19 => v = .pointer (some ⟨g3, i - 16, none⟩)
  | 20 => v = .int .u32 (cur.getD (i - 16) 0)
  | 21 => v = .int .u32 ((sg_s1 (cur.getD (i - 2) 0) + cur.getD (i - 7) 0 + sg_s0 (cur.getD (i - 15) 0) + cur.getD (i - 16) 0) % 4294967296)
  | 22 => v = .pointer (some ⟨g3, i, none⟩)
  | _ => True

set_option maxRecDepth 100000 in
set_option maxHeartbeats 1000000 in
theorem words_any (bs : List Int) (w : World) (hl : bs.length = 64) (hb : IsBy bs) :
    Calls Tryz.prog 87 #[.agg (bv bs).toArray] w fun en w' => en = .returned (.agg (vk .u32 (wAll bs)).toArray) ∧ Below w.heap.size w w' := by
  have z64 := hide (size64b hl)
  have HL := hide hl
  have zw := hide (size64u (wAll_len bs))
  have lw := hide (show (vk .u32 (List.replicate 64 0)).length = (vk .u32 (wAll bs)).length by rw [vk_len, vk_len, wAll_len, List.length_replicate])
  clear hl
  have HWA := hide (show ∀ m, m = 48 → wX bs m = wAll bs from fun m h => by rw [h]; rfl)
  generalize wAll bs = WA at *
  go_enter Tryz.func87, Tryz.ntmps87
  go_wp2_with (first
    | (with_reducible refine wl_box rfl 98 (.tmp 0) _ (bv bs) rfl rfl rfl ?_; intro g1 w1 r1 p1 l1 b1)
    | (with_reducible refine wl_alloc (o := ⟨some 2, _, _, _, _, _⟩) rfl 158 _ (vk .u32 (List.replicate 64 0)) rfl zero64u rfl ?_; intro g2 w2 r2 p2 l2 b2; have r1' := r1.later b2)
    | (with_reducible refine wl_alloc (o := ⟨some 3, _, _, _, _, _⟩) rfl 158 _ (vk .u32 (List.replicate 64 0)) rfl zero64u rfl ?_; intro g3 w3 r3 p3 l3 b3; have r1'' := r1'.later b3; have r2' := r2.later b3))
  have s1 := b1.size; have s2 := b2.size; have s3 := b3.size
  have B3 := (b1.trans (b2.mono s1)).trans (b3.mono (Nat.le_trans s1 s2))
  have hbs : Bs w3 w3.heap.size (some ⟨g1, 0, none⟩) 64 bs := by
    have := row_bs_at (n := 64) (off := 0) r1'' (by rw [HL.out]; decide) r1''.lt
    rw [List.drop_zero, List.take_of_length_le (by rw [HL.out]; decide)] at this
    exact this
  refine (read_any _ 64 64 bs w3 hbs (by decide)).mono ?_
  rintro en w4 ⟨gr, rfl, pr, lr, hrd, b4⟩
  have B4 := B3.trans (b4.mono B3.size)
  have r2a := r2'.later b4
  have r3a := r3.later b4
  have hne3 : g3 < w3.heap.size := r3.lt
  have hne2 : g2 < w3.heap.size := r2'.lt
  have hg23 : g2 ≠ g3 := by omega
  have q3 : w.heap.size ≤ g3 := by omega
  clear r1 r1' r1'' r2 r2' r3 hbs b1 b2 b3 b4
  go_wp2_with fail
  go_loopw [9] (fun iv wr => ∃ k : Nat, k ≤ 16 ∧ iv = .int .i64 k ∧ Row wr 158 g3 (vk .u32 (w16 bs k ++ List.replicate (64 - k) 0)) ∧ Rd wr w3.heap.size gr (bs.drop (4 * k)) 0 ∧ Row wr 158 g2 (vk .u32 (List.replicate 64 0)) ∧ Below w.heap.size w wr) (fun iv _ => 16 - (intOf iv).toNat)
  case atStart => exact ⟨0, Nat.zero_le _, rfl, r3a, hrd, r2a, B4⟩
  case round =>
    clear r3a r2a hrd
    obtain ⟨k, hk, rfl, rr, rd, r2r, br⟩ := hrel
    by_cases hlt : k < 16
    · have hu := u32_any wr rd (hb.drop (4 * k))
      have hln : (bs.drop (4 * k)).length = 64 - 4 * k := by rw [List.length_drop, HL.out]
      have htk : tk 4 (bs.drop (4 * k)) 0 = ((bs.drop (4 * k)).take 4, (bs.drop (4 * k)).drop 4, 0) := by
        unfold tk
        rw [if_neg (by simp), if_neg (by omega)]
      unfold unum at hu
      rw [htk] at hu
      simp only [List.drop_drop] at hu
      have hset := fill_set (w16 bs k) k 64 (w16_len bs k) (by omega) (beV ((bs.drop (4 * k)).take 4))
      rw [← w16_succ] at hset
      have HSt := hide hset
      have hw := beV4 (hb.drop (4 * k))
      have hlen : k < (vk .u32 (w16 bs k ++ List.replicate (64 - k) 0)).length := by rw [vk_len, List.length_append, w16_len, List.length_replicate]; omega
      have h4k : 4 * k + 4 = 4 * (k + 1) := by omega
      rw [h4k] at hu
      have HU := hide hu
      have HRD := hide rd
      clear hset htk h4k hln hu rd
      generalize beV ((bs.drop (4 * k)).take 4) = v at *
      go_wp2_with fail
      refine HU.out.mono ?_
      rintro en w5 ⟨rfl, rd5, gr5⟩
      have rr5 := rr.grown gr5 (by intro e; injection e with e; omega)
      have r25 := r2r.grown gr5 (by intro e; injection e with e; omega)
      have br5 := br.trans (below_of_grown gr5 (by omega) br.size)
      have hk64 : k < 64 := by omega
      clear HU rr HRD r2r
      go_wp2_with (first
        | (with_reducible refine wl_store rfl 97 (.tmp 15) (.tmp 14) g3 k 158 _ (.int .u32 v) rfl (by kernel_rfl) rfl rfl rr5 hlen rfl ?_; intro w6 r6 o6; rw [vk_set, HSt.out] at r6))
      go_roundw
      case rel => exact ⟨k + 1, by omega, by go_num, r6, rd5.grown (grown_only o6) (.inl (by omega)), r25.only o6 hg23, br5.trans (o6.below q3)⟩
      case measure => simp [intOf]; omega
    · obtain rfl : k = 16 := by omega
      clear rd
      go_wp2_with fail
      go_loopw [6] (fun iv wq => ∃ m : Nat, m ≤ 48 ∧ iv = .int .i64 ((16 + m : Nat) : Int) ∧ Row wq 158 g3 (vk .u32 (wX bs m ++ List.replicate (64 - (16 + m)) 0)) ∧ Row wq 158 g2 (vk .u32 (List.replicate 64 0)) ∧ Below w.heap.size w wq) (fun iv _ => 64 - (intOf iv).toNat)
      case atStart => exact ⟨0, Nat.zero_le _, rfl, rr, r2r, br⟩
      case round =>
        clear rr r2r br
        obtain ⟨m, hm, rfl, rr, r2r, br⟩ := hrel
        obtain ⟨i, hi⟩ : ∃ i, i = 16 + m := ⟨_, rfl⟩
        rw [← hi] at rr ⊢
        by_cases hlt : i < 64
        · have hlx := wX_len bs m
          have hset := fill_set (wX bs m) i 64 (by omega) hlt (wNext (wX bs m))
          rw [show wX bs m ++ [wNext (wX bs m)] = wX bs (m + 1) from rfl] at hset
          have hcw : IsW (wX bs m ++ List.replicate (64 - i) 0) := (wX_w hb m).app (IsW.rep _)
          have hcl : (wX bs m ++ List.replicate (64 - i) 0).length = 64 := by rw [List.length_append, List.length_replicate]; omega
          have hN : wNext (wX bs m) = (sg_s1 ((wX bs m ++ List.replicate (64 - i) 0).getD (i - 2) 0) + (wX bs m ++ List.replicate (64 - i) 0).getD (i - 7) 0 + sg_s0 ((wX bs m ++ List.replicate (64 - i) 0).getD (i - 15) 0) + (wX bs m ++ List.replicate (64 - i) 0).getD (i - 16) 0) % 4294967296 := by
            rw [getD_left (by omega), getD_left (by omega), getD_left (by omega), getD_left (by omega)]
            unfold wNext
            rw [hlx, ← hi]
          rw [hN] at hset
          have hi16 : 16 ≤ i := by omega
          have him : 16 + (m + 1) = i + 1 := by omega
          have HI := hide hi
          have HM := hide him
          clear hlx hN hi him
          generalize wX bs m ++ List.replicate (64 - i) 0 = cur at *
          generalize hnw : wX bs (m + 1) ++ List.replicate (64 - (i + 1)) 0 = new at *
          have HNw := hide hnw
          clear hnw
          have HS := hide hset
          have HC := hide hcl
          clear hset hcl
          go_wp2_with fail
          rename_i Q1 K1 hK1
          have hset := HS.out
          have hcl := HC.out
          refine wp_region_vals [5, 15, 23] (SWd cur g3 i) (JB g3 158 wr 2 (vk .u32 cur) (vk .u32 new)) (by kernel_rfl) (by kernel_rfl) (by kernel_rfl) (by kernel_rfl) (by kernel_rfl) (JB.start rr rfl) ?obs ?he
          case obs =>
            refine ⟨?_, ?_, ?_, ?_, ?_, ?_, ?_, ?_, ?_, ?_, ?_, ?_, ?_, ?_, ?_, ?_, ?_, ?_, ?_, ?_, ?_, ?_, ?_, ?_, trivial⟩
            · exact .inl ⟨by kernel_rfl, fun L a1 w1 n h => ⟨_, rfl, run_move (.tmp 6) rfl (h.var n 6 (by kernel_rfl))⟩⟩
            · exact .inl ⟨by kernel_rfl, fun L a1 w1 n h => ⟨_, rfl, run_move (.tmp 6) rfl (h.var n 6 (by kernel_rfl))⟩⟩
            · refine .inl ⟨by kernel_rfl, fun L a1 w1 n h => ⟨.int .i64 ((i - 2 : Nat) : Int), rfl, ?_⟩⟩
              have e0 : a1.eval (.tmp 22) = _ := h.dep n 1 22 (by kernel_rfl) rfl
              unfold execOp
              simp only [e0]
              go_simp
              first | omega | (rw [IntWalk.i64_in _ (by omega)]; congr 3; omega)
            · exact .inl ⟨by kernel_rfl, fun L a1 w1 n h => ⟨_, rfl, run_index0 158 (.tmp 3) (.tmp 23) 64 97 g3 (i - 2) rfl Tryz.underlying158 Tryz.sizeOf97 (h.var n 3 (by kernel_rfl)) (h.dep n 2 23 (by kernel_rfl) rfl) (by omega)⟩⟩
            · exact .inl ⟨by kernel_rfl, fun L a1 w1 n h => ⟨_, rfl, run_loadA 97 (.tmp 24) ⟨g3, i - 2, none⟩ rfl Tryz.isAgg97 (h.dep n 3 24 (by kernel_rfl) rfl) ((h.inv.1 (n.later (by kernel_rfl))).cell (vk_get (kd := .u32) (xs := cur) (j := i - 2) (by omega)))⟩⟩
            · refine .inr fun L a1 w1 n h K hK => ?_
              have e0 : a1.eval (.tmp 25) = .int .u32 (cur.getD (i - 2) 0) := h.dep n 4 25 (by kernel_rfl) rfl
              refine st_call 93 _ _ #[.int .u32 (cur.getD (i - 2) 0)] rfl Tryz.call93 ?_ (pureB (s1_any (cur.getD (i - 2) 0) w1 (hcw.getD _))) ?_
              · simp only [List.map_toArray, List.map_cons, List.map_nil, e0]
              · rintro e w3 ⟨rfl, b9⟩
                exact ⟨_, rfl, hK _ w3 rfl (JB.callX h.inv b9 rfl)⟩
            · exact .inl ⟨by kernel_rfl, fun L a1 w1 n h => ⟨_, rfl, run_move (.tmp 6) rfl (h.var n 6 (by kernel_rfl))⟩⟩
            · refine .inl ⟨by kernel_rfl, fun L a1 w1 n h => ⟨.int .i64 ((i - 7 : Nat) : Int), rfl, ?_⟩⟩
              have e0 : a1.eval (.tmp 27) = _ := h.dep n 6 27 (by kernel_rfl) rfl
              unfold execOp
              simp only [e0]
              go_simp
              first | omega | (rw [IntWalk.i64_in _ (by omega)]; congr 3; omega)
            · exact .inl ⟨by kernel_rfl, fun L a1 w1 n h => ⟨_, rfl, run_index0 158 (.tmp 3) (.tmp 28) 64 97 g3 (i - 7) rfl Tryz.underlying158 Tryz.sizeOf97 (h.var n 3 (by kernel_rfl)) (h.dep n 7 28 (by kernel_rfl) rfl) (by omega)⟩⟩
            · exact .inl ⟨by kernel_rfl, fun L a1 w1 n h => ⟨_, rfl, run_loadA 97 (.tmp 29) ⟨g3, i - 7, none⟩ rfl Tryz.isAgg97 (h.dep n 8 29 (by kernel_rfl) rfl) ((h.inv.1 (n.later (by kernel_rfl))).cell (vk_get (kd := .u32) (xs := cur) (j := i - 7) (by omega)))⟩⟩
            · refine .inl ⟨by kernel_rfl, fun L a1 w1 n h => ⟨.int .u32 ((sg_s1 (cur.getD (i - 2) 0) + cur.getD (i - 7) 0) % 4294967296), rfl, ?_⟩⟩
              have e0 : a1.eval (.tmp 26) = _ := h.dep n 5 26 (by kernel_rfl) rfl
              have e1 : a1.eval (.tmp 30) = _ := h.dep n 9 30 (by kernel_rfl) rfl
              unfold execOp
              simp only [e0, e1]
              go_simp
              simp only [IntKind.wrap_u32]
            · exact .inl ⟨by kernel_rfl, fun L a1 w1 n h => ⟨_, rfl, run_move (.tmp 6) rfl (h.var n 6 (by kernel_rfl))⟩⟩
            · refine .inl ⟨by kernel_rfl, fun L a1 w1 n h => ⟨.int .i64 ((i - 15 : Nat) : Int), rfl, ?_⟩⟩
              have e0 : a1.eval (.tmp 32) = _ := h.dep n 11 32 (by kernel_rfl) rfl
              unfold execOp
              simp only [e0]
              go_simp
              first | omega | (rw [IntWalk.i64_in _ (by omega)]; congr 3; omega)
            · exact .inl ⟨by kernel_rfl, fun L a1 w1 n h => ⟨_, rfl, run_index0 158 (.tmp 3) (.tmp 33) 64 97 g3 (i - 15) rfl Tryz.underlying158 Tryz.sizeOf97 (h.var n 3 (by kernel_rfl)) (h.dep n 12 33 (by kernel_rfl) rfl) (by omega)⟩⟩
            · exact .inl ⟨by kernel_rfl, fun L a1 w1 n h => ⟨_, rfl, run_loadA 97 (.tmp 34) ⟨g3, i - 15, none⟩ rfl Tryz.isAgg97 (h.dep n 13 34 (by kernel_rfl) rfl) ((h.inv.1 (n.later (by kernel_rfl))).cell (vk_get (kd := .u32) (xs := cur) (j := i - 15) (by omega)))⟩⟩
            · refine .inr fun L a1 w1 n h K hK => ?_
              have e0 : a1.eval (.tmp 35) = .int .u32 (cur.getD (i - 15) 0) := h.dep n 14 35 (by kernel_rfl) rfl
              refine st_call 94 _ _ #[.int .u32 (cur.getD (i - 15) 0)] rfl Tryz.call94 ?_ (pureB (s0_any (cur.getD (i - 15) 0) w1 (hcw.getD _))) ?_
              · simp only [List.map_toArray, List.map_cons, List.map_nil, e0]
              · rintro e w3 ⟨rfl, b9⟩
                exact ⟨_, rfl, hK _ w3 rfl (JB.callX h.inv b9 rfl)⟩
            · refine .inl ⟨by kernel_rfl, fun L a1 w1 n h => ⟨.int .u32 ((sg_s1 (cur.getD (i - 2) 0) + cur.getD (i - 7) 0 + sg_s0 (cur.getD (i - 15) 0)) % 4294967296), rfl, ?_⟩⟩
              have e0 : a1.eval (.tmp 31) = _ := h.dep n 10 31 (by kernel_rfl) rfl
              have e1 : a1.eval (.tmp 36) = _ := h.dep n 15 36 (by kernel_rfl) rfl
              unfold execOp
              simp only [e0, e1]
              go_simp
              simp only [IntKind.wrap_u32, Int.emod_add_emod]
            · exact .inl ⟨by kernel_rfl, fun L a1 w1 n h => ⟨_, rfl, run_move (.tmp 6) rfl (h.var n 6 (by kernel_rfl))⟩⟩
            · refine .inl ⟨by kernel_rfl, fun L a1 w1 n h => ⟨.int .i64 ((i - 16 : Nat) : Int), rfl, ?_⟩⟩
              have e0 : a1.eval (.tmp 38) = _ := h.dep n 17 38 (by kernel_rfl) rfl
              unfold execOp
              simp only [e0]
              go_simp
              first | omega | (rw [IntWalk.i64_in _ (by omega)]; congr 3; omega)
            · exact .inl ⟨by kernel_rfl, fun L a1 w1 n h => ⟨_, rfl, run_index0 158 (.tmp 3) (.tmp 39) 64 97 g3 (i - 16) rfl Tryz.underlying158 Tryz.sizeOf97 (h.var n 3 (by kernel_rfl)) (h.dep n 18 39 (by kernel_rfl) rfl) (by omega)⟩⟩
            · exact .inl ⟨by kernel_rfl, fun L a1 w1 n h => ⟨_, rfl, run_loadA 97 (.tmp 40) ⟨g3, i - 16, none⟩ rfl Tryz.isAgg97 (h.dep n 19 40 (by kernel_rfl) rfl) ((h.inv.1 (n.later (by kernel_rfl))).cell (vk_get (kd := .u32) (xs := cur) (j := i - 16) (by omega)))⟩⟩
            · refine .inl ⟨by kernel_rfl, fun L a1 w1 n h => ⟨.int .u32 ((sg_s1 (cur.getD (i - 2) 0) + cur.getD (i - 7) 0 + sg_s0 (cur.getD (i - 15) 0) + cur.getD (i - 16) 0) % 4294967296), rfl, ?_⟩⟩
              have e0 : a1.eval (.tmp 37) = _ := h.dep n 16 37 (by kernel_rfl) rfl
              have e1 : a1.eval (.tmp 41) = _ := h.dep n 20 41 (by kernel_rfl) rfl
              unfold execOp
              simp only [e0, e1]
              go_simp
              simp only [IntKind.wrap_u32, Int.emod_add_emod]
            · exact .inl ⟨by kernel_rfl, fun L a1 w1 n h => ⟨_, rfl, run_index0 158 (.tmp 3) (.tmp 21) 64 97 g3 (i) rfl Tryz.underlying158 Tryz.sizeOf97 (h.var n 3 (by kernel_rfl)) (h.dep n 0 21 (by kernel_rfl) rfl) (by omega)⟩⟩
            · refine .inr fun L a1 w1 n h K hK => ?_
              have no : L.getD 23 false = false := n.not_yet
              have e1 : a1.eval (.tmp 43) = _ := h.dep n 22 43 (by kernel_rfl) rfl
              have e2 : a1.eval (.tmp 42) = _ := h.dep n 21 42 (by kernel_rfl) rfl
              refine st_store 97 (.tmp 43) (.tmp 42) g3 i 158 (vk .u32 cur) _ rfl (by kernel_rfl) e1 e2 (h.inv.1 no) (by rw [vk_len]; omega) rfl ?_
              intro w3 r3 o3
              rw [vk_set, hset] at r3
              exact hK undef w3 trivial (JB.store h.inv o3 r3 rfl)
          case he =>
            intro V w7 hV hJ
            have r7 := hJ.2.1 rfl
            have bu := hJ.2.2
            clear hV hJ
            simp only [putOps, List.setIfInBounds_toArray, List.set_cons_succ, List.set_cons_zero]
            refine hK1 _ _ ?_
            go_wp2
            go_roundw
            case rel => exact ⟨m + 1, by have := HI.out; omega, by rw [HM.out]; go_num, by rw [HM.out, HNw.out]; exact r7, r2r.but bu hg23, br.trans (bu.below q3 br.size)⟩
            case measure => simp [intOf]; omega
        · have h48 : m = 48 := by omega
          have h64 : i = 64 := by omega
          rw [HWA.out m h48, show 64 - i = 0 by omega, List.replicate_zero, List.append_nil] at rr
          clear hi h48 h64
          have hnl : decide ((i : Int) < 64) = false := by simp; omega
          go_wp2_with (first
            | (with_reducible refine wl_load_row rfl 158 (.tmp 3) g3 158 (vk .u32 WA) _ rfl rfl rr Tryz.underlying158 rfl zw.out ?_)
            | (with_reducible refine wl_store_row rfl 158 (.tmp 2) (.tmp 44) g2 158 _ (vk .u32 WA) rfl rfl rfl r2r zw.out lw.out (vk_one' _ _) ?_; intro w8 r8 o8))
          refine bodyPost_ret (v := .agg (vk .u32 WA).toArray) ?_ rfl ⟨rfl, ?_⟩
          · exact results_cell_row Tryz.results87 _ _ g2 158 _ (0, 0) _ rfl r8 Tryz.underlying158 rfl zw.out
          · exact br.trans (o8.below (by omega))
end Go.Proofs.YtooooncmjhcdbaaGreatDoor.Sm

/-
  SHA-256: the state behind a block: contract. Own work.
-/
namespace Go.Proofs.YtooooncmjhcdbaaGreatDoor.Sm
open Go.Proofs.YtooooncmjhcdbaaGreatDoor
open Go.RowKit
theorem run_indexV {P : Program} (w : World) (T elem len : Nat) (cs : Array Value) (i : Nat) (v : Value) (hu : P.underlying T = some (.array len elem)) (ha : ∀ w, (isAgg elem).run P w = .ok false w) (hs : ∀ w, (sizeOf elem).run P w = .ok 1 w) (hi : i < len) (hv : cs[i]? = some v) :
    (Instr.index T (.agg cs) (.int .i64 i)).run P w = .ok v w := by
  have h2 : ((0 : Int) ≤ i ∧ (i : Int) < len) := by omega
  have h3 : ¬ len ≤ i := by omega
  simp [Instr.index, asIntOf, underlying, hu, part, ha, hs, h2, h3, hv]
def startL : List Int := [0x6a09e667, 0xbb67ae85, 0x3c6ef372, 0xa54ff53a, 0x510e527f, 0x9b05688c, 0x1f83d9ab, 0x5be0cd19]
def rootsL : List Int := [
  0x428a2f98, 0x71374491, 0xb5c0fbcf, 0xe9b5dba5, 0x3956c25b, 0x59f111f1, 0x923f82a4, 0xab1c5ed5,
  0xd807aa98, 0x12835b01, 0x243185be, 0x550c7dc3, 0x72be5d74, 0x80deb1fe, 0x9bdc06a7, 0xc19bf174,
  0xe49b69c1, 0xefbe4786, 0x0fc19dc6, 0x240ca1cc, 0x2de92c6f, 0x4a7484aa, 0x5cb0a9dc, 0x76f988da,
  0x983e5152, 0xa831c66d, 0xb00327c8, 0xbf597fc7, 0xc6e00bf3, 0xd5a79147, 0x06ca6351, 0x14292967,
  0x27b70a85, 0x2e1b2138, 0x4d2c6dfc, 0x53380d13, 0x650a7354, 0x766a0abb, 0x81c2c92e, 0x92722c85,
  0xa2bfe8a1, 0xa81a664b, 0xc24b8b70, 0xc76c51a3, 0xd192e819, 0xd6990624, 0xf40e3585, 0x106aa070,
  0x19a4c116, 0x1e376c08, 0x2748774c, 0x34b0bcb5, 0x391c0cb3, 0x4ed8aa4a, 0x5b9cca4f, 0x682e6ff3,
  0x748f82ee, 0x78a5636f, 0x84c87814, 0x8cc70208, 0x90befffa, 0xa4506ceb, 0xbef9a3f7, 0xc67178f2]
/-- The program's two tables. -/
def Tabs (w : World) : Prop := (4 + 1) ≤ w.heap.size ∧ (∀ j, j < 8 → w.cell? ⟨3, j, none⟩ = some (.int .u32 (startL.getD j 0))) ∧ ∀ j, j < 64 → w.cell? ⟨4, j, none⟩ = some (.int .u32 (rootsL.getD j 0))
theorem Tabs.below {w w' : World} {B : Nat} (h : Tabs w) (hb : Below B w w') (h2 : (4 + 1) ≤ B) : Tabs w' := by
  refine ⟨Nat.le_trans h.1 hb.size, fun j hj => ?_, fun j hj => ?_⟩
  · rw [hb.cell (by show 3 < B; omega)]; exact h.2.1 j hj
  · rw [hb.cell (by show 4 < B; omega)]; exact h.2.2 j hj
theorem Tabs.later {w w' : World} (h : Tabs w) (hb : Below w.heap.size w w') : Tabs w' := h.below hb h.1
theorem isW_of_all {xs : List Int} (h : (xs.all fun x => decide (0 ≤ x) && decide (x < 4294967296)) = true) : IsW xs := fun x hx => by
  have := List.all_eq_true.1 h x hx
  simp at this
  exact this
theorem rootsW : IsW rootsL := isW_of_all (by decide +kernel)
theorem startW : IsW startL := isW_of_all (by decide +kernel)
/-- The state behind a round. -/
def rndS (s : List Int) (x : Int) : List Int := rndL (s.getD 0 0) (s.getD 1 0) (s.getD 2 0) (s.getD 3 0) (s.getD 4 0) (s.getD 5 0) (s.getD 6 0) (s.getD 7 0) x
theorem rndS_len (s : List Int) (x : Int) : (rndS s x).length = 8 := rfl
theorem rndS_w {s : List Int} (h : IsW s) (x : Int) : IsW (rndS s x) := by
  intro y hy
  simp only [rndS, rndL, List.mem_cons, List.not_mem_nil, or_false] at hy
  rcases hy with rfl | rfl | rfl | rfl | rfl | rfl | rfl | rfl
  · exact mod_w32 _
  · exact h.getD _
  · exact h.getD _
  · exact h.getD _
  · exact mod_w32 _
  · exact h.getD _
  · exact h.getD _
  · exact h.getD _
theorem list8 {s : List Int} (h : s.length = 8) : s = [s.getD 0 0, s.getD 1 0, s.getD 2 0, s.getD 3 0, s.getD 4 0, s.getD 5 0, s.getD 6 0, s.getD 7 0] := by
  match s, h with
  | [a, b, c, d, e, f, g, i], _ => rfl
theorem round_s (s : List Int) (x : Int) (w : World) (hl : s.length = 8) (hs : IsW s) (hx : w32 x) :
    Calls Tryz.prog 88 #[.agg (vk .u32 s).toArray, .int .u32 x] w fun en w' => en = .returned (.agg (vk .u32 (rndS s x)).toArray) ∧ Below w.heap.size w w' := by
  have h := round_any (s.getD 0 0) (s.getD 1 0) (s.getD 2 0) (s.getD 3 0) (s.getD 4 0) (s.getD 5 0) (s.getD 6 0) (s.getD 7 0) x w (hs.getD _) (hs.getD _) (hs.getD _) (hs.getD _) (hs.getD _) (hs.getD _) (hs.getD _) (hs.getD _) hx
  rw [← list8 hl] at h
  exact h
/-- The state behind some rounds. -/
def stN (s W : List Int) : Nat → List Int
  | 0 => s
  | k + 1 => rndS (stN s W k) ((rootsL.getD k 0 + W.getD k 0) % 4294967296)
theorem stN_len {s : List Int} (h : s.length = 8) (W : List Int) (k : Nat) : (stN s W k).length = 8 := by cases k <;> first | exact h | rfl
theorem stN_w {s : List Int} (h : IsW s) (W : List Int) (k : Nat) : IsW (stN s W k) := by
  induction k with
  | zero => exact h
  | succ k ih => exact rndS_w ih _
def adZ (s t : List Int) : List Int := List.zipWith (fun a b => (a + b) % 4294967296) s t
theorem adZ_len {s t : List Int} (h1 : s.length = 8) (h2 : t.length = 8) : (adZ s t).length = 8 := by simp [adZ, h1, h2]
theorem adZ_w (s t : List Int) : IsW (adZ s t) := by
  intro x hx
  unfold adZ at hx
  obtain ⟨i, hi, rfl⟩ := List.getElem_of_mem hx
  rw [List.getElem_zipWith]
  exact mod_w32 _
theorem adZ_get {s t : List Int} (h1 : s.length = 8) (h2 : t.length = 8) {k : Nat} (hk : k < 8) : (adZ s t).getD k 0 = (s.getD k 0 + t.getD k 0) % 4294967296 := by
  simp [adZ, List.getD, List.getElem?_zipWith, List.getElem?_eq_getElem (show k < s.length by omega), List.getElem?_eq_getElem (show k < t.length by omega)]
def mixL (z s : List Int) (k : Nat) : List Int := z.take k ++ s.drop k
theorem mixL_len {z s : List Int} (h1 : z.length = 8) (h2 : s.length = 8) {k : Nat} (hk : k ≤ 8) : (mixL z s k).length = 8 := by unfold mixL; rw [List.length_append, List.length_take, List.length_drop]; omega
theorem mixL_get {z s : List Int} (h1 : z.length = 8) (h2 : s.length = 8) {k : Nat} (hk : k < 8) : (mixL z s k).getD k 0 = s.getD k 0 := by
  unfold mixL
  simp [List.getD, List.getElem?_append, List.length_take, h1, show ¬ k < min k 8 by omega, show k - min k 8 = 0 by omega]
theorem mixL_set {z s : List Int} (h1 : z.length = 8) (h2 : s.length = 8) {k : Nat} (hk : k < 8) : (mixL z s k).set k (z.getD k 0) = mixL z s (k + 1) := by
  unfold mixL
  rw [List.set_append_right _ _ (by rw [List.length_take]; omega), List.length_take, h1, show k - min k 8 = 0 by omega, List.drop_eq_getElem_cons (show k < s.length by omega), List.set_cons_zero, List.take_succ_eq_append_getElem (show k < z.length by omega), List.append_assoc]
  simp [List.getD, List.getElem?_eq_getElem (show k < z.length by omega)]
/-- The state behind a block. -/
def blkS (s bs : List Int) : List Int := adZ s (stN s (wAll bs) 64)
theorem blkS_len {s : List Int} (h : s.length = 8) (bs : List Int) : (blkS s bs).length = 8 := adZ_len h (stN_len h _ _)
theorem blkS_w (s bs : List Int) : IsW (blkS s bs) := adZ_w _ _
def SBe5 (cur new : List Int) (y : Int) (g5 i : Nat) (opn : Nat) (v : Value) : Prop :=
  match opn with
  | 0 => v = .agg (vk .u32 cur).toArray
  | 1 => v = .int .i64 (i : Int)
  | 2 => v = .pointer (some ⟨4, i, none⟩)
  | 3 => v = .int .u32 (rootsL.getD i 0)
  | 4 => v = .int .u32 y
  | 5 => v = .int .u32 ((rootsL.getD i 0 + y) % 4294967296)
  | 6 => v = .agg (vk .u32 new).toArray
  | _ => True

def SBe10 (cur fin : List Int) (g2 g5 i : Nat) (opn : Nat) (v : Value) : Prop :=
  match opn with
  | 0 | 3 => v = .int .i64 (i : Int)
  | 1 | 7 => v = .pointer (some ⟨g2, i, none⟩)
  | 2 => v = .int .u32 (cur.getD i 0)
  | 4 => v = .pointer (some ⟨g5, i, none⟩)
  | 5 => v = .int .u32 (fin.getD i 0)
  | 6 => v = .int .u32 ((cur.getD i 0 + fin.getD i 0) % 4294967296)
  | _ => True

set_option maxRecDepth 100000 in
set_option maxHeartbeats 2000000 in
theorem behind_any (st bs : List Int) (w : World) (hT : Tabs w) (hsl : st.length = 8) (hsw : IsW st) (hl : bs.length = 64) (hb : IsBy bs) :
    Calls Tryz.prog 83 #[.agg (vk .u32 st).toArray, .agg (bv bs).toArray] w fun en w' => en = .returned (.agg (vk .u32 (blkS st bs)).toArray) ∧ Below w.heap.size w w' := by
  have z64 := hide (size64b hl)
  have HW := fun w => words_any bs w hl hb
  have hWl := wAll_len bs
  have hWw := wAll_w hb
  have HF := hide (show ∀ k, k = 64 → adZ st (stN st (wAll bs) k) = blkS st bs from fun k h => by rw [h]; rfl)
  have z8 := hide (size8 hsl)
  have l8 := hide (show (vk .u32 (List.replicate 8 0)).length = (vk .u32 st).length by rw [vk_len, vk_len, hsl, List.length_replicate])
  have hfl := blkS_len hsl bs
  have zf := hide (size8 hfl)
  have lf := hide (show (vk .u32 (List.replicate 8 0)).length = (vk .u32 (blkS st bs)).length by rw [vk_len, vk_len, hfl, List.length_replicate])
  have HWL := hide hWl
  have Hsl := hide hsl
  have zW := hide (size64u hWl)
  clear hl hWl hfl hsl
  generalize wAll bs = W at *
  generalize blkS st bs = FS at *
  go_enter Tryz.func83, Tryz.ntmps83
  go_wp2_with (first
    | (with_reducible refine wl_box rfl 153 (.tmp 0) _ (vk .u32 st) rfl rfl rfl ?_; intro g2 w1 r1 p1 l1 b1)
    | (with_reducible refine wl_box rfl 98 (.tmp 1) _ (bv bs) rfl rfl rfl ?_; intro g3 w2 r2 p2 l2 b2; have r1a := r1.later b2)
    | (with_reducible refine wl_alloc (o := ⟨some 4, _, _, _, _, _⟩) rfl 153 _ (vk .u32 (List.replicate 8 0)) rfl zero8u rfl ?_; intro g4 w3 r3 p3 l3 b3; have r1b := r1a.later b3; have r2a := r2.later b3)
    | (with_reducible refine wl_load_row rfl 153 (.tmp 2) g2 153 (vk .u32 st) _ rfl rfl r1b Tryz.underlying153 rfl z8.out ?_)
    | (with_reducible refine wl_alloc (o := ⟨some 5, _, _, _, _, _⟩) rfl 153 _ (vk .u32 (List.replicate 8 0)) rfl zero8u rfl ?_; intro g5 w4 r4 p4 l4 b4; have r1c := r1b.later b4; have r2b := r2a.later b4; have r3a := r3.later b4)
    | (with_reducible refine wl_store_row rfl 153 (.tmp 5) (.tmp 9) g5 153 _ (vk .u32 st) rfl rfl rfl r4 z8.out l8.out (vk_one' _ _) ?_; intro w5 r5 o5; have r2c := r2b.only o5 (by have := r2a.lt; omega))
    | (with_reducible refine wl_load_row rfl 98 (.tmp 3) g3 98 (bv bs) _ rfl rfl r2c Tryz.underlying98 rfl z64.out ?_))
  have s1 := b1.size; have s2 := b2.size; have s3 := b3.size; have s4 := b4.size
  have B4 := ((b1.trans (b2.mono s1)).trans (b3.mono (Nat.le_trans s1 s2))).trans (b4.mono (Nat.le_trans s1 (Nat.le_trans s2 s3)))
  have q2 : w.heap.size ≤ g2 := p1
  have q4 : w.heap.size ≤ g4 := by omega
  have q5 : w.heap.size ≤ g5 := by omega
  have h25 : g2 ≠ g5 := by have := r1b.lt; omega
  have h45 : g4 ≠ g5 := by have := r3.lt; omega
  have h24 : g2 ≠ g4 := by have := r1a.lt; omega
  have B5 := B4.trans (o5.below q5)
  have r1d := r1c.only o5 h25
  have r3b := r3a.only o5 h45
  clear r1 r1a r1b r1c r2 r2a r2b r2c r3 r3a r4 o5 b1 b2 b3 b4 B4 z64
  refine (HW w5).mono ?_
  rintro en w6 ⟨rfl, b6⟩
  have R5 := r5.later b6
  have R2 := r1d.later b6
  have R4 := r3b.later b6
  have B6 := B5.trans (b6.mono B5.size)
  clear HW r5 r1d r3b b6 B5
  go_wp2_with fail
  go_loopw [12] (fun iv wr => ∃ k : Nat, k ≤ 64 ∧ iv = .int .i64 k ∧ Row wr 153 g5 (vk .u32 (stN st W k)) ∧ Row wr 153 g2 (vk .u32 st) ∧ Row wr 153 g4 (vk .u32 (List.replicate 8 0)) ∧ Below w.heap.size w wr) (fun iv _ => 64 - (intOf iv).toNat)
  case atStart => exact ⟨0, Nat.zero_le _, rfl, R5, R2, R4, B6⟩
  case round =>
    clear R5 R2 R4
    obtain ⟨i, hk, rfl, r5, r2, r4, br⟩ := hrel
    by_cases hi : i < 64
    · have hcl := stN_len Hsl.out W i
      have hcw := stN_w hsw W i
      have hidx : (vk .u32 W)[i]? = some (.int .u32 (W.getD i 0)) := vk_get (by rw [HWL.out]; exact hi)
      have hnew : rndS (stN st W i) ((rootsL.getD i 0 + W.getD i 0) % 4294967296) = stN st W (i + 1) := rfl
      have hnl := stN_len Hsl.out W (i + 1)
      have Hcl := hide hcl
      have Hnl := hide hnl
      have Hnew := hide hnew.symm
      clear hcl hnl hnew
      generalize hn2 : stN st W (i + 1) = new at *
      have Hn2 := hide hn2
      clear hn2
      generalize stN st W i = cur at *
      generalize W.getD i 0 = y at *
      have hIx : ∀ w, (Instr.index 158 (.agg (vk .u32 W).toArray) (.int .i64 (i : Int))).run Tryz.prog w = .ok (.int .u32 y) w := fun w => run_indexV w 158 97 64 (vk .u32 W).toArray i (.int .u32 y) Tryz.underlying158 Tryz.isAgg97 Tryz.sizeOf97 hi (by simpa using hidx)
      go_wp2_with (first | rw [hIx])
      rename_i Q1 K1 hK1
      have hcl := Hcl.out
      have hnl := Hnl.out
      have hnew := Hnew.out
      have hg5 := q5
      have hwr := br.size
      have hgr : 4 < w.heap.size := hT.1
      have hTr := hT.later br
      refine wp_region_vals [6, 7] (SBe5 cur new y g5 i) (JB g5 153 wr 1 (vk .u32 cur) (vk .u32 new)) (by kernel_rfl) (by kernel_rfl) (by kernel_rfl) (by kernel_rfl) (by kernel_rfl) (JB.start r5 rfl) ?obs ?he
      case obs =>
        refine ⟨?_, ?_, ?_, ?_, ?_, ?_, ?_, ?_, trivial⟩
        · exact .inl ⟨by kernel_rfl, fun L a1 w1 n h => ⟨_, rfl, run_loadRow 153 (.tmp 5) g5 153 _ _ rfl (h.var n 5 (by kernel_rfl)) (h.inv.1 (n.later (by kernel_rfl))) Tryz.underlying153 rfl (size8 hcl)⟩⟩
        · exact .inl ⟨by kernel_rfl, fun L a1 w1 n h => ⟨_, rfl, run_move (.tmp 6) rfl (h.var n 6 (by kernel_rfl))⟩⟩
        · exact .inl ⟨by kernel_rfl, fun L a1 w1 n h => ⟨_, rfl, run_index0 158 (.global 4) (.tmp 17) 64 97 4 i rfl Tryz.underlying158 Tryz.sizeOf97 rfl (h.dep n 1 17 (by kernel_rfl) rfl) hi⟩⟩
        · exact .inl ⟨by kernel_rfl, fun L a1 w1 n h => ⟨_, rfl, run_loadA 97 (.tmp 18) ⟨4, i, none⟩ rfl Tryz.isAgg97 (h.dep n 2 18 (by kernel_rfl) rfl) (((h.inv.2.2.below hg5 hwr).cell hgr).trans (hTr.2.2 i hi))⟩⟩
        · exact .inl ⟨by kernel_rfl, fun L a1 w1 n h => ⟨_, rfl, run_move (.tmp 7) rfl (h.var n 7 (by kernel_rfl))⟩⟩
        · refine .inl ⟨by kernel_rfl, fun L a1 w1 n h => ⟨.int .u32 ((rootsL.getD i 0 + y) % 4294967296), rfl, ?_⟩⟩
          have e0 : a1.eval (.tmp 19) = _ := h.dep n 3 19 (by kernel_rfl) rfl
          have e1 : a1.eval (.tmp 20) = _ := h.dep n 4 20 (by kernel_rfl) rfl
          unfold execOp
          simp only [e0, e1]
          go_simp
          simp only [IntKind.wrap_u32]
        · refine .inr fun L a1 w1 n h K hK => ?_
          have e0 : a1.eval (.tmp 16) = .agg (vk .u32 cur).toArray := h.dep n 0 16 (by kernel_rfl) rfl
          have e1 : a1.eval (.tmp 21) = .int .u32 ((rootsL.getD i 0 + y) % 4294967296) := h.dep n 5 21 (by kernel_rfl) rfl
          refine st_call 88 _ _ #[.agg (vk .u32 cur).toArray, .int .u32 ((rootsL.getD i 0 + y) % 4294967296)] rfl Tryz.call88 ?_ (round_s cur _ w1 hcl hcw (mod_w32 _)) ?_
          · simp only [List.map_toArray, List.map_cons, List.map_nil, e0, e1]
          · rintro e w3 ⟨he, b9⟩
            exact ⟨_, he, hK _ w3 (by rw [hnew]; rfl) (JB.callX h.inv b9 rfl)⟩
        · refine .inr fun L a1 w1 n h K hK => ?_
          have no : L.getD 7 false = false := n.not_yet
          refine st_store_row 153 (.tmp 5) (.tmp 22) g5 153 (vk .u32 cur) (vk .u32 new) rfl (h.var n 5 (by kernel_rfl)) (h.dep n 6 22 (by kernel_rfl) rfl) (h.inv.1 no) (size8 hnl) (by rw [vk_len, vk_len, hcl, hnl]) (vk_one' _ _) ?_
          intro w3 r3 o3
          exact hK undef w3 trivial (JB.store h.inv o3 r3 rfl)
      case he =>
        intro V w7 hV hJ
        have r7 := hJ.2.1 rfl
        have bu := hJ.2.2
        clear hV hJ hcl hnl hnew
        simp only [putOps, List.setIfInBounds_toArray, List.set_cons_succ, List.set_cons_zero]
        refine hK1 _ _ ?_
        go_wp2
        go_roundw
        case rel => exact ⟨i + 1, by omega, by go_num, by rw [Hn2.out]; exact r7, r2.but bu h25, r4.but bu h45, br.trans (bu.below q5 br.size)⟩
        case measure => simp [intOf]; omega
    · have hk64 : i = 64 := by omega
      have HFin := HF.out i hk64
      have hfl2 := stN_len Hsl.out W i
      have hnl : decide ((i : Int) < 64) = false := by simp; omega
      have Hfl := hide hfl2
      have HFin' := hide HFin
      clear hk64 HFin hfl2 HF hk
      generalize stN st W i = fin at *
      have hzl := adZ_len Hsl.out Hfl.out
      have HZ := hide hzl
      clear hzl
      go_wp2_with fail
      go_loopw [24] (fun iv wq => ∃ k : Nat, k ≤ 8 ∧ iv = .int .i64 k ∧ Row wq 153 g2 (vk .u32 (mixL (adZ st fin) st k)) ∧ Row wq 153 g5 (vk .u32 fin) ∧ Row wq 153 g4 (vk .u32 (List.replicate 8 0)) ∧ Below w.heap.size w wq) (fun iv _ => 8 - (intOf iv).toNat)
      case atStart => exact ⟨0, Nat.zero_le _, rfl, r2, r5, r4, br⟩
      case round =>
        clear r2 r5 r4 br
        obtain ⟨i, hk, rfl, r2, r5, r4, br⟩ := hrel
        by_cases hi : i < 8
        · have hcl := mixL_len HZ.out Hsl.out (k := i) (by omega)
          have hset := mixL_set HZ.out Hsl.out hi
          have hget := mixL_get HZ.out Hsl.out hi
          rw [adZ_get Hsl.out Hfl.out hi, ← hget] at hset
          have Hcl := hide hcl
          have Hset := hide hset
          clear hcl hset hget
          generalize hn : mixL (adZ st fin) st (i + 1) = new at *
          generalize mixL (adZ st fin) st i = cur at *
          have Hn := hide hn
          clear hn
          go_wp2_with fail
          rename_i Q1 K1 hK1
          have hcl := Hcl.out
          have hset := Hset.out
          have hfl := Hfl.out
          have hg52 := h25.symm
          refine wp_region_vals [8] (SBe10 cur fin g2 g5 i) (JB g2 153 wr 0 (vk .u32 cur) (vk .u32 new)) (by kernel_rfl) (by kernel_rfl) (by kernel_rfl) (by kernel_rfl) (by kernel_rfl) (JB.start r2 rfl) ?obs ?he
          case obs =>
            refine ⟨?_, ?_, ?_, ?_, ?_, ?_, ?_, ?_, ?_, trivial⟩
            · exact .inl ⟨by kernel_rfl, fun L a1 w1 n h => ⟨_, rfl, run_move (.tmp 8) rfl (h.var n 8 (by kernel_rfl))⟩⟩
            · exact .inl ⟨by kernel_rfl, fun L a1 w1 n h => ⟨_, rfl, run_index0 153 (.tmp 2) (.tmp 27) 8 97 g2 i rfl Tryz.underlying153 Tryz.sizeOf97 (h.var n 2 (by kernel_rfl)) (h.dep n 0 27 (by kernel_rfl) rfl) hi⟩⟩
            · exact .inl ⟨by kernel_rfl, fun L a1 w1 n h => ⟨_, rfl, run_loadA 97 (.tmp 28) ⟨g2, i, none⟩ rfl Tryz.isAgg97 (h.dep n 1 28 (by kernel_rfl) rfl) ((h.inv.1 (n.later (by kernel_rfl))).cell (vk_get (kd := .u32) (xs := cur) (j := i) (by omega)))⟩⟩
            · exact .inl ⟨by kernel_rfl, fun L a1 w1 n h => ⟨_, rfl, run_move (.tmp 8) rfl (h.var n 8 (by kernel_rfl))⟩⟩
            · exact .inl ⟨by kernel_rfl, fun L a1 w1 n h => ⟨_, rfl, run_index0 153 (.tmp 5) (.tmp 30) 8 97 g5 i rfl Tryz.underlying153 Tryz.sizeOf97 (h.var n 5 (by kernel_rfl)) (h.dep n 3 30 (by kernel_rfl) rfl) hi⟩⟩
            · exact .inl ⟨by kernel_rfl, fun L a1 w1 n h => ⟨_, rfl, run_loadA 97 (.tmp 31) ⟨g5, i, none⟩ rfl Tryz.isAgg97 (h.dep n 4 31 (by kernel_rfl) rfl) ((r5.but h.inv.2.2 hg52).cell (vk_get (kd := .u32) (xs := fin) (j := i) (by omega)))⟩⟩
            · refine .inl ⟨by kernel_rfl, fun L a1 w1 n h => ⟨.int .u32 ((cur.getD i 0 + fin.getD i 0) % 4294967296), rfl, ?_⟩⟩
              have e0 : a1.eval (.tmp 29) = _ := h.dep n 2 29 (by kernel_rfl) rfl
              have e1 : a1.eval (.tmp 32) = _ := h.dep n 5 32 (by kernel_rfl) rfl
              unfold execOp
              simp only [e0, e1]
              go_simp
              simp only [IntKind.wrap_u32]
            · exact .inl ⟨by kernel_rfl, fun L a1 w1 n h => ⟨_, rfl, run_index0 153 (.tmp 2) (.tmp 27) 8 97 g2 i rfl Tryz.underlying153 Tryz.sizeOf97 (h.var n 2 (by kernel_rfl)) (h.dep n 0 27 (by kernel_rfl) rfl) hi⟩⟩
            · refine .inr fun L a1 w1 n h K hK => ?_
              have no : L.getD 8 false = false := n.not_yet
              have e1 : a1.eval (.tmp 34) = _ := h.dep n 7 34 (by kernel_rfl) rfl
              have e2 : a1.eval (.tmp 33) = _ := h.dep n 6 33 (by kernel_rfl) rfl
              refine st_store 97 (.tmp 34) (.tmp 33) g2 i 153 (vk .u32 cur) _ rfl (by kernel_rfl) e1 e2 (h.inv.1 no) (by rw [vk_len]; omega) rfl ?_
              intro w3 r3 o3
              rw [vk_set, hset] at r3
              exact hK undef w3 trivial (JB.store h.inv o3 r3 rfl)
          case he =>
            intro V w7 hV hJ
            have r7 := hJ.2.1 rfl
            have bu := hJ.2.2
            clear hV hJ hcl hset hfl
            simp only [putOps, List.setIfInBounds_toArray, List.set_cons_succ, List.set_cons_zero]
            refine hK1 _ _ ?_
            go_wp2
            go_roundw
            case rel => exact ⟨i + 1, by omega, by go_num, by rw [Hn.out]; exact r7, r5.but bu hg52, r4.but bu h24.symm, br.trans (bu.below q2 br.size)⟩
            case measure => simp [intOf]; omega
        · have h8 : i = 8 := by omega
          subst h8
          have hm : mixL (adZ st fin) st 8 = FS := by
            unfold mixL
            rw [List.take_of_length_le (by rw [HZ.out]; exact Nat.le_refl _), List.drop_of_length_le (by rw [Hsl.out]; exact Nat.le_refl _), List.append_nil, HFin'.out]
          rw [hm] at r2
          clear hm
          go_wp2_with (first
            | (with_reducible refine wl_load_row rfl 153 (.tmp 2) g2 153 (vk .u32 FS) _ rfl rfl r2 Tryz.underlying153 rfl zf.out ?_)
            | (with_reducible refine wl_store_row rfl 153 (.tmp 4) (.tmp 36) g4 153 _ (vk .u32 FS) rfl rfl rfl r4 zf.out lf.out (vk_one' _ _) ?_; intro w8 r8 o8))
          refine bodyPost_ret (v := .agg (vk .u32 FS).toArray) ?_ rfl ⟨rfl, ?_⟩
          · exact results_cell_row Tryz.results83 _ _ g4 153 _ (0, 0) _ rfl r8 Tryz.underlying153 rfl zf.out
          · exact br.trans (o8.below q4)
end Go.Proofs.YtooooncmjhcdbaaGreatDoor.Sm

/-
  SHA-256: a Hash in memory; New, Len, the state's bytes, what comes behind a text: contracts. Own work.
-/
namespace Go.Proofs.YtooooncmjhcdbaaGreatDoor.Sm
open Go.Proofs.YtooooncmjhcdbaaGreatDoor
open Go.RowKit
theorem isByRepS (n : Nat) : IsBy (List.replicate n 0) := fun x hx => by obtain ⟨_, rfl⟩ := List.mem_replicate.1 hx; decide
/-- The state behind the first k blocks of a text. -/
def stK (xs : List Int) : Nat → List Int
  | 0 => startL
  | k + 1 => blkS (stK xs k) ((xs.drop (64 * k)).take 64)
theorem stK_len (xs : List Int) (k : Nat) : (stK xs k).length = 8 := by
  induction k with
  | zero => rfl
  | succ k ih => exact blkS_len ih _
theorem stK_w (xs : List Int) (k : Nat) : IsW (stK xs k) := by
  cases k with
  | zero => exact startW
  | succ k => exact blkS_w _ _
theorem stK_app {xs : List Int} (ys : List Int) {k : Nat} (h : 64 * k ≤ xs.length) : stK (xs ++ ys) k = stK xs k := by
  induction k with
  | zero => rfl
  | succ k ih =>
    unfold stK
    rw [ih (by omega), List.drop_append_of_le_length (by omega), List.take_append_of_le_length (by rw [List.length_drop]; omega)]
/-- A Hash in cells. -/
def hashL (st held : List Int) (n : Nat) : List Value := .bool true :: (vk .u32 st ++ (bv held ++ [.int .i64 (n : Int)]))
theorem hashL_len {st held : List Int} {n : Nat} (h1 : st.length = 8) (h2 : held.length = 64) : (hashL st held n).length = 74 := by simp [hashL, vk_len, bv_len, h1, h2]
theorem hash0 (st held : List Int) (n : Nat) : (hashL st held n)[0]? = some (.bool true) := rfl
theorem hash73 {st held : List Int} {n : Nat} (h1 : st.length = 8) (h2 : held.length = 64) : (hashL st held n)[73]? = some (.int .i64 (n : Int)) := by
  unfold hashL
  rw [List.getElem?_cons_succ, List.getElem?_append_right (by rw [vk_len]; omega), vk_len, h1, List.getElem?_append_right (by rw [bv_len]; omega), bv_len, h2]
  rfl
theorem hash_set {st held : List Int} {n : Nat} (m : Nat) (h1 : st.length = 8) (h2 : held.length = 64) : (hashL st held n).set 73 (.int .i64 (m : Int)) = hashL st held m := by
  unfold hashL
  rw [List.set_cons_succ, List.set_append_right _ _ (by rw [vk_len]; omega), vk_len, h1, List.set_append_right _ _ (by rw [bv_len]; omega), bv_len, h2]
  rfl
theorem hashSt {w : World} {T g n : Nat} {st held : List Int} (r : Row w T g (hashL st held n)) : Row w T g ([.bool true] ++ (vk .u32 st ++ (bv held ++ [.int .i64 (n : Int)]))) := r
theorem hashHe {w : World} {T g n : Nat} {st held : List Int} (r : Row w T g (hashL st held n)) : Row w T g ((.bool true :: vk .u32 st) ++ (bv held ++ [.int .i64 (n : Int)])) := r
theorem hashHe_len {st : List Int} (h1 : st.length = 8) : (Value.bool true :: vk .u32 st).length = 9 := by rw [List.length_cons, vk_len, h1]
theorem hash_fill {st held ys : List Int} {n r k : Nat} (h1 : st.length = 8) (h2 : held.length = 64) (hk : ys.length = k) (hr : r + k ≤ 64) :
    (hashL st held n).take (9 + r) ++ (bv ys ++ (hashL st held n).drop (9 + r + k)) = hashL st (held.take r ++ (ys ++ held.drop (r + k))) n := by
  have e : hashL st held n = (.bool true :: vk .u32 st) ++ (bv held ++ [.int .i64 (n : Int)]) := rfl
  have hl := hashHe_len h1
  rw [e, List.take_append, hl, List.take_of_length_le (by omega), show 9 + r - 9 = r by omega, List.take_append_of_le_length (by rw [bv_len]; omega), List.drop_append, hl, List.drop_of_length_le (by omega), show 9 + r + k - 9 = r + k by omega, List.drop_append_of_le_length (by rw [bv_len]; omega)]
  simp [hashL, bv, List.map_take, List.map_drop]
/-- The Hash in block g has taken in the text xs. -/
def HashAt (w : World) (g : Nat) (xs : List Int) : Prop :=
  ∃ held, held.length = 64 ∧ IsBy held ∧ held.take (xs.length % 64) = xs.drop (64 * (xs.length / 64)) ∧ Row w 155 g (hashL (stK xs (xs.length / 64)) held xs.length)
theorem HashAt.later {w w' : World} {g : Nat} {xs : List Int} (h : HashAt w g xs) (hb : Below w.heap.size w w') : HashAt w' g xs := by
  obtain ⟨held, h1, h2, h3, h4⟩ := h
  exact ⟨held, h1, h2, h3, h4.later hb⟩
theorem HashAt.lt {w : World} {g : Nat} {xs : List Int} (h : HashAt w g xs) : g < w.heap.size := by
  obtain ⟨held, h1, h2, h3, h4⟩ := h
  exact h4.lt

theorem size8s : (Tryz.prog.info? 153).map (·.size) = some (vk .u32 startL).length := by kernel_rfl
theorem builtHash : Tryz.prog.built 155 [(0, .bool true), (1, .agg (vk .u32 startL).toArray)] = some (hashL startL (List.replicate 64 0) 0).toArray := by kernel_rfl
theorem zero64b : (Tryz.prog.info? 98).map (fun i => i.zero) = some (some (.agg (bv (List.replicate 64 0)).toArray)) := by kernel_rfl
set_option maxRecDepth 100000 in
set_option maxHeartbeats 1000000 in
theorem hnew_any (w : World) (hT : Tabs w) : Calls Tryz.prog 75 #[] w fun e w' => ∃ g, e = .returned (.pointer (some ⟨g, 0, none⟩)) ∧ w.heap.size ≤ g ∧ HashAt w' g [] ∧ Below w.heap.size w w' := by
  have hcl : ∀ j v, (vk .u32 startL)[j]? = some v → w.cell? ⟨3, 0 + j, none⟩ = some v := by
    intro j v hv
    have hj : j < 8 := by have := (List.getElem?_eq_some_iff.1 hv).1; rw [vk_len] at this; exact this
    have := hT.2.1 j hj
    rw [vk_get (by exact hj)] at hv
    rw [Nat.zero_add, this]
    exact hv
  have z8 := size8s
  have bh := builtHash
  have hfin : ∀ w' g, Row w' 155 g (hashL startL (List.replicate 64 0) 0) → HashAt w' g [] := fun w' g h => ⟨List.replicate 64 0, by simp, isByRepS _, rfl, h⟩
  generalize startL = st at *
  generalize hashL st (List.replicate 64 0) 0 = hl at *
  go_enter Tryz.func75, Tryz.ntmps75
  go_wp2_with (first
    | (with_reducible refine wl_load_cells rfl 153 (.global 3) _ 0 (vk .u32 st) _ rfl rfl hcl Tryz.underlying153 rfl z8 ?_)
    | ((with_reducible refine wl_build rfl 155 [(0, .const (.bool true)), (1, .tmp 1)] rfl _ ?hv _ bh ?hk); case hv => rfl)
    | (with_reducible refine wl_box rfl 155 (.tmp 2) _ hl rfl rfl rfl ?_; intro g3 w3 r3 a3 l3 b3))
  go_ret
  exact ⟨g3, rfl, a3, hfin _ _ r3, b3⟩
/-- The bytes of the first k numbers of a state. -/
def byK (s : List Int) : Nat → List Int
  | 0 => []
  | k + 1 => byK s k ++ highB (s.getD k 0) 4
theorem byK_len (s : List Int) (k : Nat) : (byK s k).length = 4 * k := by
  induction k with
  | zero => rfl
  | succ k ih => unfold byK; rw [List.length_append, ih, highB_length]; omega
/-- The bytes of a state. -/
def byS (s : List Int) : List Int := byK s 8
theorem byS_len (s : List Int) : (byS s).length = 32 := byK_len s 8
theorem size32b {xs : List Int} (h : xs.length = 32) : (Tryz.prog.info? 42).map (·.size) = some (bv xs).length := by rw [bv_len, h]; kernel_rfl
theorem zero32b : (Tryz.prog.info? 42).map (fun i => i.zero) = some (some (.agg (bv (List.replicate 32 0)).toArray)) := by kernel_rfl
set_option maxRecDepth 100000 in
set_option maxHeartbeats 2000000 in
theorem bytes_any (s : List Int) (w : World) (hl : s.length = 8) (hw : IsW s) : Calls Tryz.prog 85 #[.agg (vk .u32 s).toArray] w fun e w' => e = .returned (.agg (bv (byS s)).toArray) ∧ Below w.heap.size w w' := by
  have HF := hide (show ∀ k, k = 8 → byK s k = byS s from fun k h => by rw [h]; rfl)
  have z8 := hide (size8 hl)
  have hbl := byS_len s
  have zf := hide (size32b hbl)
  have lf := hide (show (bv (List.replicate 32 0)).length = (bv (byS s)).length by rw [bv_len, bv_len, hbl, List.length_replicate])
  have Hl := hide hl
  have Hbl := hide hbl
  clear hl hbl
  generalize byS s = FS at *
  go_enter Tryz.func85, Tryz.ntmps85
  go_wp2_with (first
    | (with_reducible refine wl_box rfl 153 (.tmp 0) _ (vk .u32 s) rfl rfl rfl ?_; intro g1 w1 r1 p1 l1 b1)
    | (with_reducible refine wl_alloc rfl 42 _ (bv (List.replicate 32 0)) rfl zero32b rfl ?_; intro g2 w2 r2 p2 l2 b2; have r1' := r1.later b2)
    | (with_reducible refine wl_load_row rfl 153 (.tmp 1) g1 153 (vk .u32 s) _ rfl rfl r1' Tryz.underlying153 rfl z8.out ?_))
  have B2 := b1.trans (b2.mono b1.size)
  have q2 : w.heap.size ≤ g2 := Nat.le_trans b1.size p2
  clear r1 r1' b1 b2
  go_loopw [7, 3] (fun iv ov wr => ∃ (k n c : Nat) (A : Option Addr), k ≤ 8 ∧ iv = .int .i64 k ∧ ov = .slice A n c ∧ Bs wr wr.heap.size A n (byK s k) ∧ Row wr 42 g2 (bv (List.replicate 32 0)) ∧ n ≤ c ∧ Below w.heap.size w wr) (fun iv _ _ => 8 - (intOf iv).toNat)
  case atStart => exact ⟨0, 0, 0, none, Nat.zero_le _, rfl, rfl, Bs.nil_, r2, Nat.le_refl _, B2⟩
  case round =>
    clear r2
    obtain ⟨i, n, c, A, hk, rfl, rfl, hb, r2, hnc, br⟩ := hrel
    have hn4 : n = 4 * i := by rw [← hb.1, byK_len]
    have Hn4 := hide hn4
    clear hn4
    by_cases hi : i < 8
    · have hidx : (vk .u32 s)[i]? = some (.int .u32 (s.getD i 0)) := vk_get (by rw [Hl.out]; exact hi)
      have hy := hw.getD i
      have hIx : ∀ w, (Instr.index 153 (.agg (vk .u32 s).toArray) (.int .i64 (i : Int))).run Tryz.prog w = .ok (.int .u32 (s.getD i 0)) w := fun w => run_indexV w 153 97 8 (vk .u32 s).toArray i _ Tryz.underlying153 Tryz.isAgg97 Tryz.sizeOf97 hi (by simpa using hidx)
      have hP := hide (put32_any A n c (byK s i) (s.getD i 0) wr hb (by have := Hn4.out; omega) hy.1 hy.2)
      have hsucc : byK s i ++ highB (s.getD i 0) 4 = byK s (i + 1) := rfl
      rw [hsucc] at hP
      clear hidx hsucc hb hy
      generalize s.getD i 0 = y at *
      go_wp2_with (first | rw [hIx])
      refine hP.out.mono ?_
      rintro e w5 ⟨A5, n5, c5, rfl, hb5, hc5, _, b5⟩
      go_wp2_with fail
      go_roundw
      case rel => exact ⟨i + 1, n5, c5, A5, by omega, by go_num, rfl, hb5, r2.later b5, hc5, br.trans (b5.mono br.size)⟩
      case measure => simp [intOf]; omega
    · have h8 : i = 8 := by omega
      rw [HF.out i h8] at hb
      have hn : n = 32 := by rw [← hb.1, Hbl.out]
      subst hn
      obtain ⟨b, o, rfl, lb, hc⟩ := hb.2 (by decide)
      have hcl : ∀ j v, (bv FS)[j]? = some v → wr.cell? ⟨b, o + j, none⟩ = some v := by
        intro j v hv
        have hj : j < 32 := by have := (List.getElem?_eq_some_iff.1 hv).1; rw [bv_len, Hbl.out] at this; exact this
        rw [hc j hj]
        rw [show bv FS = vk .u8 FS from rfl, vk_get (by rw [Hbl.out]; exact hj)] at hv
        exact hv
      have hA : ∀ (w : World), (Instr.arrayAt 42 (.slice (some ⟨b, o, none⟩) 32 c)).run Tryz.prog w = .ok (.pointer (some ⟨b, o, none⟩)) w := fun w => by simp [Instr.arrayAt, run_underlying Tryz.underlying42]
      have hnl : decide ((i : Int) < 8) = false := by simp; omega
      clear hb hc h8 HF hk hi
      go_wp2_with (first
        | rw [hA]
        | (with_reducible refine wl_load_cells rfl 42 (.tmp 15) b o (bv FS) _ rfl rfl hcl Tryz.underlying42 rfl zf.out ?_)
        | (with_reducible refine wl_store_row rfl 42 (.tmp 2) (.tmp 16) g2 42 _ (bv FS) rfl rfl rfl r2 zf.out lf.out (bv_one _) ?_; intro w8 r8 o8))
      refine bodyPost_ret (v := .agg (bv FS).toArray) ?_ rfl ⟨rfl, ?_⟩
      · exact results_cell_row Tryz.results85 _ _ g2 42 _ (0, 0) _ rfl r8 Tryz.underlying42 rfl zf.out
      · exact br.trans (o8.below q2)
end Go.Proofs.YtooooncmjhcdbaaGreatDoor.Sm

/-
  SHA-256: bytes are taken in: contract. Own work.
-/
namespace Go.Proofs.YtooooncmjhcdbaaGreatDoor.Sm
open Go.Proofs.YtooooncmjhcdbaaGreatDoor
open Go.RowKit
/-- 'x[lo:]' of an array in the middle of a block. -/
theorem run_sliceLoB {P : Program} {o : Oper} {a : Act} {w : World} (t : TypeId) (x y : Operand) (n e : Nat) (g b l : Nat) (ho : o.op = .slice t x (some y) none none) (hu : P.underlying t = some (.array n e)) (hs : ∀ w, (sizeOf e).run P w = .ok 1 w)
    (hx : a.eval x = .pointer (some ⟨g, b, none⟩)) (hy : a.eval y = .int .i64 l) (hl : l < n) : (execOp a.eval o).run P w = .ok (.value (.slice (some ⟨g, b + l, none⟩) (n - l) (n - l))) w := by
  have h1 : (0 : Int) ≤ l := by omega
  have h2 : (l : Int) ≤ n := by omega
  have h3 : n ≠ l := by omega
  have hadd : (⟨g, b, none⟩ : Addr).add l = ⟨g, b + l, none⟩ := by unfold Addr.add; split <;> simp_all
  unfold execOp
  simp only [ho, hx, hy, Option.map_some, Option.map_none]
  simp [Instr.sliceAt, underlying, hu, Instr.sureAddr, Instr.sliceBounds, Instr.sliceBound, asIntOf, hs, h1, h2, h3, hadd, show l ≤ n by omega]
/-- What is held, behind a copy. -/
def heldN (held ys : List Int) (r k : Nat) : List Int := held.take r ++ (ys.take k ++ held.drop (r + k))
theorem heldN_len {held ys : List Int} {r k : Nat} (h : held.length = 64) (hk : k ≤ ys.length) (hr : r + k ≤ 64) : (heldN held ys r k).length = 64 := by
  unfold heldN
  simp only [List.length_append, List.length_take, List.length_drop]
  omega
theorem heldN_by {held ys : List Int} {r k : Nat} (h : IsBy held) (hy : IsBy ys) : IsBy (heldN held ys r k) := (h.take _).app ((hy.take _).app (h.drop _))
theorem heldN_take {held ys : List Int} {r k : Nat} (h : held.length = 64) (hk : k ≤ ys.length) (hr : r + k ≤ 64) : (heldN held ys r k).take (r + k) = held.take r ++ ys.take k := by
  unfold heldN
  rw [← List.append_assoc, List.take_append_of_le_length (by simp only [List.length_append, List.length_take]; omega), List.take_of_length_le (by simp only [List.length_append, List.length_take]; omega)]
theorem stK_succ (xs : List Int) (k : Nat) : stK xs (k + 1) = blkS (stK xs k) ((xs.drop (64 * k)).take 64) := rfl
/-- Where a piece does not make a block whole. -/
theorem hash_part {xs held ys : List Int} {k : Nat} (hh : held.length = 64) (hb : held.take (xs.length % 64) = xs.drop (64 * (xs.length / 64))) (hk : k ≤ ys.length) (hr : xs.length % 64 + k < 64) :
    stK xs (xs.length / 64) = stK (xs ++ ys.take k) ((xs ++ ys.take k).length / 64) ∧ (heldN held ys (xs.length % 64) k).take ((xs ++ ys.take k).length % 64) = (xs ++ ys.take k).drop (64 * ((xs ++ ys.take k).length / 64)) ∧ xs.length + k = (xs ++ ys.take k).length := by
  have hl : (xs ++ ys.take k).length = xs.length + k := by rw [List.length_append, List.length_take]; omega
  have hq : (xs.length + k) / 64 = xs.length / 64 := by omega
  have hm : (xs.length + k) % 64 = xs.length % 64 + k := by omega
  refine ⟨?_, ?_, hl.symm⟩
  · rw [hl, hq, stK_app _ (by omega)]
  · rw [hl, hq, hm, heldN_take hh hk (by omega), hb, List.drop_append_of_le_length (by omega)]
/-- Where it does. -/
theorem hash_full {xs held ys : List Int} {k : Nat} (hh : held.length = 64) (hb : held.take (xs.length % 64) = xs.drop (64 * (xs.length / 64))) (hk : k ≤ ys.length) (hr : xs.length % 64 + k = 64) :
    blkS (stK xs (xs.length / 64)) (heldN held ys (xs.length % 64) k) = stK (xs ++ ys.take k) ((xs ++ ys.take k).length / 64) ∧ (heldN held ys (xs.length % 64) k).take ((xs ++ ys.take k).length % 64) = (xs ++ ys.take k).drop (64 * ((xs ++ ys.take k).length / 64)) ∧ xs.length + k = (xs ++ ys.take k).length := by
  have hl : (xs ++ ys.take k).length = xs.length + k := by rw [List.length_append, List.length_take]; omega
  have hq : (xs.length + k) / 64 = xs.length / 64 + 1 := by omega
  have hm : (xs.length + k) % 64 = 0 := by omega
  have ht := heldN_take hh hk (Nat.le_of_eq hr)
  rw [hr, List.take_of_length_le (by rw [heldN_len hh hk (Nat.le_of_eq hr)]; exact Nat.le_refl _), hb, ← List.drop_append_of_le_length (by omega)] at ht
  refine ⟨?_, ?_, hl.symm⟩
  · rw [hl, hq]
    rw [stK_succ, stK_app _ (by omega)]
    congr 1
    rw [ht]
    exact (List.take_of_length_le (by rw [List.length_drop, hl]; omega)).symm
  · rw [hl, hq, hm, List.take_zero, List.drop_of_length_le (by rw [hl]; omega)]
def SWr2 (g n m c k : Nat) (A : Option Addr) (opn : Nat) (v : Value) : Prop :=
  match opn with
  | 0 | 1 | 3 | 4 => v = .pointer (some ⟨g, 0, none⟩)
  | 2 => v = .pointer (some ⟨g, 9, none⟩)
  | 5 => v = .pointer (some ⟨g, 73, none⟩)
  | 6 => v = .int .i64 (n : Int)
  | 7 => v = .int .i64 ((n % 64 : Nat) : Int)
  | 8 => v = .slice (some ⟨g, 9 + n % 64, none⟩) (64 - n % 64) (64 - n % 64)
  | 9 => v = .slice A m c
  | 10 | 11 => v = .int .i64 (k : Int)
  | _ => True

def SWr6 (st hd : List Int) (g : Nat) (opn : Nat) (v : Value) : Prop :=
  match opn with
  | 0 | 1 | 2 | 5 | 6 | 10 => v = .pointer (some ⟨g, 0, none⟩)
  | 3 | 11 => v = .pointer (some ⟨g, 1, none⟩)
  | 4 => v = .agg (vk .u32 st).toArray
  | 7 => v = .pointer (some ⟨g, 9, none⟩)
  | 8 => v = .agg (bv hd).toArray
  | 9 => v = .agg (vk .u32 (blkS st hd)).toArray
  | _ => True

set_option maxRecDepth 100000 in
set_option maxHeartbeats 2000000 in
theorem write_any (xs zs : List Int) (g m0 c0 : Nat) (A0 : Option Addr) (w : World) (hT : Tabs w) (hg : (4 + 1) ≤ g) (hh : HashAt w g xs) (hxb : IsBy xs) (hzb : IsBy zs) (hb : Bs w w.heap.size A0 m0 zs) (ho : Off g m0 A0) (hc : m0 ≤ c0) (hM : xs.length + zs.length ≤ 9223372036854775807) :
    Calls Tryz.prog 76 #[.pointer (some ⟨g, 0, none⟩), .slice A0 m0 c0] w fun e w' => e = .returned (.tuple #[]) ∧ HashAt w' g (xs ++ zs) ∧ But g w w' := by
  obtain ⟨held, h1, h2, h3, h4⟩ := hh
  have cc0 := h4.cell (hash0 _ _ _)
  have hgw := h4.lt
  have hinit : HashAt w g xs := ⟨held, h1, h2, h3, h4⟩
  clear h1 h2 h3 h4
  go_enter Tryz.func76, Tryz.ntmps76
  go_wp2_with fail
  clear cc0
  go_loopw [1] (fun bv wr => ∃ (done ys : List Int) (m c : Nat) (A : Option Addr), zs = done ++ ys ∧ bv = .slice A m c ∧ Bs wr wr.heap.size A m ys ∧ Off g m A ∧ m ≤ c ∧ HashAt wr g (xs ++ done) ∧ But g w wr) (fun bv _ => (match bv with | .slice _ n _ => n | _ => 0))
  case atStart => exact ⟨[], zs, m0, c0, A0, rfl, rfl, hb, ho, hc, by rw [List.append_nil]; exact hinit, But.refl _ _⟩
  case round =>
    clear hb ho hc hinit
    obtain ⟨done, ys, m, c, A, hys, rfl, hx, ho, hc, hash, bu⟩ := hrel
    have hTw := hT.below (bu.below hg hT.1) (Nat.le_refl _)
    obtain ⟨held, h1, h2, h3, h4⟩ := hash
    by_cases hm : 0 < m
    · have hxl := hx.1
      have hyb : IsBy ys := fun x hx => hzb x (by rw [hys]; exact List.mem_append_right _ hx)
      have hlen : (xs ++ done).length + ys.length ≤ 9223372036854775807 := by rw [hys] at hM; simp only [List.length_append] at hM ⊢; omega
      have hsl := stK_len (xs ++ done) ((xs ++ done).length / 64)
      have hsw := stK_w (xs ++ done) ((xs ++ done).length / 64)
      obtain ⟨k, hk⟩ : ∃ k, k = min m (64 - (xs ++ done).length % 64) := ⟨_, rfl⟩
      have hk1 : k ≤ ys.length := by omega
      have hk2 : (xs ++ done).length % 64 + k ≤ 64 := by omega
      have hpos : 0 < k := by omega
      have hkm : k ≤ m := by omega
      have hPart := hash_part h1 h3 hk1
      have hFull := hash_full h1 h3 hk1
      have hfill := hash_fill (ys := ys.take k) (n := (xs ++ done).length) (r := (xs ++ done).length % 64) (k := k) hsl h1 (by rw [List.length_take]; omega) hk2
      have hhl := heldN_len h1 hk1 hk2
      have hhb := heldN_by (r := (xs ++ done).length % 64) (k := k) h2 hyb
      have hcl := hashL_len (n := (xs ++ done).length) hsl h1
      have c73 := hash73 (n := (xs ++ done).length) hsl h1
      have hpp : k < m ∨ k = m := by omega
      have HP := hide hPart
      have HFu := hide hFull
      have HK := hide hk
      have hnew : hashL (stK (xs ++ done) ((xs ++ done).length / 64)) (held.take ((xs ++ done).length % 64) ++ (ys.take k ++ held.drop ((xs ++ done).length % 64 + k))) (xs ++ done).length = hashL (stK (xs ++ done) ((xs ++ done).length / 64)) (heldN held ys ((xs ++ done).length % 64) k) (xs ++ done).length := rfl
      rw [hnew] at hfill
      clear hPart hFull hk hnew h3
      generalize heldN held ys ((xs ++ done).length % 64) k = hd at *
      generalize stK (xs ++ done) ((xs ++ done).length / 64) = st at *
      generalize hn0 : (xs ++ done).length = n at *
      have Hn0 := hide hn0
      clear hn0
      generalize hcur : hashL st held n = cur at *
      have Hcur := hide hcur
      clear hcur
      have Hfill := hide hfill
      have Hcl := hide hcl
      have Hhl := hide hhl
      have Hsl := hide hsl
      have Hxl := hide hxl
      have h64 : n % 64 + k ≤ 64 := hk2
      have Hys := hide hys
      clear hfill hcl hhl hsl hxl h1 hys
      go_wp2_with fail
      rename_i Q1 K1 hK1
      have hfill := Hfill.out
      have hfit : 9 + n % 64 + k ≤ cur.length := by rw [Hcl.out]; omega
      refine wp_region_vals [10] (SWr2 g n m c k A) (JB g 155 wr 0 cur (hashL st hd n)) (by kernel_rfl) (by kernel_rfl) (by kernel_rfl) (by kernel_rfl) (by kernel_rfl) (JB.start h4 rfl) ?obs ?he
      case obs =>
        refine ⟨?_, ?_, ?_, ?_, ?_, ?_, ?_, ?_, ?_, ?_, ?_, ?_, trivial⟩
        · exact .inl ⟨by kernel_rfl, fun L a1 w1 n' h => ⟨_, rfl, run_move (.tmp 0) rfl (h.var n' 0 (by kernel_rfl))⟩⟩
        · refine .inl ⟨by kernel_rfl, fun L a1 w1 n' h => ⟨.pointer (some ⟨g, 0, none⟩), rfl, ?_⟩⟩
          have e0 : a1.eval (.tmp 17) = _ := h.dep n' 0 17 (by kernel_rfl) rfl
          unfold execOp
          simp only [e0]
          go_simp
        · refine .inl ⟨by kernel_rfl, fun L a1 w1 n' h => ⟨.pointer (some ⟨g, 9, none⟩), rfl, ?_⟩⟩
          have e0 : a1.eval (.tmp 18) = _ := h.dep n' 1 18 (by kernel_rfl) rfl
          unfold execOp
          simp only [e0]
          go_simp
        · exact .inl ⟨by kernel_rfl, fun L a1 w1 n' h => ⟨_, rfl, run_move (.tmp 0) rfl (h.var n' 0 (by kernel_rfl))⟩⟩
        · refine .inl ⟨by kernel_rfl, fun L a1 w1 n' h => ⟨.pointer (some ⟨g, 0, none⟩), rfl, ?_⟩⟩
          have e0 : a1.eval (.tmp 20) = _ := h.dep n' 3 20 (by kernel_rfl) rfl
          unfold execOp
          simp only [e0]
          go_simp
        · refine .inl ⟨by kernel_rfl, fun L a1 w1 n' h => ⟨.pointer (some ⟨g, 73, none⟩), rfl, ?_⟩⟩
          have e0 : a1.eval (.tmp 21) = _ := h.dep n' 4 21 (by kernel_rfl) rfl
          unfold execOp
          simp only [e0]
          go_simp
        · exact .inl ⟨by kernel_rfl, fun L a1 w1 n' h => ⟨_, rfl, run_loadA 3 (.tmp 22) ⟨g, 73, none⟩ rfl Tryz.isAgg3 (h.dep n' 5 22 (by kernel_rfl) rfl) ((h.inv.1 (n'.later (by kernel_rfl))).cell c73)⟩⟩
        · refine .inl ⟨by kernel_rfl, fun L a1 w1 n' h => ⟨.int .i64 ((n % 64 : Nat) : Int), rfl, ?_⟩⟩
          have e0 : a1.eval (.tmp 23) = _ := h.dep n' 6 23 (by kernel_rfl) rfl
          unfold execOp
          simp only [e0]
          go_simp
          exact Int.tmod_eq_emod_of_nonneg (by omega)
        · exact .inl ⟨by kernel_rfl, fun L a1 w1 n' h => ⟨_, rfl, run_sliceLoB 98 (.tmp 19) (.tmp 24) 64 5 g 9 (n % 64) rfl Tryz.underlying98 Tryz.sizeOf5 (h.dep n' 2 19 (by kernel_rfl) rfl) (h.dep n' 7 24 (by kernel_rfl) rfl) (by omega)⟩⟩
        · exact .inl ⟨by kernel_rfl, fun L a1 w1 n' h => ⟨_, rfl, run_move (.tmp 1) rfl (h.var n' 1 (by kernel_rfl))⟩⟩
        · refine .inr fun L a1 w1 n' h K hK => ?_
          have no : L.getD 10 false = false := n'.not_yet
          refine st_copy_take (.tmp 25) (.tmp 26) _ _ rfl 5 Tryz.underlying25 u8_size g (9 + n % 64) (64 - n % 64) (64 - n % 64) m c 155 wr.heap.size A (h.dep n' 8 25 (by kernel_rfl) rfl) (h.dep n' 9 26 (by kernel_rfl) rfl) cur ys k (h.inv.1 no) (hx.keepOff h.inv.2.2 ho (Nat.le_refl _)) HK.out hpos hfit ?_
          intro w3 r3 o3
          rw [hfill] at r3
          exact hK _ w3 rfl (JB.store h.inv o3 r3 rfl)
        · exact .inl ⟨by kernel_rfl, fun L a1 w1 n' h => ⟨_, rfl, run_assign (.tmp 27) rfl (h.dep n' 10 27 (by kernel_rfl) rfl)⟩⟩
      case he =>
        intro V w5 hV hJ
        have r5 := hJ.2.1 rfl
        have bu5 := hJ.2.2
        have h10 : V 10 = .int .i64 (k : Int) := hV 10 27 rfl
        have h11 : V 11 = .int .i64 (k : Int) := hV 11 4 rfl
        clear hV hJ hfill hfit c73
        simp only [putOps, List.setIfInBounds_toArray, List.set_cons_succ, List.set_cons_zero]
        rw [h10, h11]
        refine hK1 _ _ ?_
        clear hK1 h10 h11
        have c73 := hash73 (n := n) Hsl.out Hhl.out
        have cell5 := r5.cell c73
        have hlt73 : 73 < (hashL st hd n).length := by rw [hashL_len Hsl.out Hhl.out]; decide
        have hset := hash_set (n := n) (n + k) Hsl.out Hhl.out
        have hnk : (n : Int) + (k : Int) = ((n + k : Nat) : Int) := by omega
        rw [← hnk] at hset
        have Hset := hide hset
        have hSF := fun w => run_sliceFrom (P := Tryz.prog) w 25 5 Tryz.underlying25 Tryz.sizeOf5 A m c .i64 k hkm
        have h73b := hash73 (n := n + k) Hsl.out Hhl.out
        rw [← hnk] at h73b
        have H73b := hide h73b
        have hadd : (n : Int) + (k : Int) ≤ 9223372036854775807 := by have := Hxl.out; omega
        clear hset h73b hnk c73
        go_wp2_with (first
          | (with_reducible refine wl_store rfl 3 (.tmp 35) (.tmp 33) g 73 155 _ (.int .i64 ((n : Int) + (k : Int))) rfl (by kernel_rfl) rfl rfl r5 hlt73 rfl ?_; intro w6 r6 o6; rw [Hset.out] at r6)
          | rw [hSF]
          | (with_reducible refine wl_load rfl 3 (.tmp 41) g 73 155 _ (.int .i64 ((n : Int) + (k : Int))) rfl Tryz.isAgg3 rfl r6 H73b.out ?_))
        · rename_i hK2 hz0
          have hz : ((n : Int) + (k : Int)) % 64 = 0 := by simpa using hz0
          clear hz0
          have hfull : n % 64 + k = 64 := by omega
          have hF := HFu.out hfull
          have hg6 : g ≤ w6.heap.size := Nat.le_of_lt r6.lt
          have b6 : But g w w6 := (bu.trans bu5).trans (But.only o6)
          have hT6 : Tabs w6 := hT.below (b6.below hg hT.1) (Nat.le_refl _)
          have hx6 : Bs w6 wr.heap.size A m ys := (hx.keepOff bu5 ho (Nat.le_refl _)).keepOff (But.only o6) ho bu5.size
          have HFF := hide hF
          clear hz hF hT hTw hx cell5 hlt73 hSF hfull
          have hsl := Hsl.out
          have hhl := Hhl.out
          refine wp_region_vals [9, 12] (SWr6 st hd g) (JB g 155 w6 1 (hashL st hd (n + k)) (hashL (blkS st hd) hd (n + k))) (by kernel_rfl) (by kernel_rfl) (by kernel_rfl) (by kernel_rfl) (by kernel_rfl) (JB.start r6 rfl) ?obs2 ?he2
          case obs2 =>
            refine ⟨?_, ?_, ?_, ?_, ?_, ?_, ?_, ?_, ?_, ?_, ?_, ?_, ?_, trivial⟩
            · exact .inl ⟨by kernel_rfl, fun L a1 w1 n' h => ⟨_, rfl, run_move (.tmp 0) rfl (h.var n' 0 (by kernel_rfl))⟩⟩
            · exact .inl ⟨by kernel_rfl, fun L a1 w1 n' h => ⟨_, rfl, run_move (.tmp 0) rfl (h.var n' 0 (by kernel_rfl))⟩⟩
            · refine .inl ⟨by kernel_rfl, fun L a1 w1 n' h => ⟨.pointer (some ⟨g, 0, none⟩), rfl, ?_⟩⟩
              have e0 : a1.eval (.tmp 46) = _ := h.dep n' 1 46 (by kernel_rfl) rfl
              unfold execOp
              simp only [e0]
              go_simp
            · refine .inl ⟨by kernel_rfl, fun L a1 w1 n' h => ⟨.pointer (some ⟨g, 1, none⟩), rfl, ?_⟩⟩
              have e0 : a1.eval (.tmp 47) = _ := h.dep n' 2 47 (by kernel_rfl) rfl
              unfold execOp
              simp only [e0]
              go_simp
            · exact .inl ⟨by kernel_rfl, fun L a1 w1 n' h => ⟨_, rfl, run_loadP 153 (.tmp 48) g 1 155 [.bool true] (vk .u32 st) _ _ rfl (h.dep n' 3 48 (by kernel_rfl) rfl) (hashSt (h.inv.1 (n'.later (by kernel_rfl)))) rfl Tryz.underlying153 rfl (size8 hsl)⟩⟩
            · exact .inl ⟨by kernel_rfl, fun L a1 w1 n' h => ⟨_, rfl, run_move (.tmp 0) rfl (h.var n' 0 (by kernel_rfl))⟩⟩
            · refine .inl ⟨by kernel_rfl, fun L a1 w1 n' h => ⟨.pointer (some ⟨g, 0, none⟩), rfl, ?_⟩⟩
              have e0 : a1.eval (.tmp 50) = _ := h.dep n' 5 50 (by kernel_rfl) rfl
              unfold execOp
              simp only [e0]
              go_simp
            · refine .inl ⟨by kernel_rfl, fun L a1 w1 n' h => ⟨.pointer (some ⟨g, 9, none⟩), rfl, ?_⟩⟩
              have e0 : a1.eval (.tmp 51) = _ := h.dep n' 6 51 (by kernel_rfl) rfl
              unfold execOp
              simp only [e0]
              go_simp
            · exact .inl ⟨by kernel_rfl, fun L a1 w1 n' h => ⟨_, rfl, run_loadP 98 (.tmp 52) g 9 155 (.bool true :: vk .u32 st) (bv hd) _ _ rfl (h.dep n' 7 52 (by kernel_rfl) rfl) (hashHe (h.inv.1 (n'.later (by kernel_rfl)))) (hashHe_len hsl) Tryz.underlying98 rfl (size64b hhl)⟩⟩
            · refine .inr fun L a1 w1 n' h K hK => ?_
              have e0 : a1.eval (.tmp 49) = .agg (vk .u32 st).toArray := h.dep n' 4 49 (by kernel_rfl) rfl
              have e1 : a1.eval (.tmp 53) = .agg (bv hd).toArray := h.dep n' 8 53 (by kernel_rfl) rfl
              refine st_call 83 _ _ #[.agg (vk .u32 st).toArray, .agg (bv hd).toArray] rfl Tryz.call83 ?_ (behind_any st hd w1 (hT6.below (h.inv.2.2.below (Nat.le_refl g) hg6) hg) hsl hsw hhl hhb) ?_
              · simp only [List.map_toArray, List.map_cons, List.map_nil, e0, e1]
              · rintro e w3 ⟨rfl, b9⟩
                exact ⟨_, rfl, hK _ w3 rfl (JB.callX h.inv b9 rfl)⟩
            · refine .inl ⟨by kernel_rfl, fun L a1 w1 n' h => ⟨.pointer (some ⟨g, 0, none⟩), rfl, ?_⟩⟩
              have e0 : a1.eval (.tmp 45) = _ := h.dep n' 0 45 (by kernel_rfl) rfl
              unfold execOp
              simp only [e0]
              go_simp
            · refine .inl ⟨by kernel_rfl, fun L a1 w1 n' h => ⟨.pointer (some ⟨g, 1, none⟩), rfl, ?_⟩⟩
              have e0 : a1.eval (.tmp 55) = _ := h.dep n' 10 55 (by kernel_rfl) rfl
              unfold execOp
              simp only [e0]
              go_simp
            · refine .inr fun L a1 w1 n' h K hK => ?_
              have no : L.getD 12 false = false := n'.not_yet
              refine st_store_part 153 (.tmp 56) (.tmp 54) g 1 155 [.bool true] (vk .u32 st) (bv hd ++ [.int .i64 ((n + k : Nat) : Int)]) (vk .u32 (blkS st hd)) rfl (h.dep n' 11 56 (by kernel_rfl) rfl) (h.dep n' 9 54 (by kernel_rfl) rfl) (hashSt (h.inv.1 no)) rfl (by rw [vk_len, vk_len, hsl, blkS_len hsl]) (size8 (blkS_len hsl _)) (vk_one' _ _) ?_
              intro w3 r3 o3
              exact hK undef w3 trivial (JB.store h.inv o3 r3 rfl)
          case he2 =>
            intro V w7 hV hJ
            have r7 := hJ.2.1 rfl
            have bu7 := hJ.2.2
            clear hV hJ
            simp only [putOps, List.setIfInBounds_toArray, List.set_cons_succ, List.set_cons_zero]
            go_wp2
            have r7' : Row w7 155 g (hashL (blkS st hd) hd (n + k)) := r7
            clear r7
            rw [HFF.out.1, HFF.out.2.2] at r7'
            have hxs : xs ++ (done ++ ys.take k) = xs ++ done ++ ys.take k := (List.append_assoc _ _ _).symm
            have hx7 := (hx6.keepOff bu7 ho (Nat.le_trans bu5.size (Nat.le_of_eq o6.size.symm))).sub (I := k) (K := m) hkm (Nat.le_refl _) hc
            rw [List.take_of_length_le (by rw [List.length_drop, Hxl.out]; exact Nat.le_refl _)] at hx7
            refine ⟨⟨done ++ ys.take k, ys.drop k, m - k, c - k, subA A c k, by rw [List.append_assoc, List.take_append_drop]; exact Hys.out, rfl, ?_, ho.sub c k, by omega, ?_, b6.trans bu7⟩, show m - k < m by omega⟩
            · exact hx7.up (Nat.le_trans (Nat.le_trans bu5.size (Nat.le_of_eq o6.size.symm)) bu7.size)
            · rw [hxs]
              exact ⟨hd, hhl, hhb, HFF.out.2.1, r7'⟩
        · rename_i hz0
          have hz : ¬ ((n : Int) + (k : Int)) % 64 = 0 := by simpa using hz0
          have hpart : n % 64 + k < 64 := by omega
          have hP := HP.out hpart
          have b6 : But g w w6 := (bu.trans bu5).trans (But.only o6)
          have hx6 := ((hx.keepOff bu5 ho (Nat.le_refl _)).keepOff (But.only o6) ho bu5.size).sub (I := k) (K := m) hkm (Nat.le_refl _) hc
          rw [List.take_of_length_le (by rw [List.length_drop, Hxl.out]; exact Nat.le_refl _)] at hx6
          have hxs : xs ++ (done ++ ys.take k) = xs ++ done ++ ys.take k := (List.append_assoc _ _ _).symm
          rw [hP.1, hP.2.2] at r6
          refine ⟨⟨done ++ ys.take k, ys.drop k, m - k, c - k, subA A c k, by rw [List.append_assoc, List.take_append_drop]; exact Hys.out, rfl, ?_, ho.sub c k, by omega, ?_, b6⟩, show m - k < m by omega⟩
          · exact hx6.up (Nat.le_trans bu5.size (Nat.le_of_eq o6.size.symm))
          · rw [hxs]
            exact ⟨hd, Hhl.out, hhb, hP.2.1, r6⟩
    · have hm0 : m = 0 := by omega
      subst hm0
      have hyn : ys = [] := List.eq_nil_of_length_eq_zero hx.1
      subst hyn
      rw [List.append_nil] at hys
      have hfin : HashAt wr g (xs ++ zs) := by rw [hys]; exact ⟨held, h1, h2, h3, h4⟩
      clear h1 h2 h3 h4 hys
      go_wp2_with fail
      go_end0
      exact ⟨rfl, hfin, bu⟩
end Go.Proofs.YtooooncmjhcdbaaGreatDoor.Sm

/-
  SHA-256: what comes behind a text; the sum of what was written; of a text: contracts. Own work.
-/
namespace Go.Proofs.YtooooncmjhcdbaaGreatDoor.Sm
open Go.Proofs.YtooooncmjhcdbaaGreatDoor
open Go.RowKit
/-- What a call hands back that lies in the next block. -/
def RetNew (out : List Int) (w : World) (e : Ending) (w' : World) : Prop :=
  ∃ n c, e = .returned (.slice (some ⟨w.heap.size, 0, none⟩) n c) ∧ Bs w' w'.heap.size (some ⟨w.heap.size, 0, none⟩) n out ∧ n ≤ c ∧ c ≤ maxLen ∧ Below w.heap.size w w'
theorem ret_new {w w1 : World} {t n c : Nat} {xs ys : List Int} (h : Own w1 t w.heap.size xs) (hb : Below w.heap.size w w1) (he : ys = xs) (hn : xs.length = n) (hc : n ≤ c) (hm : c ≤ maxLen) : RetNew ys w (.returned (.slice (some ⟨w.heap.size, 0, none⟩) n c)) w1 := by
  subst he
  subst hn
  exact ⟨_, c, rfl, h.bs h.lt, hc, hm, hb⟩
set_option maxHeartbeats 400000 in
set_option maxRecDepth 100000 in
theorem lay64h_new (A : Option Addr) (m c : Nat) (xs : List Int) (x : Int) (w : World) (h : Bs w w.heap.size A m xs) (hm : m ≤ 1000000) (h0 : 0 ≤ x) (h1 : x < 2 ^ 64) :
    Calls Tryz.prog 51 #[.slice A m c, .int .u64 x, .bool false] w (RetNew (xs ++ highB x 8) w) := by
  obtain ⟨i0, hi, hz, hsz, hby⟩ := u8_info
  go_enter Tryz.func51, Tryz.ntmps51
  go_wp2_with (first
    | (go_at_call 65; refine (width64_any _).mono ?_; rintro e w' ⟨rfl, rfl⟩)
    | (refine wpList_make_bs rfl _ _ _ rfl 5 i0 Tryz.underlying25 hi hz hsz hby (m + 8) rfl rfl (by omega) ?_; intro w1 hown hs1 hb1)
    | (refine wpList_copy_bs rfl (.tmp 17) (.tmp 18) _ _ rfl 5 Tryz.underlying25 u8_size w.heap.size 0 _ _ m c A rfl rfl _ xs 5 w.heap.size hown (h.below hb1) (by omega) (by rw [List.length_replicate]; omega) w.heap.size w hb1 (Nat.le_refl _) ?_; intro w2 hown2 hb2))
  go_loopw [21] (fun i wr => ∃ k : Nat, k ≤ 8 ∧ i = .int .i64 k ∧ Own wr 5 w.heap.size (xs ++ (List.replicate (8 - k) 0 ++ highB x k)) ∧ Below w.heap.size w wr) (fun i _ => 8 - (intOf i).toNat)
  case atStart => exact ⟨0, Nat.zero_le _, rfl, by simpa [highB, lowB, h.1] using hown2, hb2⟩
  case round =>
    obtain ⟨k, hk, rfl, hown, hb⟩ := hrel
    by_cases hlt : k < 8
    · have hc := hown.cell (j := m + 7 - k) (by simp [highB_length, h.1]; omega)
      have hf := hown.frozen (m + 7 - k)
      have hs := hown.set (m + 7 - k) (x / 2 ^ (8 * k) % 256)
      have he := set_high hlt (highB x k) (x / 2 ^ (8 * k) % 256) xs
      rw [h.1, show m + (8 - 1 - k) = m + 7 - k from by omega] at he
      rw [he, ← pow256_two, ← highB_cons, pow256_two] at hs
      have HS := hide hs
      clear hs he
      go_wp2
      go_roundw
      case rel => exact ⟨k + 1, by omega, by go_num, HS.out, hb.setCell (Nat.le_refl _) _⟩
      case measure => simp [intOf]; omega
    · go_wp2
      go_ret
      obtain rfl : k = 8 := by omega
      exact ret_new hown hb (by simp) (by simp [highB_length, h.1]) (Nat.le_refl _) (by simp only [maxLen]; omega)
set_option maxRecDepth 100000 in
theorem put64_new (A : Option Addr) (m c : Nat) (xs : List Int) (x : Int) (w : World) (h : Bs w w.heap.size A m xs) (hm : m ≤ 1000000) (h0 : 0 ≤ x) (h1 : x < 2 ^ 64) :
    Calls Tryz.prog 40 #[.slice A m c, .int .u64 x] w (RetNew (xs ++ highB x 8) w) := by
  go_enter Tryz.func40, Tryz.ntmps40
  go_wp2_with (go_at_call 51; refine (lay64h_new A m c xs x _ h hm h0 h1).mono ?_; rintro e w1 ⟨n1, c1, rfl, hb, hn, hc, hl⟩)
  go_ret
  exact ⟨n1, c1, rfl, hb, hn, hc, hl⟩
/-- What a call hands back that lies in new memory. -/
def RetFr (out : List Int) (w : World) (e : Ending) (w' : World) : Prop :=
  ∃ A n c, e = .returned (.slice A n c) ∧ Bs w' w'.heap.size A n out ∧ n ≤ c ∧ c ≤ maxLen ∧ Below w.heap.size w w' ∧ ∀ x, A = some x → w.heap.size ≤ x.block
theorem RetFr.bs {out : List Int} {w w' : World} {e : Ending} (h : RetFr out w e w') : RetBs out w e w' := by
  obtain ⟨A, n, c, h1, h2, h3, h4, h5, _⟩ := h
  exact ⟨A, n, c, h1, h2, h3, h4, h5⟩
/-- How many bytes 0 come behind the byte 128. -/
def zN (m : Nat) : Nat := (64 - (m % 64 + 9) % 64) % 64
/-- What comes behind a text of m bytes. -/
def padS (m : Nat) : List Int := (128 :: List.replicate (zN m) 0) ++ highB ((8 * m % 18446744073709551616 : Nat) : Int) 8
theorem highB_by (x : Int) (n : Nat) : IsBy (highB x n) := fun b hb => lowB_byte x n b (by simpa [highB] using hb)
theorem padS_by (m : Nat) : IsBy (padS m) := IsBy.app (fun x hx => by
  rcases List.mem_cons.1 hx with rfl | hx
  · exact ⟨by decide, by decide⟩
  · exact isByRepS _ x hx) (highB_by _ _)
theorem padS_len (m : Nat) : (padS m).length = zN m + 9 := by unfold padS; simp [highB_length]
theorem padS_whole (m : Nat) : (m + (padS m).length) % 64 = 0 := by rw [padS_len]; unfold zN; omega
set_option maxRecDepth 100000 in
set_option maxHeartbeats 1000000 in
theorem pad_nat (m : Nat) (w : World) (hm : m ≤ 9223372036854775807) : Calls Tryz.prog 84 #[.int .i64 (m : Int)] w (RetFr (padS m) w) := by
  obtain ⟨i0, hi, hz, hsz, hby⟩ := u8_info
  have hzl : zN m ≤ 63 := by unfold zN; omega
  have hze : 1 + -(((m : Int) % 64 + 1 + 8) % 64) % 64 = ((zN m + 1 : Nat) : Int) := by unfold zN; omega
  have hf8 : (8 * (m : Int)) % 18446744073709551616 = ((8 * m % 18446744073709551616 : Nat) : Int) := by omega
  have hdef : padS m = (128 :: List.replicate (zN m) 0) ++ highB ((8 * m % 18446744073709551616 : Nat) : Int) 8 := rfl
  have HD := hide hdef
  have HE := hide hze
  have H8 := hide hf8
  have hlt8 : 8 * m % 18446744073709551616 < 18446744073709551616 := Nat.mod_lt _ (by decide)
  clear hdef hze hf8
  generalize zN m = z at *
  have hset : (List.replicate (z + 1) (0 : Int)).set 0 128 = 128 :: List.replicate z 0 := rfl
  have HS := hide hset
  clear hset
  generalize hX : 8 * m % 18446744073709551616 = X at *
  have HX := hide hX
  clear hX
  generalize padS m = P at *
  go_enter Tryz.func84, Tryz.ntmps84
  go_wp2_with (first
    | (with_reducible refine wl_make rfl 25 (.tmp 15) (.tmp 15) rfl 5 i0 (.int .u8 0) Tryz.underlying25 hi hz hsz rfl .i64 .i64 (z + 1) (z + 1) _ _ rfl rfl HE.out HE.out (Nat.le_refl _) (by rw [hby]; omega) (by omega) ?_; intro g4 w4 r4 a4 l4 b4; have r4' : Row w4 5 g4 (bv (List.replicate (z + 1) 0)) := by (rw [show bv (List.replicate (z + 1) 0) = List.replicate (z + 1) (Value.int .u8 0) by simp [bv]]; exact r4))
    | (with_reducible refine wl_store rfl 5 (.tmp 18) (.const (.int .u8 128)) g4 0 5 _ (.int .u8 128) rfl (by kernel_rfl) rfl rfl r4' (by rw [bv_len, List.length_replicate]; omega) rfl ?_; intro w5 r5 o5; rw [bv_set, HS.out] at r5))
  rw [IntKind.wrap_u64, H8.out]
  have hb5 : Bs w5 w5.heap.size (some ⟨g4, 0, none⟩) (z + 1) (128 :: List.replicate z 0) := by
    have := row_bs_at (n := z + 1) (off := 0) r5 (by simp) r5.lt
    rw [List.drop_zero, List.take_of_length_le (by simp)] at this
    exact this
  have B5 := b4.trans (o5.below a4)
  refine (put64_new _ (z + 1) (z + 1) _ (X : Int) w5 hb5 (by omega) (by omega) (by omega)).mono ?_
  rintro e w6 ⟨n6, c6, rfl, h6, hc6, hM6, b6⟩
  rw [← HD.out] at h6
  have B6 := B5.trans (b6.mono B5.size)
  have hs6 : w.heap.size ≤ w5.heap.size := B5.size
  have HH := hide (And.intro h6 (And.intro hc6 (And.intro hM6 (And.intro B6 (show ∀ x, (some ⟨w5.heap.size, 0, none⟩ : Option Addr) = some x → w.heap.size ≤ x.block from fun x hx => by injection hx with hx; subst hx; exact hs6)))))
  clear h6 hc6 hM6 b6 B6 B5 hb5 r5 r4' r4 o5 b4 hs6
  go_wp2_with fail
  go_ret
  exact ⟨_, n6, c6, rfl, HH.out⟩
set_option maxRecDepth 100000 in
theorem pad_neg (x : Int) (w : World) (hx : x < 0) : Calls Tryz.prog 84 #[.int .i64 x] w (RetFr (padS 0) w) := by
  obtain ⟨i0, hi, hz, hsz, hby⟩ := u8_info
  have hdef : padS 0 = (128 :: List.replicate 55 0) ++ highB 0 8 := rfl
  have HD := hide hdef
  have HS := hide (show (List.replicate 56 (0 : Int)).set 0 128 = 128 :: List.replicate 55 0 from rfl)
  have hmax : max x 0 = 0 := by omega
  clear hdef
  generalize padS 0 = P at *
  go_enter Tryz.func84, Tryz.ntmps84
  go_wp2_with (first
    | (with_reducible refine wl_make rfl 25 (.tmp 15) (.tmp 15) rfl 5 i0 (.int .u8 0) Tryz.underlying25 hi hz hsz rfl .i64 .i64 56 56 _ _ rfl rfl rfl rfl (Nat.le_refl _) (by rw [hby]; omega) (by omega) ?_; intro g4 w4 r4 a4 l4 b4; have r4' : Row w4 5 g4 (bv (List.replicate 56 0)) := by (rw [show bv (List.replicate 56 0) = List.replicate 56 (Value.int .u8 0) by simp [bv]]; exact r4))
    | (with_reducible refine wl_store rfl 5 (.tmp 18) (.const (.int .u8 128)) g4 0 5 _ (.int .u8 128) rfl (by kernel_rfl) rfl rfl r4' (by rw [bv_len, List.length_replicate]; omega) rfl ?_; intro w5 r5 o5; rw [bv_set, HS.out] at r5))
  have hb5 : Bs w5 w5.heap.size (some ⟨g4, 0, none⟩) 56 (128 :: List.replicate 55 0) := by
    have := row_bs_at (n := 56) (off := 0) r5 (by simp) r5.lt
    rw [List.drop_zero, List.take_of_length_le (by simp)] at this
    exact this
  have B5 := b4.trans (o5.below a4)
  refine (put64_new _ 56 56 _ 0 w5 hb5 (by omega) (by omega) (by omega)).mono ?_
  rintro e w6 ⟨n6, c6, rfl, h6, hc6, hM6, b6⟩
  rw [← HD.out] at h6
  have B6 := B5.trans (b6.mono B5.size)
  have hs6 : w.heap.size ≤ w5.heap.size := B5.size
  have HH := hide (And.intro h6 (And.intro hc6 (And.intro hM6 (And.intro B6 (show ∀ x, (some ⟨w5.heap.size, 0, none⟩ : Option Addr) = some x → w.heap.size ≤ x.block from fun x hx => by injection hx with hx; subst hx; exact hs6)))))
  clear h6 hc6 hM6 b6 B6 B5 hb5 r5 r4' r4 o5 b4 hs6
  go_wp2_with fail
  go_ret
  exact ⟨_, n6, c6, rfl, HH.out⟩
/-- A Hash that no call made. -/
def hashZ : List Value := .bool false :: (vk .u32 (List.replicate 8 0) ++ (bv (List.replicate 64 0) ++ [.int .i64 0]))
theorem zeroHash : (Tryz.prog.info? 155).map (fun i => i.zero) = some (some (.agg hashZ.toArray)) := by kernel_rfl
theorem hashZ_len : hashZ.length = 74 := rfl
/-- The sum of a text. -/
def sumS (xs : List Int) : List Int := byS (stK (xs ++ padS xs.length) ((xs ++ padS xs.length).length / 64))
theorem sumS_len (xs : List Int) : (sumS xs).length = 32 := byS_len _
set_option maxRecDepth 100000 in
set_option maxHeartbeats 2000000 in
theorem hsum_any (xs : List Int) (g : Nat) (w : World) (hT : Tabs w) (hh : HashAt w g xs) (hxb : IsBy xs) (hM : xs.length ≤ 4611686018427387904) :
    Calls Tryz.prog 77 #[.pointer (some ⟨g, 0, none⟩)] w fun e w' => e = .returned (.agg (bv (sumS xs)).toArray) ∧ Below w.heap.size w w' := by
  have hsl := sumS_len xs
  have zf := hide (size32b hsl)
  have lf := hide (show (bv (List.replicate 32 0)).length = (bv (sumS xs)).length by rw [bv_len, bv_len, hsl, List.length_replicate])
  have hPl := padS_len xs.length
  have hPb := padS_by xs.length
  have hzN : zN xs.length ≤ 63 := by unfold zN; omega
  have hfin : byS (stK (xs ++ padS xs.length) ((xs ++ padS xs.length).length / 64)) = sumS xs := rfl
  have HF := hide hfin
  have hP := fun w => pad_nat xs.length w (by omega)
  have hB := fun w => bytes_any (stK (xs ++ padS xs.length) ((xs ++ padS xs.length).length / 64)) w (stK_len _ _) (stK_w _ _)
  have hWr := fun g A m c w hT hg hh hb ho hc => write_any xs (padS xs.length) g m c A w hT hg hh hxb hPb hb ho hc (by omega)
  obtain ⟨held, h1, h2, h3, h4⟩ := hh
  have hst := stK_len xs (xs.length / 64)
  have zst2 := hide (size8 (stK_len (xs ++ padS xs.length) ((xs ++ padS xs.length).length / 64)))
  have hfin0 : ∀ w' g', Row w' 155 g' (hashL (stK xs (xs.length / 64)) held xs.length) → HashAt w' g' xs := fun w' g' h => ⟨held, h1, h2, h3, h⟩
  have c0 := h4.cell (hash0 _ _ _)
  have H73 := hide (hash73 (n := xs.length) hst h1)
  have hhl := hashL_len (n := xs.length) hst h1
  have zh := hide (show (Tryz.prog.info? 155).map (·.size) = some (hashL (stK xs (xs.length / 64)) held xs.length).length by rw [hhl]; kernel_rfl)
  have oh := hide (show ∀ u ∈ hashL (stK xs (xs.length / 64)) held xs.length, u.oneCell' = true by
    intro u hu
    simp only [hashL, List.mem_cons, List.mem_append, List.not_mem_nil, or_false] at hu
    rcases hu with rfl | hu | hu | rfl
    · rfl
    · exact vk_one' _ _ u hu
    · exact bv_one _ u hu
    · rfl)
  have zz := hide (show hashZ.length = (hashL (stK xs (xs.length / 64)) held xs.length).length by rw [hhl, hashZ_len])
  have zH := zeroHash
  have hgw := h4.lt
  clear hsl hfin h1 h2 h3 hhl hst hPl
  generalize hashL (stK xs (xs.length / 64)) held xs.length = hl at *
  generalize sumS xs = FS at *
  generalize hashZ = hz at *
  go_enter Tryz.func77, Tryz.ntmps77
  go_wp2_with (first
    | (with_reducible refine wl_alloc rfl 42 _ (bv (List.replicate 32 0)) rfl zero32b rfl ?_; intro g2 w2 r2 p2 l2 b2; have h4a := h4.later b2; have c0a := (b2.cell (p := ⟨g, 0, none⟩) hgw).trans c0)
    | (with_reducible refine wl_load_row rfl 155 (.tmp 15) g 155 hl _ rfl rfl h4a Tryz.underlying155 rfl zh.out ?_)
    | (with_reducible refine wl_alloc rfl 155 _ hz rfl zH rfl ?_; intro g3 w3 r3 p3 l3 b3; have h4b := h4a.later b3; have r2a := r2.later b3)
    | (with_reducible refine wl_store_row rfl 155 (.tmp 3) (.tmp 16) g3 155 _ hl rfl rfl rfl r3 zh.out zz.out oh.out ?_; intro w4 r4 o4; have h4c := h4b.only o4 (by have := h4a.lt; omega))
    | (with_reducible refine wl_load rfl 3 (.tmp 19) g 73 155 _ (.int .i64 (xs.length : Int)) rfl Tryz.isAgg3 rfl h4c H73.out ?_))
  have B3 := b2.trans (b3.mono b2.size)
  have q3 : w.heap.size ≤ g3 := Nat.le_trans b2.size p3
  have q2 : w.heap.size ≤ g2 := p2
  have h23 : g2 ≠ g3 := by have := r2.lt; omega
  have B4 := B3.trans (o4.below q3)
  have r2b := r2a.only o4 h23
  have hh4 := hfin0 _ _ r4
  clear h4 h4a h4b h4c r2 r2a r3 c0 c0a b2 b3 o4 hfin0 r4
  refine (hP w4).mono ?_
  rintro e w5 ⟨A5, n5, c5, rfl, h5, hc5, _, b5, hfr⟩
  have B5 := B4.trans (b5.mono B4.size)
  have hh5 := hh4.later b5
  have hg3 : (4 + 1) ≤ g3 := Nat.le_trans hT.1 q3
  have hlt4 : g3 < w4.heap.size := hh4.lt
  have ho : Off g3 n5 A5 := fun _ x hx => by have := hfr x hx; omega
  have r2c := r2b.later b5
  have T5 := hT.later B5
  clear hP hh4 b5 hfr r2b B4 B3
  go_wp2_with fail
  refine (hWr g3 A5 n5 c5 w5 T5 hg3 hh5 h5 ho hc5).mono ?_
  rintro e w6 ⟨rfl, hh6, b6⟩
  have B6 := B5.trans (b6.below q3 B5.size)
  have r2d := r2c.but b6 h23
  obtain ⟨held2, k1, k2, k3, k4⟩ := hh6
  have hsl2 := stK_len (xs ++ padS xs.length) ((xs ++ padS xs.length).length / 64)
  clear hWr hh5 h5 r2c b6 k3 T5
  generalize stK (xs ++ padS xs.length) ((xs ++ padS xs.length).length / 64) = st at *
  go_wp2_with (first
    | (with_reducible refine wl_load_part rfl 153 (.tmp 23) g3 1 155 [.bool true] (vk .u32 st) (bv held2 ++ [.int .i64 ((xs ++ padS xs.length).length : Int)]) _ rfl rfl (hashSt k4) rfl Tryz.underlying153 rfl zst2.out ?_))
  refine (hB w6).mono ?_
  rintro e w7 ⟨rfl, b7⟩
  rw [HF.out]
  have r2e := r2d.later b7
  have B7 := B6.trans (b7.mono B6.size)
  clear k4 r2d hB
  go_wp2_with (first
    | (with_reducible refine wl_store_row rfl 42 (.tmp 2) (.tmp 25) g2 42 _ (bv FS) rfl rfl rfl r2e zf.out lf.out (bv_one _) ?_; intro w8 r8 o8))
  refine bodyPost_ret (v := .agg (bv FS).toArray) ?_ rfl ⟨rfl, ?_⟩
  · exact results_cell_row Tryz.results77 _ _ g2 42 _ (0, 0) _ rfl r8 Tryz.underlying42 rfl zf.out
  · exact B7.trans (o8.below q2)
set_option maxRecDepth 100000 in
set_option maxHeartbeats 1000000 in
theorem sum_any (xs : List Int) (A : Option Addr) (m c : Nat) (w : World) (hT : Tabs w) (hx : Bs w w.heap.size A m xs) (hxb : IsBy xs) (hc : m ≤ c) (hM : m ≤ 4611686018427387904) :
    Calls Tryz.prog 64 #[.slice A m c] w fun e w' => e = .returned (.agg (bv (sumS xs)).toArray) ∧ Below w.heap.size w w' := by
  have hsl := sumS_len xs
  have zf := hide (size32b hsl)
  have lf := hide (show (bv (List.replicate 32 0)).length = (bv (sumS xs)).length by rw [bv_len, bv_len, hsl, List.length_replicate])
  have hlen := hx.1
  have hWr := fun g w hT hg hh hb ho => write_any [] xs g m c A w hT hg hh (fun _ h => by simp at h) hxb hb ho hc (by simp; omega)
  have hS := fun g w hT hh => hsum_any xs g w hT hh hxb (by omega)
  clear hsl hlen
  rw [List.nil_append] at hWr
  generalize sumS xs = FS at *
  go_enter Tryz.func64, Tryz.ntmps64
  go_wp2_with (first
    | (with_reducible refine wl_alloc rfl 42 _ (bv (List.replicate 32 0)) rfl zero32b rfl ?_; intro g2 w2 r2 p2 l2 b2))
  refine (hnew_any w2 (hT.later b2)).mono ?_
  rintro e w3 ⟨g, rfl, pg, hh, b3⟩
  have B3 := b2.trans (b3.mono b2.size)
  have hg2 : (4 + 1) ≤ g := Nat.le_trans hT.1 (Nat.le_trans b2.size pg)
  have hne : g2 ≠ g := by have := r2.lt; omega
  have ho : Off g m A := Off.of hx (Nat.le_trans b2.size pg)
  go_wp2_with fail
  refine (hWr g w3 (hT.later B3) hg2 hh (hx.later B3) ho).mono ?_
  rintro e w4 ⟨rfl, hh4, b4⟩
  have B4 := B3.trans (b4.below (Nat.le_trans b2.size pg) B3.size)
  have r4 := (r2.later b3).but b4 hne
  clear hWr hh r2 b4
  go_wp2_with fail
  refine (hS g w4 (hT.later B4) hh4).mono ?_
  rintro e w5 ⟨rfl, b5⟩
  have r5 := r4.later b5
  have B5 := B4.trans (b5.mono B4.size)
  go_wp2_with (first
    | (with_reducible refine wl_store_row rfl 42 (.tmp 2) (.tmp 9) g2 42 _ (bv FS) rfl rfl rfl r5 zf.out lf.out (bv_one _) ?_; intro w8 r8 o8))
  refine bodyPost_ret (v := .agg (bv FS).toArray) ?_ rfl ⟨rfl, ?_⟩
  · exact results_cell_row Tryz.results64 _ _ g2 42 _ (0, 0) _ rfl r8 Tryz.underlying42 rfl zf.out
  · exact B5.trans (o8.below p2)
end Go.Proofs.YtooooncmjhcdbaaGreatDoor.Sm

/-
  SHA-256: what the sums' users need beside. Own work.
-/
namespace Go.Proofs.YtooooncmjhcdbaaGreatDoor.Sm
open Go.Proofs.YtooooncmjhcdbaaGreatDoor
open Go.RowKit
theorem by_of_all {xs : List Int} (h : (xs.all fun x => decide (0 ≤ x) && decide (x < 256)) = true) : IsBy xs := fun x hx => by
  have := List.all_eq_true.1 h x hx
  simp at this
  exact this
theorem eq32 (xs ys : List Int) (hx : xs.length = 32) (hy : ys.length = 32) (w : World) : (Op.equalIn 10000 42 (.agg (bv xs).toArray) (.agg (bv ys).toArray)).run Tryz.prog w = .ok (decide (xs = ys)) w := by
  obtain ⟨i0, hi, _⟩ := u8_info
  exact run_eqArr w Tryz.underlying42 hi (by kernel_rfl) Tryz.underlying5 Tryz.isAgg5 xs ys hx hy
theorem eq32S (xs : List Int) (hx : xs.length = 32) (w : World) : (Op.equalIn 10000 42 (.agg (bv xs).toArray) (.agg (bv xs).toArray)).run Tryz.prog w = .ok true w := (eq32 xs xs hx hx w).trans (by simp)
theorem st_build2 {P : Program} {o : Oper} {a : Act} {w : World} {K : Act → World → Prop} {Q : Exit → Act → World → Prop} (t : TypeId) (x y : Operand) (ho : o.op = .buildSlice t 2 #[(0, x), (1, y)]) (e : TypeId) (i : TypeInfo) (z u v : Value) (ht : P.underlying t = some (.slice e)) (hi : P.info? e = some i) (hz : i.zero = some z) (hsz : i.size = 1) (hzc : z.cells = #[z]) (hx : a.eval x = u) (hy : a.eval y = v) (hu : u.cells = #[u]) (hv : v.cells = #[v])
    (hk : K (a.put o.dst (.slice (some ⟨w.heap.size, 0, none⟩) 2 2)) (w.alloc (.cells #[u, v] e))) : o.wp P a w K Q := by
  have hr : (Array.range 2) = #[0, 1] := rfl
  have hzz : ∀ w, (zeroValue e).run P w = .ok z w := fun w => by simp [zeroValue, typeInfo, hi, hz]
  have hss : ∀ w, (sizeOf e).run P w = .ok 1 w := fun w => by simp [sizeOf, typeInfo, hi, hsz]
  have hrun : (Instr.buildSlice t 2 #[(0, u), (1, v)]).run P w = .ok (.slice (some ⟨w.heap.size, 0, none⟩) 2 2) (w.alloc (.cells #[u, v] e)) := by
    simp [Instr.buildSlice, run_underlying ht, hss, hzz, hr, hzc, Instr.fill, hu, hv, newRow]
  unfold Oper.wp execOp
  simp only [ho, List.map_toArray, List.map_cons, List.map_nil, hx, hy, hrun, Sem.run_bind, Result.andThen_ok, Sem.run_pure]
  exact hk
theorem wl_build2 {P : Program} {ops : Array Oper} {rest : List Oper} {o : Oper} {a : Act} {w : World} {Q : Exit → Act → World → Prop} (hgd : o.guard = none) (t : TypeId) (x y : Operand) (ho : o.op = .buildSlice t 2 #[(0, x), (1, y)]) (e : TypeId) (i : TypeInfo) (z u v : Value) (ht : P.underlying t = some (.slice e)) (hi : P.info? e = some i) (hz : i.zero = some z) (hsz : i.size = 1) (hzc : z.cells = #[z]) (hx : a.eval x = u) (hy : a.eval y = v) (hu : u.cells = #[u]) (hv : v.cells = #[v])
    (hk : ∀ g w', Row w' e g [u, v] → w.heap.size ≤ g → g < w'.heap.size → Below w.heap.size w w' → wpList P ops Q rest (a.put o.dst (.slice (some ⟨g, 0, none⟩) 2 2)) w') : wpList P ops Q (o :: rest) a w :=
  wpList_plain hgd fun K hK => st_build2 t x y ho e i z u v ht hi hz hsz hzc hx hy hu hv (hK _ _ (hk _ _ (by unfold Row; exact heap_alloc_new _ _) (Nat.le_refl _) (by simp) ((Below.refl _ _).alloc (Nat.le_refl _) _)))
def zs32 : List Int := List.replicate 32 0
theorem bZ32 : Tryz.prog.built 42 [] = some (bv zs32).toArray := by kernel_rfl
theorem zs32_len : zs32.length = 32 := by simp [zs32]
theorem zero32z : (Tryz.prog.info? 42).map (fun i => i.zero) = some (some (.agg (bv zs32).toArray)) := zero32b
end Go.Proofs.YtooooncmjhcdbaaGreatDoor.Sm

/-
  A sum is bytes; a slice's zero. Own work.
-/
namespace Go.Proofs.YtooooncmjhcdbaaGreatDoor.Sm
open Go.Proofs.YtooooncmjhcdbaaGreatDoor
open Go.RowKit
theorem byK_by (s : List Int) (k : Nat) : IsBy (byK s k) := by
  induction k with
  | zero => exact fun _ h => by cases h
  | succ k ih => exact ih.app (highB_by _ _)
theorem sumS_by (xs : List Int) : IsBy (sumS xs) := byK_by _ 8
theorem sl_info_ : (Tryz.prog.info? 25).map (fun i => (i.zero, i.size, i.bytes)) = some (some (.slice none 0 0), 1, 24) := by kernel_rfl
theorem sl_info : ∃ i, Tryz.prog.info? 25 = some i ∧ i.zero = some (.slice none 0 0) ∧ i.size = 1 := by
  obtain ⟨i, h0, h1, h2, h3⟩ := info_parts sl_info_
  exact ⟨i, h0, h1, h2⟩
end Go.Proofs.YtooooncmjhcdbaaGreatDoor.Sm

/-
  HMAC: sums with a key, as lists; the sum of parts: contract. Own work.
-/
namespace Go.Proofs.YtooooncmjhcdbaaGreatDoor.Sm
open Go.Proofs.YtooooncmjhcdbaaGreatDoor
open Go.RowKit
/-- A key that is no longer than a block. -/
def keyS (ks : List Int) : List Int := if 64 < ks.length then sumS ks else ks
/-- A key, as long as a block. -/
def padK (ks : List Int) : List Int := keyS ks ++ List.replicate (64 - (keyS ks).length) 0
/-- A key, each byte xored. -/
def maskS (ks : List Int) (x : Int) : List Int := (padK ks).map fun y => bits .xor .u8 y x
def hmacS (ks ts : List Int) : List Int := sumS (maskS ks 92 ++ sumS (maskS ks 54 ++ ts))
theorem keyS_len (ks : List Int) : (keyS ks).length ≤ 64 := by
  unfold keyS
  split
  · rw [sumS_len]; decide
  · omega
theorem padK_len (ks : List Int) : (padK ks).length = 64 := by
  have := keyS_len ks
  unfold padK
  rw [List.length_append, List.length_replicate]
  omega
theorem maskS_len (ks : List Int) (x : Int) : (maskS ks x).length = 64 := by unfold maskS; rw [List.length_map, padK_len]
theorem hmacS_len (ks ts : List Int) : (hmacS ks ts).length = 32 := sumS_len _
theorem hmacS_by (ks ts : List Int) : IsBy (hmacS ks ts) := sumS_by _
theorem keyS_by {ks : List Int} (h : IsBy ks) : IsBy (keyS ks) := by
  unfold keyS
  split
  · exact sumS_by _
  · exact h
theorem padK_by {ks : List Int} (h : IsBy ks) : IsBy (padK ks) := (keyS_by h).app (isByRepS _)
theorem xor_by {x y : Int} (hx : 0 ≤ x ∧ x < 256) (hy : 0 ≤ y ∧ y < 256) : 0 ≤ bits .xor .u8 x y ∧ bits .xor .u8 x y < 256 := by
  rw [u8_xor x y hx.1 hx.2 hy.1 hy.2]
  have h1 : x.toNat < 2 ^ 8 := by omega
  have h2 : y.toNat < 2 ^ 8 := by omega
  have := Nat.xor_lt_two_pow h1 h2
  omega
theorem maskS_by {ks : List Int} {x : Int} (h : IsBy ks) (hx : 0 ≤ x ∧ x < 256) : IsBy (maskS ks x) := by
  intro b hb
  obtain ⟨y, hy, rfl⟩ := List.mem_map.1 hb
  exact xor_by (padK_by h y hy) hx
theorem map_set {f : Int → Int} {p : List Int} {i : Nat} (h : i < p.length) : ((p.map f).take i ++ p.drop i).set i (f (p.getD i 0)) = (p.map f).take (i + 1) ++ p.drop (i + 1) := by
  rw [List.set_append_right _ _ (by simp; omega), List.length_take, List.length_map, Nat.min_eq_left (Nat.le_of_lt h), Nat.sub_self, List.drop_eq_getElem_cons h, List.set_cons_zero, List.take_succ_eq_append_getElem (by simpa using h), List.append_assoc]
  simp [List.getD, List.getElem?_eq_getElem h]
theorem map_at {f : Int → Int} {p : List Int} {i : Nat} (h : i < p.length) : ((p.map f).take i ++ p.drop i).getD i 0 = p.getD i 0 := by
  simp only [List.getD]
  rw [List.getElem?_append_right (by simp; omega), List.length_take, List.length_map, Nat.min_eq_left (Nat.le_of_lt h), Nat.sub_self, List.getElem?_drop, Nat.add_zero]
theorem map_mid_len {f : Int → Int} {p : List Int} {i : Nat} (h : i ≤ p.length) : ((p.map f).take i ++ p.drop i).length = p.length := by simp; omega
theorem _root_.Go.Proofs.YtooooncmjhcdbaaGreatDoor.IsBy.getD {xs : List Int} (h : IsBy xs) (i : Nat) : 0 ≤ xs.getD i 0 ∧ xs.getD i 0 < 256 := by
  by_cases hi : i < xs.length
  · rw [List.getD, List.getElem?_eq_getElem hi]; exact h _ (by simp)
  · rw [List.getD, List.getElem?_eq_none (by omega)]; decide
theorem own_rep {w : World} {t g n : Nat} (h : Row w t g (List.replicate n (Value.int .u8 0))) : Own w t g (List.replicate n 0) := by
  have : Row w t g (bv (List.replicate n 0)) := by rw [show bv (List.replicate n 0) = List.replicate n (Value.int .u8 0) by simp [bv]]; exact h
  exact this
set_option maxRecDepth 100000 in
set_option maxHeartbeats 1000000 in
theorem msum_any (l : List (List Int)) (C : Option Addr) (k f : Nat) (w : World) (hT : Tabs w) (hx : Bss w w.heap.size C k l) (hby : IsBy l.flatten) (hk : k ≤ 1000000) (hM : l.flatten.length ≤ 100000000) :
    Calls Tryz.prog 49 #[.slice C k f] w fun e w' => e = .returned (.agg (bv (sumS l.flatten)).toArray) ∧ Below w.heap.size w w' := by
  have hsl := sumS_len l.flatten
  have zf := hide (size32b hsl)
  have lf := hide (show (bv (List.replicate 32 0)).length = (bv (sumS l.flatten)).length by rw [bv_len, bv_len, hsl, List.length_replicate])
  have hJ := fun w hx => join_any C k f l w hx hk (by have := sumLen_le l k; rw [show sumLen l l.length = l.flatten.length by unfold sumLen; rw [List.take_length]] at this; omega)
  have hS := fun A m c w hT hb hc hm => sum_any l.flatten A m c w hT hb hby hc hm
  generalize sumS l.flatten = FS at *
  generalize l.flatten = xs at *
  clear hsl
  go_enter Tryz.func49, Tryz.ntmps49
  go_wp2_with (first
    | (with_reducible refine wl_alloc rfl 42 _ (bv (List.replicate 32 0)) rfl zero32b rfl ?_; intro g2 w2 r2 p2 l2 b2))
  refine (hJ w2 ((hx.below b2).up b2.size)).mono ?_
  rintro e w3 ⟨A3, m3, c3, rfl, h3, hc3, hM3, b3⟩
  have B3 := b2.trans (b3.mono b2.size)
  have r3 := r2.later b3
  have hm3 : m3 ≤ 4611686018427387904 := by have := h3.1; omega
  clear hM3 r2
  go_wp2_with fail
  refine (hS A3 m3 c3 w3 (hT.later B3) h3 hc3 hm3).mono ?_
  rintro e w4 ⟨rfl, b4⟩
  have B4 := B3.trans (b4.mono B3.size)
  have r4 := r3.later b4
  clear hm3
  go_wp2_with (first
    | (with_reducible refine wl_store_row rfl 42 (.tmp 2) (.tmp 5) g2 42 _ (bv FS) rfl rfl rfl r4 zf.out lf.out (bv_one _) ?_; intro w8 r8 o8))
  refine bodyPost_ret (v := .agg (bv FS).toArray) ?_ rfl ⟨rfl, ?_⟩
  · exact results_cell_row Tryz.results49 _ _ g2 42 _ (0, 0) _ rfl r8 Tryz.underlying42 rfl zf.out
  · exact B4.trans (o8.below p2)
end Go.Proofs.YtooooncmjhcdbaaGreatDoor.Sm

/-
  HMAC: a masked key: contract. Own work.
-/
namespace Go.Proofs.YtooooncmjhcdbaaGreatDoor.Sm
open Go.Proofs.YtooooncmjhcdbaaGreatDoor
open Go.RowKit
set_option maxRecDepth 100000 in
set_option maxHeartbeats 1000000 in
/-- The key that is no longer than a block, masked: behind the choice of it. -/
theorem masked_any (ks : List Int) (x : Int) (A : Option Addr) (m c : Nat) (w : World) (hT : Tabs w) (hx : Bs w w.heap.size A m ks) (hkb : IsBy ks) (hc : m ≤ c) (hM : m ≤ 100000000) (x0 : 0 ≤ x) (x1 : x < 256) :
    Calls Tryz.prog 50 #[.slice A m c, .int .u8 x] w (RetBs (maskS ks x) w) := by
  obtain ⟨i0, hi, hz, hsz, hby⟩ := u8_info
  have kl := hide (padK_len ks)
  have kpb : IsBy (padK ks) := padK_by hkb
  have hlen := hx.1
  by_cases hlong : 64 < m
  · have hd : decide ((64 : Int) < (m : Int)) = true := by simp; omega
    have hdef : padK ks = sumS ks ++ List.replicate (64 - 32) 0 := by unfold padK keyS; rw [if_pos (by omega), sumS_len]
    have hsl := sumS_len ks
    have zf := hide (size32b hsl)
    have lf := hide (show (bv (List.replicate 32 0)).length = (bv (sumS ks)).length by rw [bv_len, bv_len, hsl, List.length_replicate])
    have hS := fun w hT hb => sum_any ks A m c w hT hb hkb hc (by omega)
    have hmk : maskS ks x = (padK ks).map fun y => bits .xor .u8 y x := rfl
    have HD := hide hdef; have HM := hide hmk; have HSL := hide hsl
    clear hdef hmk hsl hlen
    generalize maskS ks x = M at *
    generalize padK ks = PK at *
    generalize sumS ks = K at *
    go_enter Tryz.func50, Tryz.ntmps50
    go_wp2_with fail
    refine (hS w hT hx).mono ?_
    rintro e w2 ⟨rfl, b2⟩
    clear hS hd
    go_wp2_with (first
      | (with_reducible refine wl_alloc rfl 42 _ (bv (List.replicate 32 0)) rfl zero32b rfl ?_; intro g5 w3 r3 p3 l3 b3)
      | (with_reducible refine wl_store_row rfl 42 (.tmp 5) (.tmp 12) g5 42 _ (bv K) rfl rfl rfl r3 zf.out lf.out (bv_one _) ?_; intro w4 r4 o4)
      | (with_reducible refine wl_make rfl 25 (.const (.int .i64 64)) (.const (.int .i64 64)) rfl 5 i0 (.int .u8 0) Tryz.underlying25 hi hz hsz rfl .i64 .i64 64 64 _ _ rfl rfl rfl rfl (Nat.le_refl _) (by rw [hby]; omega) (by omega) ?_; intro g6 w6 r6 a6 l6 b6; have r6' := own_rep r6)
      | (refine wpList_copy_bs rfl (.tmp 15) (.tmp 16) _ _ rfl 5 Tryz.underlying25 u8_size g6 0 _ _ 32 32 (some ⟨g5, 0, none⟩) rfl rfl _ K 5 w4.heap.size r6' ((Bs.row r4 HSL.out).below b6) (by decide) (by rw [List.length_replicate]; decide) w4.heap.size w4 b6 a6 ?_; intro w7 r7 b7))
    have q5 : w.heap.size ≤ g5 := Nat.le_trans b2.size p3
    have B4 : Below w.heap.size w w4 := (b2.trans (b3.mono b2.size)).trans (o4.below q5)
    have B7 : Below w.heap.size w w7 := B4.trans (b7.mono B4.size)
    have q6 : w.heap.size ≤ g6 := Nat.le_trans B4.size a6
    have r7' : Row w7 5 g6 (bv PK) := by
      have : Row w7 5 g6 (bv ((List.replicate 64 (0 : Int)).take 0 ++ K ++ (List.replicate 64 (0 : Int)).drop (0 + 32))) := r7
      rw [HD.out]
      rw [List.take_zero, List.nil_append, Nat.zero_add, List.drop_replicate] at this
      exact this
    clear r3 r4 r6 r6' r7 b2 b3 b6 b7 o4 B4
    have r8 : Row w7 5 g6 (bv ((PK.map fun y => bits .xor .u8 y x).take 0 ++ PK.drop 0)) := r7'
    clear r7'
    go_wp2_with fail
    go_loopw [20] (fun iv wr => ∃ i : Nat, i ≤ 64 ∧ iv = .int .i64 i ∧ Row wr 5 g6 (bv ((PK.map fun y => bits .xor .u8 y x).take i ++ PK.drop i)) ∧ Below w.heap.size w wr) (fun iv _ => 64 - (intOf iv).toNat)
    case atStart => exact ⟨0, Nat.zero_le _, rfl, r8, B7⟩
    case round =>
      clear r8 B7
      obtain ⟨i, hi, rfl, r6, br⟩ := hrel
      by_cases hlt : i < 64
      · have hset := map_set (f := fun y => bits .xor .u8 y x) (p := PK) (i := i) (by rw [kl.out]; exact hlt)
        have hat := map_at (f := fun y => bits .xor .u8 y x) (p := PK) (i := i) (by rw [kl.out]; exact hlt)
        have hcl := map_mid_len (f := fun y => bits .xor .u8 y x) (p := PK) (i := i) (by rw [kl.out]; exact hi)
        have hyb := kpb.getD i
        have HS := hide hset
        have c1 := r6.cell (vk_get (kd := .u8) (xs := (PK.map fun y => bits .xor .u8 y x).take i ++ PK.drop i) (j := i) (by rw [hcl, kl.out]; exact hlt))
        rw [hat] at c1
        have HL := hide (show i < (bv ((PK.map fun y => bits .xor .u8 y x).take i ++ PK.drop i)).length by rw [bv_len, hcl, kl.out]; exact hlt)
        clear hset hat hcl
        generalize PK.getD i 0 = y at *
        generalize (PK.map fun y => bits .xor .u8 y x).take i ++ PK.drop i = cur at *
        go_wp2_with (first
          | (with_reducible refine wl_store rfl 5 (.tmp 29) (.tmp 28) g6 i 5 _ (.int .u8 (bits .xor .u8 y x)) rfl (by kernel_rfl) rfl rfl r6 HL.out rfl ?_; intro w9 r9 o9; rw [bv_set, HS.out] at r9))
        go_roundw
        case rel => exact ⟨i + 1, by omega, by go_num, r9, br.trans (o9.below q6)⟩
        case measure => simp [intOf]; omega
      · have h64 : i = 64 := by omega
        have r9 : Row wr 5 g6 (bv M) := by
          rw [h64, List.take_of_length_le (by rw [List.length_map, kl.out]; exact Nat.le_refl _), List.drop_of_length_le (by rw [kl.out]; exact Nat.le_refl _), List.append_nil, ← HM.out] at r6
          exact r6
        have hml : M.length = 64 := by rw [HM.out, List.length_map, kl.out]
        have hfin : RetBs M w (.returned (.slice (some ⟨g6, 0, none⟩) 64 64)) wr := ⟨_, 64, 64, rfl, Bs.row r9 hml, Nat.le_refl _, by simp only [maxLen]; omega, br⟩
        have HF := hide hfin
        clear r6 r9 h64 hml hfin HM
        go_wp2_with fail
        go_ret
        exact HF.out
  · have hd : decide ((64 : Int) < (m : Int)) = false := by simp; omega
    have hdef : padK ks = ks ++ List.replicate (64 - m) 0 := by unfold padK keyS; rw [if_neg (by omega), hlen]
    have hmk : maskS ks x = (padK ks).map fun y => bits .xor .u8 y x := rfl
    have HD := hide hdef; have HM := hide hmk
    have hm64 : m ≤ 64 := by omega
    clear hdef hmk hlen
    generalize maskS ks x = M at *
    generalize padK ks = PK at *
    go_enter Tryz.func50, Tryz.ntmps50
    go_wp2_with (first
      | (with_reducible refine wl_make rfl 25 (.const (.int .i64 64)) (.const (.int .i64 64)) rfl 5 i0 (.int .u8 0) Tryz.underlying25 hi hz hsz rfl .i64 .i64 64 64 _ _ rfl rfl rfl rfl (Nat.le_refl _) (by rw [hby]; omega) (by omega) ?_; intro g6 w6 r6 a6 l6 b6; have r6' := own_rep r6)
      | (refine wpList_copy_bs rfl (.tmp 15) (.tmp 16) _ _ rfl 5 Tryz.underlying25 u8_size g6 0 _ _ m c A rfl rfl _ ks 5 w.heap.size r6' (hx.below b6) hm64 (by rw [List.length_replicate]; omega) w.heap.size w b6 a6 ?_; intro w7 r7 b7))
    have B7 : Below w.heap.size w w7 := b7
    have q6 : w.heap.size ≤ g6 := a6
    have r7' : Row w7 5 g6 (bv PK) := by
      have : Row w7 5 g6 (bv ((List.replicate 64 (0 : Int)).take 0 ++ ks ++ (List.replicate 64 (0 : Int)).drop (0 + m))) := r7
      rw [HD.out]
      rw [List.take_zero, List.nil_append, Nat.zero_add, List.drop_replicate] at this
      exact this
    clear r6 r6' r7 b6 b7
    have r8 : Row w7 5 g6 (bv ((PK.map fun y => bits .xor .u8 y x).take 0 ++ PK.drop 0)) := r7'
    clear r7'
    go_wp2_with fail
    go_loopw [20] (fun iv wr => ∃ i : Nat, i ≤ 64 ∧ iv = .int .i64 i ∧ Row wr 5 g6 (bv ((PK.map fun y => bits .xor .u8 y x).take i ++ PK.drop i)) ∧ Below w.heap.size w wr) (fun iv _ => 64 - (intOf iv).toNat)
    case atStart => exact ⟨0, Nat.zero_le _, rfl, r8, B7⟩
    case round =>
      clear r8 B7
      obtain ⟨i, hi, rfl, r6, br⟩ := hrel
      by_cases hlt : i < 64
      · have hset := map_set (f := fun y => bits .xor .u8 y x) (p := PK) (i := i) (by rw [kl.out]; exact hlt)
        have hat := map_at (f := fun y => bits .xor .u8 y x) (p := PK) (i := i) (by rw [kl.out]; exact hlt)
        have hcl := map_mid_len (f := fun y => bits .xor .u8 y x) (p := PK) (i := i) (by rw [kl.out]; exact hi)
        have hyb := kpb.getD i
        have HS := hide hset
        have c1 := r6.cell (vk_get (kd := .u8) (xs := (PK.map fun y => bits .xor .u8 y x).take i ++ PK.drop i) (j := i) (by rw [hcl, kl.out]; exact hlt))
        rw [hat] at c1
        have HL := hide (show i < (bv ((PK.map fun y => bits .xor .u8 y x).take i ++ PK.drop i)).length by rw [bv_len, hcl, kl.out]; exact hlt)
        clear hset hat hcl
        generalize PK.getD i 0 = y at *
        generalize (PK.map fun y => bits .xor .u8 y x).take i ++ PK.drop i = cur at *
        go_wp2_with (first
          | (with_reducible refine wl_store rfl 5 (.tmp 29) (.tmp 28) g6 i 5 _ (.int .u8 (bits .xor .u8 y x)) rfl (by kernel_rfl) rfl rfl r6 HL.out rfl ?_; intro w9 r9 o9; rw [bv_set, HS.out] at r9))
        go_roundw
        case rel => exact ⟨i + 1, by omega, by go_num, r9, br.trans (o9.below q6)⟩
        case measure => simp [intOf]; omega
      · have h64 : i = 64 := by omega
        have r9 : Row wr 5 g6 (bv M) := by
          rw [h64, List.take_of_length_le (by rw [List.length_map, kl.out]; exact Nat.le_refl _), List.drop_of_length_le (by rw [kl.out]; exact Nat.le_refl _), List.append_nil, ← HM.out] at r6
          exact r6
        have hml : M.length = 64 := by rw [HM.out, List.length_map, kl.out]
        have hfin : RetBs M w (.returned (.slice (some ⟨g6, 0, none⟩) 64 64)) wr := ⟨_, 64, 64, rfl, Bs.row r9 hml, Nat.le_refl _, by simp only [maxLen]; omega, br⟩
        have HF := hide hfin
        clear r6 r9 h64 hml hfin HM
        go_wp2_with fail
        go_ret
        exact HF.out
end Go.Proofs.YtooooncmjhcdbaaGreatDoor.Sm

/-
  HMAC: the sum of parts with a key: contracts. Own work.
-/
namespace Go.Proofs.YtooooncmjhcdbaaGreatDoor.Sm
open Go.Proofs.YtooooncmjhcdbaaGreatDoor
open Go.RowKit
theorem st_build2R {P : Program} {o : Oper} {a : Act} {w : World} {K : Act → World → Prop} {Q : Exit → Act → World → Prop} (t : TypeId) (x y : Operand) (ho : o.op = .buildSlice t 2 #[(0, x), (1, y)]) (e : TypeId) (i : TypeInfo) (z u v : Value) (ht : P.underlying t = some (.slice e)) (hi : P.info? e = some i) (hz : i.zero = some z) (hsz : i.size = 1) (hzc : z.cells = #[z]) (hx : a.eval x = u) (hy : a.eval y = v) (hu : u.cells = #[u]) (hv : v.cells = #[v])
    (hk : ∀ g w', Row w' e g [u, v] → w.heap.size ≤ g → g < w'.heap.size → Below w.heap.size w w' → K (a.put o.dst (.slice (some ⟨g, 0, none⟩) 2 2)) w') : o.wp P a w K Q :=
  st_build2 t x y ho e i z u v ht hi hz hsz hzc hx hy hu hv (hk _ _ (by unfold Row; exact heap_alloc_new _ _) (Nat.le_refl _) (by simp) ((Below.refl _ _).alloc (Nat.le_refl _) _))
def FHm (mk inn : List Int) (opn : Nat) (v : Value) (w : World) : Prop :=
  match opn with
  | 1 => SlF mk v w
  | 3 => BsF 2 [mk, inn] v w
  | _ => True
theorem FHm_mono (mk inn : List Int) : ∀ j v w w', FHm mk inn j v w → Below w.heap.size w w' → FHm mk inn j v w' := by
  intro j v w w' h hb
  unfold FHm at h ⊢
  split at h
  · exact h.later hb
  · exact h.later hb
  · trivial

def SHm (FS : List Int) (A : Option Addr) (g4 g5 m c : Nat) (opn : Nat) (v : Value) : Prop :=
  match opn with
  | 0 => v = .slice A m c
  | 2 => v = .slice (some ⟨g5, 0, none⟩) 32 32
  | 4 => v = .agg (bv FS).toArray
  | _ => True

set_option maxRecDepth 100000 in
set_option maxHeartbeats 2000000 in
theorem hmac_any (ks : List Int) (l : List (List Int)) (A C : Option Addr) (m c k f : Nat) (w : World) (hT : Tabs w) (hx : Bs w w.heap.size A m ks) (hkb : IsBy ks) (hc : m ≤ c) (hM : m ≤ 100000000) (hl : Bss w w.heap.size C k l) (hlb : IsBy l.flatten) (hk : k ≤ 1000000) (hL : l.flatten.length ≤ 10000000) :
    Calls Tryz.prog 39 #[.slice A m c, .slice C k f] w fun e w' => e = .returned (.agg (bv (hmacS ks l.flatten)).toArray) ∧ Below w.heap.size w w' := by
  obtain ⟨isl, hsi, hsz0, hss⟩ := sl_info
  have hsl := hmacS_len ks l.flatten
  have zf := hide (size32b hsl)
  have lf := hide (show (bv (List.replicate 32 0)).length = (bv (hmacS ks l.flatten)).length by rw [bv_len, bv_len, hsl, List.length_replicate])
  have hisl := sumS_len (maskS ks 54 ++ l.flatten)
  have hil := hide hisl
  have zi := hide (size32b hisl)
  have li := hide (show (bv (List.replicate 32 0)).length = (bv (sumS (maskS ks 54 ++ l.flatten))).length by rw [bv_len, bv_len, hisl, List.length_replicate])
  have HM1 := fun w hT hx => masked_any ks 54 A m c w hT hx hkb hc hM (by decide) (by decide)
  have HMk := fun w hT hx => masked_any ks 92 A m c w hT hx hkb hc hM (by decide) (by decide)
  have hJ := fun w hx => join_any C k f l w hx hk (by have := sumLen_le l k; rw [show sumLen l l.length = l.flatten.length by unfold sumLen; rw [List.take_length]] at this; omega)
  have HS1 := fun A d w hT hx => msum_any [maskS ks 54, l.flatten] A 2 d w hT hx (by simpa using (maskS_by hkb (by decide)).app hlb) (by decide) (by rw [show [maskS ks 54, l.flatten].flatten = maskS ks 54 ++ l.flatten by simp, List.length_append, maskS_len]; omega)
  have HSm := fun A d w hT hx => msum_any [maskS ks 92, sumS (maskS ks 54 ++ l.flatten)] A 2 d w hT hx (by simpa using (maskS_by hkb (by decide)).app (sumS_by _)) (by decide) (by simp [maskS_len, sumS_len])
  rw [show [maskS ks 54, l.flatten].flatten = maskS ks 54 ++ l.flatten by simp] at HS1
  rw [show sumS [maskS ks 92, sumS (maskS ks 54 ++ l.flatten)].flatten = hmacS ks l.flatten by simp [hmacS]] at HSm
  clear hsl hisl
  generalize hmacS ks l.flatten = FS at *
  generalize sumS (maskS ks 54 ++ l.flatten) = inn at *
  generalize maskS ks 92 = mk at *
  go_enter Tryz.func39, Tryz.ntmps39
  go_wp2_with (first
    | (with_reducible refine wl_alloc rfl 42 _ (bv (List.replicate 32 0)) rfl zero32b rfl ?_; intro g4 w2 r4 p4 l4 b2))
  refine (HM1 w2 (hT.later b2) (hx.later b2)).mono ?_
  rintro e w3 ⟨A7, n7, c7, rfl, h7, hc7, _, b3⟩
  have B3 := b2.trans (b3.mono b2.size)
  have r4a := r4.later b3
  clear r4
  go_wp2_with fail
  refine (hJ w3 ((hl.below B3).up B3.size)).mono ?_
  rintro e w4 ⟨A9, n9, c9, rfl, h9, hc9, _, b4⟩
  have B4 := B3.trans (b4.mono B3.size)
  have r4b := r4a.later b4
  have h7b := h7.later b4
  clear r4a
  go_wp2_with (first
    | (with_reducible refine wl_build2 rfl 32 (.tmp 7) (.tmp 9) rfl 25 isl (.slice none 0 0) (.slice A7 n7 c7) (.slice A9 n9 c9) Tryz.underlying32 hsi hsz0 hss rfl rfl rfl rfl rfl ?_; intro g8 w5 r8 p8 l8 b5))
  have B5 := B4.trans (b5.mono B4.size)
  have r4c := r4b.later b5
  have hbs := r8.bss2 (h7b.later b5) (h9.later b5)
  clear r4b r8
  refine (HS1 _ 2 w5 (hT.later B5) hbs).mono ?_
  rintro e w6 ⟨rfl, b6⟩
  have B6 := B5.trans (b6.mono B5.size)
  have r4d := r4c.later b6
  clear r4c hbs HS1 HM1 hJ h7 h7b h9
  go_wp2_with (first
    | (with_reducible refine wl_alloc rfl 42 _ (bv (List.replicate 32 0)) rfl zero32b rfl ?_; intro g5 w7 r5a p5 l5 b7)
    | (with_reducible refine wl_store_row rfl 42 (.tmp 5) (.tmp 11) g5 42 _ (bv inn) rfl rfl rfl r5a zi.out li.out (bv_one _) ?_; intro wS r5 o8))
  have q5 : w.heap.size ≤ g5 := Nat.le_trans B6.size p5
  have h45 : g4 ≠ g5 := by have := r4d.lt; omega
  have r4 := (r4d.later b7).only o8 h45
  have BS := (B6.trans (b7.mono B6.size)).trans (o8.below q5)
  have hT0 := hT.later BS
  have hx0 := hx.later BS
  clear r4d r5a b7 o8 hT hx b2 b3 b4 b5 b6
  have hT := hT0
  have hx := hx0
  clear hT0 hx0
  rename_i K1 hK1
  refine wp_region_vals [1, 3, 4, 5] (SHm FS A g4 g5 m c) (JG g4 42 wS [1, 3, 4, 5] (FHm mk inn) 3 (bv FS)) (by kernel_rfl) (by kernel_rfl) (by kernel_rfl) (by kernel_rfl) (by kernel_rfl) (JG.start _) ?obs ?he
  case obs =>
    refine ⟨?_, ?_, ?_, ?_, ?_, ?_, trivial⟩
    · exact .inl ⟨by kernel_rfl, fun L a1 w1 n h => ⟨_, rfl, run_move (.tmp 0) rfl (h.var n 0 (by kernel_rfl))⟩⟩
    · refine .inr fun L a1 w1 n h K hK => ?_
      have no : L.getD 5 false = false := n.later (by kernel_rfl)
      have hK := JG.cont hK no rfl (by decide)
      have h := JG.down h no rfl
      have e0 : a1.eval (.tmp 12) = .slice A m c := h.dep n 0 12 (by kernel_rfl) rfl
      refine JF.call (FHm_mono mk inn) h hK 13 rfl 50 _ _ #[.slice A m c, .int .u8 92] rfl Tryz.call50 ?_ (HMk w1 (hT.later h.inv.1) (hx.later h.inv.1)) ?_
      · simp only [List.map_toArray, List.map_cons, List.map_nil, e0]; rfl
      · rintro e w3 h9
        obtain ⟨v9, rfl, f9, b9⟩ := SlF.of_ret h9
        exact ⟨_, rfl, trivial, f9, b9⟩
    · exact .inl ⟨by kernel_rfl, fun L a1 w1 n h => ⟨_, rfl, run_sliceAll 42 (.tmp 5) 32 5 g5 rfl Tryz.underlying42 Tryz.sizeOf5 (h.var n 5 (by kernel_rfl))⟩⟩
    · refine .inr fun L a1 w1 n h K hK => ?_
      have no : L.getD 5 false = false := n.later (by kernel_rfl)
      have hK := JG.cont hK no rfl (by decide)
      have h := JG.down h no rfl
      obtain ⟨A9, c9, v9, q9, _, _⟩ := JF.get h n 1 13 (by kernel_rfl) (by kernel_rfl) rfl
      have e1 : a1.eval (.tmp 14) = .slice (some ⟨g5, 0, none⟩) 32 32 := h.dep n 2 14 (by kernel_rfl) rfl
      refine st_build2R 32 (.tmp 13) (.tmp 14) rfl 25 isl (.slice none 0 0) _ _ Tryz.underlying32 hsi hsz0 hss rfl v9 e1 rfl rfl ?_
      intro g7 w3 r7 a7 l7 b7
      exact JF.few (FHm_mono mk inn) h hK 15 rfl _ trivial ⟨_, _, rfl, r7.bss2 (q9.later b7) ((Bs.row (r5.later h.inv.1) hil.out).later b7)⟩ b7
    · refine .inr fun L a1 w1 n h K hK => ?_
      have no : L.getD 5 false = false := n.later (by kernel_rfl)
      have hK := JG.cont hK no rfl (by decide)
      have h := JG.down h no rfl
      obtain ⟨A15, c15, v15, q15⟩ := JF.get h n 3 15 (by kernel_rfl) (by kernel_rfl) rfl
      have e0 : a1.eval (.tmp 15) = .slice A15 2 c15 := v15
      refine JF.call (FHm_mono mk inn) h hK 16 rfl 49 _ _ #[.slice A15 2 c15] rfl Tryz.call49 ?_ (HSm A15 c15 w1 (hT.later h.inv.1) q15) ?_
      · simp only [List.map_toArray, List.map_cons, List.map_nil, e0]
      · rintro e w3 ⟨rfl, b9⟩
        exact ⟨_, rfl, rfl, trivial, b9⟩
    · refine .inr fun L a1 w1 n h K hK => ?_
      have no : L.getD 5 false = false := n.not_yet
      have h0 := (h.inv.1 ((bits_at rfl).trans no)).1
      refine st_store_row 42 (.tmp 4) (.tmp 16) g4 42 _ (bv FS) rfl (h.var n 4 (by kernel_rfl)) (h.dep n 4 16 (by kernel_rfl) rfl) (r4.later h0) (zf.out) (lf.out) (bv_one _) ?_
      intro w3 r3 o3
      exact JG.store h hK no rfl trivial r3 o3
  case he =>
    intro V w9 hV hJ2
    obtain ⟨bu, r9⟩ := hJ2.2 rfl
    clear hV hJ2
    simp only [putOps, List.setIfInBounds_toArray, List.set_cons_succ, List.set_cons_zero]
    refine hK1 _ _ ?_
    go_wp2_with fail
    refine bodyPost_ret (v := .agg (bv FS).toArray) ?_ rfl ⟨rfl, ?_⟩
    · exact results_cell_row Tryz.results39 _ _ g4 42 _ (0, 0) _ rfl r9 Tryz.underlying42 rfl zf.out
    · exact BS.trans (bu.below p4 BS.size)
end Go.Proofs.YtooooncmjhcdbaaGreatDoor.Sm

/-
  A list of three that is built. Plain theorems over whatever program. Own work.
-/
namespace Go.Proofs.YtooooncmjhcdbaaGreatDoor.Sm
open Go.Proofs.YtooooncmjhcdbaaGreatDoor
open Go.RowKit
theorem st_build3R {P : Program} {o : Oper} {a : Act} {w : World} {K : Act → World → Prop} {Q : Exit → Act → World → Prop} (t : TypeId) (x y x3 : Operand) (ho : o.op = .buildSlice t 3 #[(0, x), (1, y), (2, x3)]) (e : TypeId) (i : TypeInfo) (z u v u3 : Value) (ht : P.underlying t = some (.slice e)) (hi : P.info? e = some i) (hz : i.zero = some z) (hsz : i.size = 1) (hzc : z.cells = #[z]) (hx : a.eval x = u) (hy : a.eval y = v) (hx3 : a.eval x3 = u3) (hu : u.cells = #[u]) (hv : v.cells = #[v]) (hu3 : u3.cells = #[u3])
    (hk : ∀ g w', Row w' e g [u, v, u3] → w.heap.size ≤ g → g < w'.heap.size → Below w.heap.size w w' → K (a.put o.dst (.slice (some ⟨g, 0, none⟩) 3 3)) w') : o.wp P a w K Q := by
  have hr : (Array.range 3) = #[0, 1, 2] := rfl
  have hzz : ∀ w, (zeroValue e).run P w = .ok z w := fun w => by simp [zeroValue, typeInfo, hi, hz]
  have hss : ∀ w, (sizeOf e).run P w = .ok 1 w := fun w => by simp [sizeOf, typeInfo, hi, hsz]
  have hrun : (Instr.buildSlice t 3 #[(0, u), (1, v), (2, u3)]).run P w = .ok (.slice (some ⟨w.heap.size, 0, none⟩) 3 3) (w.alloc (.cells #[u, v, u3] e)) := by
    simp [Instr.buildSlice, run_underlying ht, hss, hzz, hr, hzc, Instr.fill, hu, hv, hu3, newRow]
  unfold Oper.wp execOp
  simp only [ho, List.map_toArray, List.map_cons, List.map_nil, hx, hy, hx3, hrun, Sem.run_bind, Result.andThen_ok, Sem.run_pure]
  exact hk _ _ (by unfold Row; exact heap_alloc_new _ _) (Nat.le_refl _) (by simp) ((Below.refl _ _).alloc (Nat.le_refl _) _)
theorem wl_build3 {P : Program} {ops : Array Oper} {rest : List Oper} {o : Oper} {a : Act} {w : World} {Q : Exit → Act → World → Prop} (hgd : o.guard = none) (t : TypeId) (x y x3 : Operand) (ho : o.op = .buildSlice t 3 #[(0, x), (1, y), (2, x3)]) (e : TypeId) (i : TypeInfo) (z u v u3 : Value) (ht : P.underlying t = some (.slice e)) (hi : P.info? e = some i) (hz : i.zero = some z) (hsz : i.size = 1) (hzc : z.cells = #[z]) (hx : a.eval x = u) (hy : a.eval y = v) (hx3 : a.eval x3 = u3) (hu : u.cells = #[u]) (hv : v.cells = #[v]) (hu3 : u3.cells = #[u3])
    (hk : ∀ g w', Row w' e g [u, v, u3] → w.heap.size ≤ g → g < w'.heap.size → Below w.heap.size w w' → wpList P ops Q rest (a.put o.dst (.slice (some ⟨g, 0, none⟩) 3 3)) w') : wpList P ops Q (o :: rest) a w :=
  wpList_plain hgd fun K hK => st_build3R t x y x3 ho e i z u v u3 ht hi hz hsz hzc hx hy hx3 hu hv hu3 fun g w' h1 h2 h3 h4 => hK _ _ (hk g w' h1 h2 h3 h4)
end Go.Proofs.YtooooncmjhcdbaaGreatDoor.Sm

/-
  HMAC and HKDF: the program's calls: contracts. Own work.
-/
namespace Go.Proofs.YtooooncmjhcdbaaGreatDoor.Sm
open Go.Proofs.YtooooncmjhcdbaaGreatDoor
open Go.RowKit
theorem _root_.Go.Proofs.YtooooncmjhcdbaaGreatDoor.Row.kept {w w' : World} {t g : Nat} {vs : List Value} {row : Option Nat} (h : Row w t g vs) (hg : w.grownBy w' row) (hne : some g ≠ row) : Row w' t g vs := (hg.block g h.lt hne).trans h
set_option maxRecDepth 100000 in
set_option maxHeartbeats 1000000 in
theorem hm_any (ks ts : List Int) (A B : Option Addr) (m c n d : Nat) (w : World) (hT : Tabs w) (hx : Bs w w.heap.size A m ks) (hkb : IsBy ks) (hc : m ≤ c) (hM : m ≤ 100000000) (ht : Bs w w.heap.size B n ts) (htb : IsBy ts) (hN : n ≤ 10000000) :
    Calls Tryz.prog 136 #[.slice A m c, .slice B n d] w fun e w' => e = .returned (.agg (bv (hmacS ks ts)).toArray) ∧ Below w.heap.size w w' := by
  obtain ⟨isl, hsi, hsz0, hss⟩ := sl_info
  have hsl := hmacS_len ks ts
  have zf := hide (size32b hsl)
  have lf := hide (show (bv (List.replicate 32 0)).length = (bv (hmacS ks ts)).length by rw [bv_len, bv_len, hsl, List.length_replicate])
  have htl := ht.1
  have HH := fun w C hT hx hl => hmac_any ks [ts] A C m c 1 1 w hT hx hkb hc hM hl (by simpa using htb) (by decide) (by simp; omega)
  rw [show [ts].flatten = ts by simp] at HH
  clear hsl htl
  generalize hmacS ks ts = FS at *
  go_enter Tryz.func136, Tryz.ntmps136
  go_wp2_with (first
    | (with_reducible refine wl_alloc rfl 42 _ (bv (List.replicate 32 0)) rfl zero32b rfl ?_; intro g4 w2 r4 p4 l4 b2)
    | (with_reducible refine wl_build1 rfl 32 (.tmp 6) rfl 25 isl (.slice none 0 0) (.slice B n d) Tryz.underlying32 hsi hsz0 hss rfl rfl rfl ?_; intro g8 w3 r8 p8 l8 b3))
  have B3 := b2.trans (b3.mono b2.size)
  have hbs := r8.bss1 ((ht.later b2).later b3)
  have r4b := r4.later b3
  clear r8 r4
  refine (HH w3 _ (hT.later B3) (hx.later B3) hbs).mono ?_
  rintro e w4 ⟨rfl, b4⟩
  have B4 := B3.trans (b4.mono B3.size)
  have r4c := r4b.later b4
  go_wp2_with (first
    | (with_reducible refine wl_store_row rfl 42 (.tmp 4) (.tmp 8) g4 42 _ (bv FS) rfl rfl rfl r4c zf.out lf.out (bv_one _) ?_; intro w8 r9 o8))
  refine bodyPost_ret (v := .agg (bv FS).toArray) ?_ rfl ⟨rfl, ?_⟩
  · exact results_cell_row Tryz.results136 _ _ g4 42 _ (0, 0) _ rfl r9 Tryz.underlying42 rfl zf.out
  · exact B4.trans (o8.below p4)
set_option maxRecDepth 100000 in
set_option maxHeartbeats 1000000 in
theorem extract_any (ks ts : List Int) (A B : Option Addr) (m c n d : Nat) (w : World) (hT : Tabs w) (hx : Bs w w.heap.size A m ks) (hkb : IsBy ks) (hc : m ≤ c) (hM : m ≤ 100000000) (ht : Bs w w.heap.size B n ts) (htb : IsBy ts) (hN : n ≤ 10000000) :
    Calls Tryz.prog 27 #[.slice A m c, .slice B n d] w fun e w' => e = .returned (.agg (bv (hmacS ks ts)).toArray) ∧ Below w.heap.size w w' := by
  obtain ⟨isl, hsi, hsz0, hss⟩ := sl_info
  have hsl := hmacS_len ks ts
  have zf := hide (size32b hsl)
  have lf := hide (show (bv (List.replicate 32 0)).length = (bv (hmacS ks ts)).length by rw [bv_len, bv_len, hsl, List.length_replicate])
  have htl := ht.1
  have HH := fun w C hT hx hl => hmac_any ks [ts] A C m c 1 1 w hT hx hkb hc hM hl (by simpa using htb) (by decide) (by simp; omega)
  rw [show [ts].flatten = ts by simp] at HH
  clear hsl htl
  generalize hmacS ks ts = FS at *
  go_enter Tryz.func27, Tryz.ntmps27
  go_wp2_with (first
    | (with_reducible refine wl_alloc rfl 42 _ (bv (List.replicate 32 0)) rfl zero32b rfl ?_; intro g4 w2 r4 p4 l4 b2)
    | (with_reducible refine wl_build1 rfl 32 (.tmp 6) rfl 25 isl (.slice none 0 0) (.slice B n d) Tryz.underlying32 hsi hsz0 hss rfl rfl rfl ?_; intro g8 w3 r8 p8 l8 b3))
  have B3 := b2.trans (b3.mono b2.size)
  have hbs := r8.bss1 ((ht.later b2).later b3)
  have r4b := r4.later b3
  clear r8 r4
  refine (HH w3 _ (hT.later B3) (hx.later B3) hbs).mono ?_
  rintro e w4 ⟨rfl, b4⟩
  have B4 := B3.trans (b4.mono B3.size)
  have r4c := r4b.later b4
  go_wp2_with (first
    | (with_reducible refine wl_store_row rfl 42 (.tmp 4) (.tmp 8) g4 42 _ (bv FS) rfl rfl rfl r4c zf.out lf.out (bv_one _) ?_; intro w8 r9 o8))
  refine bodyPost_ret (v := .agg (bv FS).toArray) ?_ rfl ⟨rfl, ?_⟩
  · exact results_cell_row Tryz.results27 _ _ g4 42 _ (0, 0) _ rfl r9 Tryz.underlying42 rfl zf.out
  · exact B4.trans (o8.below p4)

/-! ### So many bytes by a key -/
def expT (ks is : List Int) : Nat → List Int
  | 0 => []
  | q + 1 => hmacS ks (expT ks is q ++ (is ++ [((q + 1 : Nat) : Int)]))
def expA (ks is : List Int) : Nat → List Int
  | 0 => []
  | q + 1 => expA ks is q ++ expT ks is (q + 1)
theorem expT_len (ks is : List Int) (q : Nat) : (expT ks is (q + 1)).length = 32 := hmacS_len _ _
theorem expA_len (ks is : List Int) (q : Nat) : (expA ks is q).length = 32 * q := by
  induction q with
  | zero => rfl
  | succ q ih => unfold expA; rw [List.length_append, ih, expT_len]; omega
theorem expT_le (ks is : List Int) (q : Nat) : (expT ks is q).length ≤ 32 := by
  cases q with
  | zero => exact Nat.zero_le _
  | succ q => rw [expT_len]; exact Nat.le_refl _
theorem expT_by (ks is : List Int) (q : Nat) : IsBy (expT ks is q) := by
  cases q with
  | zero => exact fun _ h => by cases h
  | succ q => exact hmacS_by _ _
theorem expA_by (ks is : List Int) (q : Nat) : IsBy (expA ks is q) := by
  induction q with
  | zero => exact fun _ h => by cases h
  | succ q ih => exact ih.app (expT_by _ _ _)
/-- How many sums there are for n bytes. -/
def expQ (n : Nat) : Nat := (n + 31) / 32
/-- So many bytes. -/
def expL (ks is : List Int) (n : Nat) : List Int := (expA ks is (expQ n)).take n
theorem expL_len (ks is : List Int) (n : Nat) : (expL ks is n).length = n := by unfold expL expQ; rw [List.length_take, expA_len]; omega
theorem expA_take {ks is : List Int} {q n : Nat} (h : n ≤ 32 * q) : (expA ks is (q + 1)).take n = (expA ks is q).take n := by
  show (expA ks is q ++ _).take n = _
  rw [List.take_append_of_le_length (by rw [expA_len]; exact h)]
theorem expA_more {ks is : List Int} {q n : Nat} (h : n ≤ 32 * q) (k : Nat) : (expA ks is (q + k)).take n = (expA ks is q).take n := by
  induction k with
  | zero => rfl
  | succ k ih => rw [← Nat.add_assoc, expA_take (by omega), ih]
theorem expA_step {ks is : List Int} {q n : Nat} (h : 32 * q < n) : (expA ks is q).take n ++ (expT ks is (q + 1)).take (min 32 (n - 32 * q)) = (expA ks is (q + 1)).take n := by
  show _ = (expA ks is q ++ expT ks is (q + 1)).take n
  rw [List.take_append, expA_len]
  congr 1
  by_cases h32 : 32 ≤ n - 32 * q
  · rw [Nat.min_eq_left h32, List.take_of_length_le (by rw [expT_len]; exact Nat.le_refl _), List.take_of_length_le (by rw [expT_len]; exact h32)]
  · rw [Nat.min_eq_right (by omega)]
end Go.Proofs.YtooooncmjhcdbaaGreatDoor.Sm

/-
  HKDF: Expand: contract. Own work.
-/
namespace Go.Proofs.YtooooncmjhcdbaaGreatDoor.Sm
open Go.Proofs.YtooooncmjhcdbaaGreatDoor
open Go.RowKit
theorem own_later {w w' : World} {base e n : Nat} {v : Value} {xs : List Value} (h : w.ownsRow base e 1 v n xs) (hb : Below w.heap.size w w') : w'.ownsRow base e 1 v n xs := by
  refine ⟨h.1, ?_⟩
  rcases h.2 with h2 | ⟨g, cap, cur, hv, hg, hh, r⟩
  · exact .inl h2
  · exact .inr ⟨g, cap, cur, hv, hg, (hb.block g (Array.getElem?_eq_some_iff.1 hh).1).trans hh, r⟩
/-- Bytes that a call made, and that all went well. -/
def RetOk (out : List Int) (n : Nat) (w : World) (e : Ending) (w' : World) : Prop :=
  ∃ A c, e = .returned (.tuple #[.slice A n c, .bool true]) ∧ Bs w' w'.heap.size A n out ∧ n ≤ c ∧ c ≤ maxLen ∧ Below w.heap.size w w'
set_option maxRecDepth 100000 in
set_option maxHeartbeats 1000000 in
theorem expand_no (x : Int) (A B : Option Addr) (m c n d : Nat) (w : World) (h0 : -9223372036854775808 ≤ x) (h1 : x ≤ 9223372036854775807) (hx : x < 0 ∨ 8160 < x) :
    Calls Tryz.prog 28 #[.slice A m c, .slice B n d, .int .i64 x] w fun e w' => e = .returned (.tuple #[.slice none 0 0, .bool false]) ∧ w = w' := by
  rcases hx with hx | hx
  · have hd : decide (x < 0) = true := by simp; omega
    go_enter Tryz.func28, Tryz.ntmps28
    go_wp2
    go_ret2
    exact ⟨rfl, rfl⟩
  · have hd : decide (x < 0) = false := by simp; omega
    have hd2 : decide (8160 < x) = true := by simp; omega
    go_enter Tryz.func28, Tryz.ntmps28
    go_wp2
    go_ret2
    exact ⟨rfl, rfl⟩
set_option maxRecDepth 100000 in
set_option maxHeartbeats 4000000 in
theorem expand_any (ks is : List Int) (N : Nat) (A B : Option Addr) (m c n d : Nat) (w : World) (hT : Tabs w) (hx : Bs w w.heap.size A m ks) (hkb : IsBy ks) (hc : m ≤ c) (hM : m ≤ 100000000) (ht : Bs w w.heap.size B n is) (htb : IsBy is) (hnd : n ≤ d) (hN : n ≤ 1000000) (hq : N ≤ 8160) :
    Calls Tryz.prog 28 #[.slice A m c, .slice B n d, .int .i64 (N : Int)] w (RetOk (expL ks is N) N w) := by
  obtain ⟨i0, hi, hz, hsz, hby⟩ := u8_info
  obtain ⟨isl, hsi, hsz0, hss⟩ := sl_info
  have htl := ht.1
  have hd1 : decide ((N : Int) < 0) = false := by simp
  have hd2 : decide ((8160 : Int) < (N : Int)) = false := by simp; omega
  have HFin := hide (show ∀ q, N ≤ 32 * q → (expA ks is q).take N = expL ks is N from fun q h => by
    unfold expL
    rcases Nat.le_total (expQ N) q with hle | hle
    · obtain ⟨k, rfl⟩ := Nat.exists_eq_add_of_le hle
      exact expA_more (by unfold expQ; omega) k
    · obtain ⟨k, hk⟩ := Nat.exists_eq_add_of_le hle
      rw [hk]
      exact (expA_more h k).symm)
  go_enter Tryz.func28, Tryz.ntmps28
  go_wp2_with (refine wpList_make0_bs rfl _ _ _ rfl 5 i0 Tryz.underlying25 hi hz hsz hby N rfl rfl (by omega) ?_; intro w1 hown1 hb1)
  clear hd1 hd2
  go_loopw [8, 9, 10] (fun ov lv iv wr => ∃ (q L : Nat) (A' : Option Addr) (n' c' : Nat), q ≤ 255 ∧ Hid (L = min (32 * q) N) ∧ iv = .int .u8 (((q + 1) % 256 : Nat) : Int) ∧ wr.ownsRow w.heap.size 5 1 ov L (bv ((expA ks is q).take N)) ∧ lv = .slice A' n' c' ∧ Bs wr wr.heap.size A' n' (expT ks is q) ∧ n' ≤ c' ∧ Below w.heap.size w wr) (fun ov _ _ _ => N - (match ov with | .slice _ n _ => n | _ => 0))
  case atStart => exact ⟨0, 0, none, 0, 0, Nat.zero_le _, hide (by simp), rfl, by simpa [expA, bv] using hown1, rfl, Bs.nil_, Nat.le_refl _, hb1⟩
  case round =>
    clear hown1 hb1
    obtain ⟨q, L, A', n', c', hq1, HL, rfl, hown, rfl, hlast, hnc, br⟩ := hrel
    obtain ⟨Ao, co, rfl, hob, hoc1, hoc2⟩ := ownsRow_bs hown
    by_cases hlt : 32 * q < N
    · have hL : L = 32 * q := by have := HL.out; omega
      have hLN : L < N := by omega
      have hd1 : decide (L < N) = true := by simp; omega
      have hq255 : q < 255 := by omega
      have hqm : (((q + 1) % 256 : Nat) : Int) = ((q + 1 : Nat) : Int) := by omega
      obtain ⟨k, hk⟩ : ∃ k, k = min 32 (N - 32 * q) := ⟨_, rfl⟩
      have hk32 : k ≤ 32 := by omega
      have hkp : 0 < k := by omega
      have hkI : (if (N : Int) - (L : Int) < 32 then (N : Int) - (L : Int) else 32) = (k : Int) := by split <;> omega
      have hstep := expA_step (ks := ks) (is := is) (q := q) hlt
      rw [← hk] at hstep
      have hLk : L + k = min (32 * (q + 1)) N := by omega
      have hnl : n' ≤ 32 := by have := hlast.1; have := expT_le ks is q; omega
      have HKI := hide hkI; have HST := hide hstep; have HLK := hide hLk
      have hTl := hide (expT_len ks is q)
      have hTd : expT ks is (q + 1) = hmacS ks (expT ks is q ++ (is ++ [((q + 1 : Nat) : Int)])) := rfl
      have HTD := hide hTd
      have htb' := expT_by ks is q
      have HH := fun w C hT hx hl => hmac_any ks [expT ks is q, is, [((q + 1 : Nat) : Int)]] A C m c 3 3 w hT hx hkb hc hM hl (by
        simp only [List.flatten_cons, List.flatten_nil, List.append_nil]
        exact htb'.app (htb.app (fun x hx => by simp at hx; subst hx; omega))) (by decide) (by
        simp only [List.flatten_cons, List.flatten_nil, List.append_nil, List.length_append, List.length_cons, List.length_nil]
        have := expT_le ks is q
        omega)
      rw [show [expT ks is q, is, [((q + 1 : Nat) : Int)]].flatten = expT ks is q ++ (is ++ [((q + 1 : Nat) : Int)]) by simp, ← hTd] at HH
      have zf := hide (size32b hTl.out)
      have lf := hide (show (bv (List.replicate 32 0)).length = (bv (expT ks is (q + 1))).length by rw [bv_len, bv_len, hTl.out, List.length_replicate])
      have HX := hide (show ∀ xs, (expA ks is (q + 1)).take N = xs → xs = (expA ks is (q + 1)).take N from fun _ h => h.symm)
      have hS1 := fun w A => run_sliceTo (P := Tryz.prog) w 25 5 1 Tryz.underlying25 Tryz.sizeOf5 A 32 32 .i64 (k : Int) k rfl hk32
      have hqm2 : ((q + 1 : Nat) : Int) < 256 := by omega
      have hqm0 : (0 : Int) ≤ ((q + 1 : Nat) : Int) := by omega
      have hnx : (((q + 1 : Nat) : Int) + 1) % 256 = (((q + 1 + 1) % 256 : Nat) : Int) := by omega
      have HNX := hide hnx
      rw [hqm]
      have HIV := hide (show ∀ x : Int, x = ((q + 1 : Nat) : Int) → x = ((q + 1 : Nat) : Int) from fun _ h => h)
      have hkm : 32 * q + k ≤ N := by omega
      clear hL hqm hkI hstep hLk hTd hnx HIV HX hob hk
      generalize hT1 : expT ks is (q + 1) = T1 at *
      have HT1 := hide hT1
      clear hT1
      generalize hiv : ((q + 1 : Nat) : Int) = iv at *
      clear hiv
      generalize (expA ks is q).take N = X0 at *
      generalize hX1 : (expA ks is (q + 1)).take N = X1 at *
      have HX1 := hide hX1
      clear hX1
      generalize expT ks is q = T0 at *
      go_wp2_with (first
        | (with_reducible refine wl_build1 rfl 25 (.tmp 29) rfl 5 i0 (.int .u8 0) (.int .u8 iv) Tryz.underlying25 hi hz hsz rfl rfl rfl ?_; intro g3 w3 r3 p3 l3 b3)
        | (with_reducible refine wl_build3 rfl 32 (.tmp 27) (.tmp 28) (.tmp 30) rfl 25 isl (.slice none 0 0) _ _ _ Tryz.underlying32 hsi hsz0 hss rfl rfl rfl rfl rfl rfl rfl ?_; intro g4 w4 r4 p4 l4 b4))
      have B3 := br.trans (b3.mono br.size)
      have B4 := B3.trans (b4.mono B3.size)
      have r3' : Row w3 5 g3 (bv [iv]) := r3
      have hbs := r4.bss3 ((hlast.later b3).later b4) ((ht.later B3).later b4) ((Bs.row r3' rfl).later b4)
      have own4 := own_later (own_later hown b3) b4
      clear r3 r3' r4 hlast hown
      refine (HH w4 _ (hT.later B4) (hx.later B4) hbs).mono ?_
      rintro e w5 ⟨rfl, b5⟩
      have B5 := B4.trans (b5.mono B4.size)
      have own5 := own_later own4 b5
      have hkI := HKI.out
      clear HH hbs own4 b3 b4 b5
      go_wp2_with (first
        | (with_reducible refine wl_alloc rfl 42 _ (bv (List.replicate 32 0)) rfl zero32b rfl ?_; intro g11 w6 r6 p6 l6 b6)
        | (with_reducible refine wl_store_row rfl 42 (.tmp 11) (.tmp 32) g11 42 _ (bv T1) rfl rfl rfl r6 zf.out lf.out (bv_one _) ?_; intro w7 r7 o7; have b57 := b6.trans (o7.below p6); have own7 := own_later own5 b57; have h11 := (Bs.row r7 hTl.out).take hk32)
        | (at_builtin; refine wpList_append_bs rfl (.tmp 34) (.tmp 43) _ rfl w.heap.size 5 i0 Tryz.underlying25 hi hz hsz hby _ L _ rfl own7 w7.heap.size (some ⟨g11, 0, none⟩) k 32 (T1.take k) rfl h11 (by omega) (by have := B5.size; have := b57.size; omega) ?_; intro v8 w8 own8 gr8))
      have s57 := b57.size
      have B7 := B5.trans (b57.mono B5.size)
      have B8 : Below w.heap.size w w8 := B7.grown gr8 B7.size (fun j hj => (own7.lt j hj).1)
      have hne : some g11 ≠ (Value.slice Ao L co).ownBlock := by
        intro he
        have := (own5.lt g11 he.symm).2
        omega
      have r8 := r7.kept gr8 hne
      rw [HST.out] at own8
      obtain ⟨A8, c8, rfl, h8, hc8, hm8⟩ := ownsRow_bs own8
      clear own5 own7 gr8 b57 r6 r7 h11 o7 b6 hkI
      go_wp2_with fail
      refine ⟨⟨q + 1, L + k, _, 32, 32, by omega, hide HLK.out, by rw [HNX.out], by rw [HX1.out]; exact own8, rfl, by rw [HT1.out]; exact Bs.row r8 hTl.out, Nat.le_refl _, B8⟩, show N - (L + k) < N - L by omega⟩
    · have hd1 : decide (L < N) = false := by have := HL.out; simp; omega
      have hfin := HFin.out q (by omega)
      have hLN : L = N := by have := HL.out; omega
      have hres : RetOk (expL ks is N) N w (.returned (.tuple #[.slice Ao L co, .bool true])) wr := by
        rw [hfin] at hob
        exact ⟨Ao, co, by rw [hLN], (show Bs wr wr.heap.size Ao N (expL ks is N) from hLN ▸ hob), by omega, hoc2, br⟩
      have HR := hide hres
      clear hown hob hlast hfin hres hLN HFin
      go_wp2_with fail
      go_ret2
      exact HR.out
end Go.Proofs.YtooooncmjhcdbaaGreatDoor.Sm

/-
  Two rows of a call's own that are appended to side by side: one byte more, and where the row lies then. Plain theorems over whatever program. Own work.
-/
namespace Go.Proofs.YtooooncmjhcdbaaGreatDoor.Sm
open Go.Proofs.YtooooncmjhcdbaaGreatDoor
open Go.RowKit
/-- A row lies where it lay, or in new memory. -/
def NewOr (w : World) (v v' : Value) : Prop := v'.ownBlock = v.ownBlock ∨ ∀ k, v'.ownBlock = some k → w.heap.size ≤ k
/-- Two rows that share no block. -/
def Apart (v1 v2 : Value) : Prop := ∀ k, v1.ownBlock = some k → v2.ownBlock ≠ some k
theorem Apart.symm {v1 v2 : Value} (h : Apart v1 v2) : Apart v2 v1 := fun k h1 h2 => h k h2 h1
theorem Apart.nil (v : Value) : Apart (.slice none 0 0) v := fun k h => by cases h
theorem Apart.moved {w : World} {v1 v1' v2 : Value} {base e n : Nat} {xs : List Value} (h : Apart v1 v2) (hn : NewOr w v1 v1') (h2 : w.ownsRow base e 1 v2 n xs) : Apart v1' v2 := by
  intro k hk he
  rcases hn with hn | hn
  · exact h k (by rw [← hn]; exact hk) he
  · have := hn k hk
    have := (h2.lt k he).2
    omega
theorem Apart.kept {w w' : World} {v1 v2 : Value} {base e n : Nat} {xs : List Value} (h : Apart v1 v2) (hg : w.grownBy w' v1.ownBlock) (h2 : w.ownsRow base e 1 v2 n xs) : w'.ownsRow base e 1 v2 n xs := by
  refine h2.kept hg ?_
  cases hv : v2.ownBlock with
  | none => exact .inl rfl
  | some k => exact .inr fun he => h k he.symm hv
section
variable {P : Program} {w : World}
theorem run_append1 (base : Nat) (t ty e : TypeId) (i : TypeInfo) (ht : P.underlying t = some (.slice e)) (hi : P.info? e = some i) (hz : i.zero = some (.int .u8 0)) (hsz : i.size = 1) (hby : i.bytes = 1)
    (v : Value) (n : Nat) (xs : List Int) (hown : w.ownsRow base e 1 v n (bv xs)) (g c t' : Nat) (x : Int) (hr : Row w t' g [.int .u8 x]) (hlen : n ≤ 100000000) (hbase : base ≤ w.heap.size) :
    ∃ v' w', (Builtin.append_ #[t, t] ty #[v, .slice (some ⟨g, 0, none⟩) 1 c]).run P w = .ok v' w' ∧ w'.ownsRow base e 1 v' (n + 1) (bv (xs ++ [x])) ∧ w.grownBy w' v.ownBlock ∧ NewOr w v v' := by
  have hnews : ∀ j u, [Value.int .u8 x][j]? = some u → w.cell? ((⟨g, 0, none⟩ : Addr).add j) = some u := fun j u hu => by rw [addr_plain, Nat.zero_add]; exact hr.cell hu
  obtain ⟨v', w', hrun, h2, h3, _⟩ := run_append_own (P := P) w base t ty e i (.int .u8 0) 1 1 ht hi hz hsz hby rfl (by decide) v n (bv xs) hown ⟨g, 0, none⟩ 1 c [.int .u8 x] rfl hnews (one_int _ _) (by simp only [maxLen]; omega) (by omega) hbase
  refine ⟨v', w', hrun, by rw [show bv (xs ++ [x]) = bv xs ++ [Value.int .u8 x] by simp [bv]]; exact h2, h3, ?_⟩
  rcases hown.2 with ⟨rfl, rfl⟩ | ⟨g', cap, cur, rfl, hbg, hg, hnc, hcm, hcs, htake⟩
  · have q := run_append_nil (P := P) w t ty e i (.int .u8 0) ht hi hz ⟨g, 0, none⟩ 1 c [.int .u8 x] (by rw [hsz]; rfl) hnews (by decide) (by decide) (by rw [hby]; decide)
    rw [hrun] at q
    injection q with q1 _
    subst q1
    refine .inr fun k hk => ?_
    simp [Value.ownBlock] at hk
    omega
  · by_cases hroom : n + 1 ≤ cap
    · have q := run_append_room (P := P) w t ty e i ht hi g' n cap cur hg ⟨g, 0, none⟩ 1 c [.int .u8 x] (by rw [hsz]; rfl) hnews (one_int _ _) hroom (by rw [hsz]; simp; omega)
      rw [hrun] at q
      injection q with q1 _
      subst q1
      exact .inl rfl
    · have q := run_append_grow (P := P) w t ty e i (.int .u8 0) ht hi hz ⟨g', 0, none⟩ n cap (bv xs) (by rw [hsz]; exact hown.1) (hown.cells (g := g') rfl) ⟨g, 0, none⟩ 1 c [.int .u8 x] (by rw [hsz]; rfl) hnews (by omega) (by omega) (growslice_fits (by omega) (by rw [hby]; omega))
      rw [hrun] at q
      injection q with q1 _
      subst q1
      refine .inr fun k hk => ?_
      simp [Value.ownBlock] at hk
      omega
theorem wl_append1 {ops : Array Oper} {rest : List Oper} {o : Oper} {a : Act} {Q : Exit → Act → World → Prop} (hgd : o.guard = none) (s x : Operand) (t : TypeId)
    (ho : o.op = .call { callee := .builtin .append, args := #[s, x], argTypes := #[t, t] })
    (base : Nat) (e : TypeId) (i : TypeInfo) (ht : P.underlying t = some (.slice e)) (hi : P.info? e = some i) (hz : i.zero = some (.int .u8 0)) (hsz : i.size = 1) (hby : i.bytes = 1)
    (v : Value) (n : Nat) (xs : List Int) (hs : a.eval s = v) (hown : w.ownsRow base e 1 v n (bv xs)) (g c t' : Nat) (y : Int) (hx : a.eval x = .slice (some ⟨g, 0, none⟩) 1 c) (hr : Row w t' g [.int .u8 y]) (hlen : n ≤ 100000000) (hbase : base ≤ w.heap.size)
    (h : ∀ v' w', w'.ownsRow base e 1 v' (n + 1) (bv (xs ++ [y])) → w.grownBy w' v.ownBlock → NewOr w v v' → wpList P ops Q rest (a.put o.dst v') w') : wpList P ops Q (o :: rest) a w := by
  refine wpList_plain hgd fun K hK => ?_
  obtain ⟨v', w', hrun, h2, h3, h4⟩ := run_append1 (P := P) base t o.type e i ht hi hz hsz hby v n xs hown g c t' y hr hlen hbase
  unfold Oper.wp execOp
  simp only [ho, resolve, invoke, builtin, Sem.run_bind, Sem.run_pure, Result.andThen_ok, List.map_toArray, List.map_cons, List.map_nil, hs, hx, hrun]
  exact hK _ _ (h v' w' h2 h3 h4)
end
end Go.Proofs.YtooooncmjhcdbaaGreatDoor.Sm

/-
  Keys: the program's key of a secret and a name: contract. Own work.
-/
namespace Go.Proofs.YtooooncmjhcdbaaGreatDoor.Sm
open Go.Proofs.YtooooncmjhcdbaaGreatDoor
open Go.RowKit
theorem idP_byk (ns : List Int) (k : Nat) : IsBy (idP ns k) := by
  induction k with
  | zero => exact fun _ h => by cases h
  | succ k ih =>
    intro x hx
    have hx' : x ∈ idP ns k ++ highB (max (ns.getD k 0) 0) 8 := hx
    rcases List.mem_append.1 hx' with h | h
    · exact ih x h
    · exact lowB_byte _ 8 x (by simpa [highB] using h)
def saltL : List Int := [105, 110, 116, 97, 103, 108, 105, 111]
theorem saltL_by : IsBy saltL := by
  intro x hx
  simp only [saltL, List.mem_cons, List.not_mem_nil, or_false] at hx
  omega
/-- The key of a secret and a name's bytes. -/
def drvL (ss X : List Int) : List Int := expL (hmacS saltL ss) X 32
theorem drvL_len (ss X : List Int) : (drvL ss X).length = 32 := expL_len _ _ _
theorem st_arrK {P : Program} {o : Oper} {a : Act} {w : World} {K : Act → World → Prop} {Q : Exit → Act → World → Prop} (t : TypeId) (x : Operand) (ho : o.op = .sliceToArrayPointer t x) (n e : Nat) (ht : P.underlying t = some (.array n e)) (A : Option Addr) (m c : Nat) (hx : a.eval x = .slice A m c) (hm : n ≤ m)
    (hk : K (a.put o.dst (.pointer A)) w) : o.wp P a w K Q := by
  unfold Oper.wp execOp
  simp only [ho, hx]
  simp [Instr.arrayAt, run_underlying ht, show ¬ m < n by omega]
  exact hk
theorem wl_arr {P : Program} {ops : Array Oper} {rest : List Oper} {o : Oper} {a : Act} {w : World} {Q : Exit → Act → World → Prop} (hgd : o.guard = none) (t : TypeId) (x : Operand) (ho : o.op = .sliceToArrayPointer t x) (n e : Nat) (ht : P.underlying t = some (.array n e)) (A : Option Addr) (m c : Nat) (hx : a.eval x = .slice A m c) (hm : n ≤ m)
    (hk : wpList P ops Q rest (a.put o.dst (.pointer A)) w) : wpList P ops Q (o :: rest) a w :=
  wpList_plain hgd fun K hK => st_arrK t x ho n e ht A m c hx hm (hK _ _ hk)
theorem bs_cellsK {w : World} {B n : Nat} {b o : Nat} {xs : List Int} (h : Bs w B (some ⟨b, o, none⟩) n xs) : ∀ j v, (bv xs)[j]? = some v → w.cell? ⟨b, o + j, none⟩ = some v := by
  intro j v hv
  have := h.cells rfl j v hv
  rwa [addr_plain] at this
theorem bs_addr {w : World} {A : Option Addr} {xs : List Int} {n : Nat} (h : Bs w w.heap.size A n xs) (hn : 0 < n) : ∃ b o, A = some ⟨b, o, none⟩ ∧ ∀ j v, (bv xs)[j]? = some v → w.cell? ⟨b, o + j, none⟩ = some v := by
  obtain ⟨b, o, e, _⟩ := h.2 hn
  subst e
  exact ⟨b, o, rfl, bs_cellsK h⟩
def FDp (X E : List Int) (opn : Nat) (v : Value) (w : World) : Prop :=
  match opn with
  | 2 => SlF X v w
  | 3 => PrF (.bool true) E v w
  | 4 => PrF (.bool true) E v w
  | 5 => SlF E v w
  | 6 => IsF (.bool true) v w
  | 7 => SlF E v w
  | 8 => IsF (.bool true) v w
  | _ => True
theorem FDp_mono (X E : List Int) : ∀ j v w w', FDp X E j v w → Below w.heap.size w w' → FDp X E j v w' := by
  intro j v w w' h hb
  unfold FDp at h ⊢
  split at h
  · exact h.later hb
  · exact h.later hb
  · exact h.later hb
  · exact h.later hb
  · exact h.later hb
  · exact h.later hb
  · exact h.later hb
  · trivial

def SDp (xs : List Int) (g3 g6 : Nat) (opn : Nat) (v : Value) : Prop :=
  match opn with
  | 0 => v = .slice (some ⟨g6, 0, none⟩) 32 32
  | 1 => v = .agg (vk .i64 xs).toArray
  | _ => True

set_option maxRecDepth 100000 in
set_option maxHeartbeats 4000000 in
theorem derive_any (ss : List Int) (A : Option Addr) (m cc : Nat) (a b c d e f : Int) (w : World) (hTK : TabK w) (hT : Tabs w) (hs : Bs w w.heap.size A m ss) (hsb : IsBy ss) (hm : m ≤ 1000000) (hok : okB a b c d e f = true) :
    Calls Tryz.prog 17 #[.slice A m cc, .agg (vk .i64 [a, b, c, d, e, f]).toArray] w fun en w' => en = .returned (.tuple #[.agg (bv (drvL ss (idP [a, b, c, d, e, f] 6))).toArray, .bool true]) ∧ Below w.heap.size w w' := by
  have zX := hide (sizeId (xs := [a, b, c, d, e, f]) rfl)
  have hV := valid_any a b c d e f
  rw [hok] at hV
  have hB := fun w h => bytes_yes a b c d e f w h hok
  have hX := fun A1 n c1 w hT h1 hc hM hs => extract_any saltL ss A1 A n c1 m cc w hT h1 saltL_by hc hM hs hsb (by omega)
  obtain ⟨E, hEd⟩ : ∃ E, E = drvL ss (idP [a, b, c, d, e, f] 6) := ⟨_, rfl⟩
  rw [← hEd]
  have hEl := hide (show E.length = 32 by rw [hEd]; exact drvL_len _ _)
  have hXl := idP_len [a, b, c, d, e, f] 6
  have hXb := idP_byk [a, b, c, d, e, f] 6
  have hRl := hmacS_len saltL ss
  have hRb := hmacS_by saltL ss
  unfold drvL at hEd
  have hE0 := fun w gr A1 n c1 hT h1 h2 h3 => expand_any (hmacS saltL ss) (idP [a, b, c, d, e, f] 6) 32 (some ⟨gr, 0, none⟩) A1 32 32 n c1 w hT h1 hRb (Nat.le_refl _) (by decide) h2 hXb h3
  rw [← hEd] at hE0
  clear hEd hok
  generalize idP [a, b, c, d, e, f] 6 = X at *
  generalize hmacS saltL ss = RT at *
  generalize [a, b, c, d, e, f] = xs at *
  have zR := hide (size32b hRl)
  have zE := hide (size32b hEl.out)
  have lR := hide (show (bv zs32).length = (bv RT).length by rw [bv_len, bv_len, hRl, zs32_len])
  have lE := hide (show (bv zs32).length = (bv E).length by rw [bv_len, bv_len, hEl.out, zs32_len])
  have zz := zero32z
  have hRL := hide hRl
  clear hRl
  generalize zs32 = Z at *
  have kc := fun (w : World) (C : Array Value) (n c : Nat) => Lib.run_convert_bytes_const (P := Tryz.prog) w 25 5 C n c Tryz.underlying25 Tryz.underlying5
  go_enter Tryz.func17, Tryz.ntmps17
  go_wp2_with (first
    | (with_reducible refine wl_box (o := ⟨some 3, _, _, _, _, _⟩) rfl 24 (.tmp 1) _ (vk .i64 xs) rfl rfl rfl ?_; intro g3 w1 r3 p3 l3 b1)
    | (with_reducible refine wl_alloc (o := ⟨some 4, _, _, _, _, _⟩) rfl 42 _ (bv Z) rfl zz rfl ?_; intro g4 w2 r4 p4 l4 b2; have r3a := r3.later b2)
    | (with_reducible refine wl_load_row rfl 24 (.tmp 3) g3 24 (vk .i64 xs) _ rfl rfl r3a Tryz.underlying24 rfl zX.out ?_))
  have B2 := b1.trans (b2.mono b1.size)
  refine (hV w2 (hTK.later B2)).mono ?_
  rintro en w3 ⟨rfl, b3⟩
  have B3 := B2.trans (b3.mono B2.size)
  have q4 : w.heap.size ≤ g4 := Nat.le_trans b1.size p4
  have r3b := r3a.later b3
  have r4b := r4.later b3
  clear r3 r3a r4 b1 b2 b3 B2 hV
  go_wp2_with fail
  have hb := Bs.lit' w3 5 (8, 9) saltL #[.int .u8 105, .int .u8 110, .int .u8 116, .int .u8 97, .int .u8 103, .int .u8 108, .int .u8 105, .int .u8 111] 8 _ rfl rfl rfl
  have b4 : Below w3.heap.size w3 (w3.alloc (.cells #[.int .u8 105, .int .u8 110, .int .u8 116, .int .u8 97, .int .u8 103, .int .u8 108, .int .u8 105, .int .u8 111] 5 (8, 9))) := (Below.refl _ _).alloc (Nat.le_refl _) _
  have B4 := B3.trans (b4.mono B3.size)
  have r3c := r3b.later b4
  have r4c := r4b.later b4
  refine (hX _ 8 _ _ (hT.later B4) hb (Nat.le_refl _) (by decide) (hs.later B4)).mono ?_
  rintro en w5 ⟨rfl, b5⟩
  have B5 := B4.trans (b5.mono B4.size)
  have r3d := r3c.later b5
  have r4d := r4c.later b5
  clear r3b r4b r3c r4c b4 b5 B3 B4 hb hX kc
  go_wp2_with (first
    | (with_reducible refine wl_alloc (o := ⟨some 6, _, _, _, _, _⟩) rfl 42 _ (bv Z) rfl zz rfl ?_; intro g6 w6 r6 p6 l6 b6)
    | (with_reducible refine wl_store_row rfl 42 (.tmp 6) (.tmp 16) g6 42 _ (bv RT) rfl rfl rfl r6 zR.out lR.out (bv_one _) ?_; intro w7 r6a o7))
  rename_i Q1 K1 hK1
  have b67 := b6.trans (o7.below p6)
  have B7 := B5.trans (b67.mono B5.size)
  have r3 := r3d.later b67
  have r4 := r4d.later b67
  have hroot := Bs.row r6a hRL.out
  have hTK7 := hTK.later B7
  have hT7 := hT.later B7
  have hXn := hXl
  have hE : ∀ (w : World) A1 c1, Tabs w → Bs w w.heap.size (some ⟨g6, 0, none⟩) 32 RT → Bs w w.heap.size A1 X.length X → X.length ≤ c1 → Calls Tryz.prog 28 #[.slice (some ⟨g6, 0, none⟩) 32 32, .slice A1 X.length c1, .int .i64 32] w (RetOk E 32 w) := fun w A1 c1 h1 h2 h3 h4 => hE0 w g6 A1 X.length c1 h1 h2 h3 h4 (by omega) (by decide)
  clear hTK hT r3d r4d r6 b6 o7 b67 B5 hE0
  have hTK := hTK7
  have hT := hT7
  clear hTK7 hT7 hXn
  refine wp_region_vals [2, 3, 4, 5, 6, 7, 8] (SDp xs g3 g6) (JF w7 [2, 3, 4, 5, 6, 7, 8] (FDp X E)) (by kernel_rfl) (by kernel_rfl) (by kernel_rfl) (by kernel_rfl) (by kernel_rfl) (JF.start _) ?obs ?he
  case obs =>
    refine ⟨?_, ?_, ?_, ?_, ?_, ?_, ?_, ?_, ?_, trivial⟩
    · refine .inl ⟨by kernel_rfl, fun L a1 w1 n h => ⟨.slice (some ⟨g6, 0, none⟩) 32 32, rfl, ?_⟩⟩
      have e0 : a1.eval (.tmp 6) = _ := h.var n 6 (by kernel_rfl)
      unfold execOp
      simp only [e0]
      go_simp
    · exact .inl ⟨by kernel_rfl, fun L a1 w1 n h => ⟨_, rfl, run_loadRow 24 (.tmp 3) g3 24 _ _ rfl (h.var n 3 (by kernel_rfl)) (r3.later h.inv.1) Tryz.underlying24 rfl (zX.out)⟩⟩
    · refine .inr fun L a1 w1 n h K hK => ?_
      have e0 : a1.eval (.tmp 19) = .agg (vk .i64 xs).toArray := h.dep n 1 19 (by kernel_rfl) rfl
      refine JF.call (FDp_mono X E) h hK 20 rfl 29 _ _ #[.agg (vk .i64 xs).toArray] rfl Tryz.call29 ?_ (hB w1 (hTK.later h.inv.1)) ?_
      · simp only [List.map_toArray, List.map_cons, List.map_nil, e0]
      · rintro e w3 h9
        obtain ⟨v9, rfl, f9, b9⟩ := SlF.of_ret h9
        exact ⟨_, rfl, trivial, f9, b9⟩
    · refine .inr fun L a1 w1 n h K hK => ?_
      obtain ⟨A1, c1, v1, q1, l1, _⟩ := JF.get h n 2 20 (by kernel_rfl) (by kernel_rfl) rfl
      have e0 : a1.eval (.tmp 18) = .slice (some ⟨g6, 0, none⟩) 32 32 := h.dep n 0 18 (by kernel_rfl) rfl
      have e1 : a1.eval (.tmp 20) = .slice A1 X.length c1 := v1
      refine JF.call (FDp_mono X E) h hK 21 rfl 28 _ _ #[.slice (some ⟨g6, 0, none⟩) 32 32, .slice A1 X.length c1, .int .i64 32] rfl Tryz.call28 ?_ (hE w1 A1 c1 (hT.later h.inv.1) (hroot.later h.inv.1) q1 l1) ?_
      · simp only [List.map_toArray, List.map_cons, List.map_nil, e0, e1]; rfl
      · rintro e w3 ⟨A9, c9, rfl, h9, l9, m9, b9⟩
        exact ⟨_, rfl, trivial, ⟨A9, c9, by rw [hEl.out], by rw [hEl.out]; exact h9, by rw [hEl.out]; exact l9, m9⟩, b9⟩
    · refine .inr fun L a1 w1 n h K hK => ?_
      obtain ⟨A9, c9, v9, h9⟩ := JF.get h n 3 21 (by kernel_rfl) (by kernel_rfl) rfl
      exact JF.run (FDp_mono X E) h hK 17 rfl (.tuple #[.slice A9 E.length c9, .bool true]) (run_move (.tmp 21) rfl v9) trivial ⟨A9, c9, rfl, h9⟩
    · refine .inr fun L a1 w1 n h K hK => ?_
      obtain ⟨A9, c9, v9, h9⟩ := JF.get h n 4 17 (by kernel_rfl) (by kernel_rfl) rfl
      exact JF.run (FDp_mono X E) h hK 22 rfl (.slice A9 E.length c9) (run_extractA (v := .slice A9 E.length c9) (.tmp 17) 0 _ rfl v9 rfl) trivial ⟨A9, c9, rfl, h9⟩
    · refine .inr fun L a1 w1 n h K hK => ?_
      obtain ⟨A9, c9, v9, h9⟩ := JF.get h n 4 17 (by kernel_rfl) (by kernel_rfl) rfl
      exact JF.run (FDp_mono X E) h hK 23 rfl (.bool true) (run_extractA (v := .bool true) (.tmp 17) 1 _ rfl v9 rfl) trivial rfl
    · refine .inr fun L a1 w1 n h K hK => ?_
      obtain ⟨A9, c9, v9, h9⟩ := JF.get h n 5 22 (by kernel_rfl) (by kernel_rfl) rfl
      exact JF.run (FDp_mono X E) h hK 7 rfl (.slice A9 E.length c9) (run_assign (.tmp 22) rfl v9) trivial ⟨A9, c9, rfl, h9⟩
    · refine .inr fun L a1 w1 n h K hK => ?_
      obtain v9 := JF.get h n 6 23 (by kernel_rfl) (by kernel_rfl) rfl
      exact JF.run (FDp_mono X E) h hK 8 rfl (.bool true) (run_assign (.tmp 23) rfl v9) trivial rfl
  case he =>
    intro V w8 hV hJ
    obtain ⟨A9, c9, v9, h9, l9, m9⟩ := JF.last hJ 7 7 rfl rfl
    have i9 := JF.last hJ 8 8 rfl rfl
    have i9' : V 8 = .bool true := i9
    have hb8 := hJ.1
    clear hV hJ i9
    simp only [putOps, List.setIfInBounds_toArray, List.set_cons_succ, List.set_cons_zero]
    rw [v9, i9']
    refine hK1 _ _ ?_
    clear hK1 v9 i9' hE hroot
    have B8 := B7.trans (hb8.mono B7.size)
    have r4e := r4.later hb8
    rw [hEl.out] at h9 ⊢
    obtain ⟨b9, o9, rfl, k9⟩ := bs_addr h9 (by decide)
    clear r4 r3 h9 l9 m9 hb8 B7
    go_wp2_with (first
      | (with_reducible refine wl_arr rfl 42 (.tmp 24) rfl 32 5 Tryz.underlying42 _ 32 c9 rfl (Nat.le_refl _) ?_)
      | (with_reducible refine wl_load_cells rfl 42 (.tmp 25) b9 o9 (bv E) _ rfl rfl k9 Tryz.underlying42 rfl zE.out ?_)
      | (with_reducible refine wl_store_row rfl 42 (.tmp 4) (.tmp 26) g4 42 _ (bv E) rfl rfl rfl r4e zE.out lE.out (bv_one _) ?_; intro w13 r13 o13))
    refine bodyPost_ret (v := .tuple #[.agg (bv E).toArray, .bool true]) ?_ rfl ⟨rfl, ?_⟩
    · exact results_row_tmp Tryz.results17 _ _ g4 42 _ (0, 0) _ _ rfl r13 Tryz.underlying42 rfl zE.out rfl
    · exact B8.trans (o13.below q4)
set_option maxRecDepth 100000 in
set_option maxHeartbeats 2000000 in
theorem derive_no (A : Option Addr) (m cc : Nat) (a b c d e f : Int) (w : World) (hTK : TabK w) (hok : okB a b c d e f = false) :
    Calls Tryz.prog 17 #[.slice A m cc, .agg (vk .i64 [a, b, c, d, e, f]).toArray] w fun en w' => en = .returned (.tuple #[.agg (bv zs32).toArray, .bool false]) ∧ Below w.heap.size w w' := by
  have zX := hide (sizeId (xs := [a, b, c, d, e, f]) rfl)
  have hV := valid_any a b c d e f
  rw [hok] at hV
  have zE := hide (size32b zs32_len)
  have zz := zero32z
  have bz := bZ32
  clear hok
  generalize [a, b, c, d, e, f] = xs at *
  generalize zs32 = Z at *
  have lE := hide (And.intro (rfl : (bv Z).length = (bv Z).length) trivial)
  go_enter Tryz.func17, Tryz.ntmps17
  go_wp2_with (first
    | (with_reducible refine wl_box (o := ⟨some 3, _, _, _, _, _⟩) rfl 24 (.tmp 1) _ (vk .i64 xs) rfl rfl rfl ?_; intro g3 w1 r3 p3 l3 b1)
    | (with_reducible refine wl_alloc (o := ⟨some 4, _, _, _, _, _⟩) rfl 42 _ (bv Z) rfl zz rfl ?_; intro g4 w2 r4 p4 l4 b2; have r3a := r3.later b2)
    | (with_reducible refine wl_load_row rfl 24 (.tmp 3) g3 24 (vk .i64 xs) _ rfl rfl r3a Tryz.underlying24 rfl zX.out ?_))
  have B2 := b1.trans (b2.mono b1.size)
  refine (hV w2 (hTK.later B2)).mono ?_
  rintro en w3 ⟨rfl, b3⟩
  have B3 := B2.trans (b3.mono B2.size)
  have q4 : w.heap.size ≤ g4 := Nat.le_trans b1.size p4
  have r4b := r4.later b3
  clear r3 r3a r4 b1 b2 b3 B2 hV
  go_wp2_with (first
    | ((with_reducible refine wl_build rfl 42 [] rfl _ ?hv2 _ bz ?hk2); case hv2 => rfl)
    | (with_reducible refine wl_store_row rfl 42 (.tmp 4) (.tmp 12) g4 42 _ (bv Z) rfl rfl rfl r4b zE.out rfl (bv_one _) ?_; intro w13 r13 o13))
  refine bodyPost_ret (v := .tuple #[.agg (bv Z).toArray, .bool false]) ?_ rfl ⟨rfl, ?_⟩
  · exact results_row_tmp Tryz.results17 _ _ g4 42 _ (0, 0) _ _ rfl r13 Tryz.underlying42 rfl zE.out rfl
  · exact B3.trans (o13.below q4)
end Go.Proofs.YtooooncmjhcdbaaGreatDoor.Sm

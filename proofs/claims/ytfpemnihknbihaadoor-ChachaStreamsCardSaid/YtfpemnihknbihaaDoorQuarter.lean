/-
  The quarter round: a contract each. Own work.
-/
import Derived.Test.YtfpemnihknbihaaDoorRows
import Derived.WalkKit
import Derived.Lib.EndianBits
import Derived.Laws.BitsAllLaws
import Derived.Deep.QuietTactic
import Derived.BigQuiet
namespace Go.Proofs.YtfpemnihknbihaaDoor
open Go.RowKit
set_option linter.unusedVariables false
set_option linter.unusedSimpArgs false

theorem hideq {p : Prop} (h : p) : Hid p := h
def w32 (x : Int) : Prop := 0 ≤ x ∧ x < 4294967296
/-- Turned left: p is 2 to the places, q 2 to the others. -/
def rot (p q x : Int) : Int := bits .or .u32 (x * p % 4294967296) (x / q)

theorem below_drewn {B : Nat} {w w' : World} (h : Below B w w') (n : Nat) : Below B w (w'.drewN n) := ⟨h.os, h.tape, h.output, h.size, h.block⟩
theorem or_w32 {x y : Int} (hx : w32 x) (hy : w32 y) : w32 (bits .or .u32 x y) := by
  rw [u32_or x y hx.1 hx.2 hy.1 hy.2]
  have h1 := hx.1
  have h2 := hx.2
  have h3 := hy.1
  have h4 := hy.2
  have := Nat.or_lt_two_pow (x := x.toNat) (y := y.toNat) (n := 32) (by omega) (by omega)
  exact ⟨by omega, by omega⟩
theorem xor_w32 {x y : Int} (hx : w32 x) (hy : w32 y) : w32 (bits .xor .u32 x y) := by
  rw [u32_xor x y hx.1 hx.2 hy.1 hy.2]
  have h1 := hx.1
  have h2 := hx.2
  have h3 := hy.1
  have h4 := hy.2
  have := Nat.xor_lt_two_pow (x := x.toNat) (y := y.toNat) (n := 32) (by omega) (by omega)
  exact ⟨by omega, by omega⟩
theorem mod_w32 (x : Int) : w32 (x % 4294967296) := ⟨by omega, by omega⟩
theorem rot16_w32 {x : Int} (h : w32 x) : w32 (rot 65536 65536 x) := by
  have h1 := h.1
  have h2 := h.2
  exact or_w32 (mod_w32 _) ⟨by omega, by omega⟩
set_option maxHeartbeats 400000 in
theorem rotl16_any (x : Int) (w : World) (h : w32 x) : Calls Tryd.prog 53 #[.int .u32 x, .int .i64 16] w fun e w' => ∃ v, e = .returned (.int .u32 v) ∧ Hid (v = rot 65536 65536 x) ∧ w32 v ∧ w = w' := by
  have hw := rot16_w32 h
  obtain ⟨h0, h1⟩ := h
  have hb : bits .and .u64 16 31 = 16 := by decide +kernel
  go_enter Tryd.func53, Tryd.ntmps53
  go_wp2
  go_ret
  exact ⟨rot 65536 65536 x, rfl, rfl, hw, rfl⟩
theorem turn16_any (x : Int) (w : World) (h : w32 x) : Calls Tryd.prog 72 #[.int .u32 x, .int .i64 16] w fun e w' => ∃ v n, e = .returned (.int .u32 v) ∧ Hid (v = rot 65536 65536 x) ∧ w32 v ∧ w' = w.drewN n := by
  have hw := rot16_w32 h
  obtain ⟨h0, h1⟩ := h
  go_enter Tryd.func72, Tryd.ntmps72
  go_wp2
  go_quiet (fail)
  go_wp2
  go_ret
  exact ⟨rot 65536 65536 x, nq, rfl, rfl, hw, rfl⟩
theorem rot12_w32 {x : Int} (h : w32 x) : w32 (rot 4096 1048576 x) := by
  have h1 := h.1
  have h2 := h.2
  exact or_w32 (mod_w32 _) ⟨by omega, by omega⟩
set_option maxHeartbeats 400000 in
theorem rotl12_any (x : Int) (w : World) (h : w32 x) : Calls Tryd.prog 53 #[.int .u32 x, .int .i64 12] w fun e w' => ∃ v, e = .returned (.int .u32 v) ∧ Hid (v = rot 4096 1048576 x) ∧ w32 v ∧ w = w' := by
  have hw := rot12_w32 h
  obtain ⟨h0, h1⟩ := h
  have hb : bits .and .u64 12 31 = 12 := by decide +kernel
  go_enter Tryd.func53, Tryd.ntmps53
  go_wp2
  go_ret
  exact ⟨rot 4096 1048576 x, rfl, rfl, hw, rfl⟩
theorem turn12_any (x : Int) (w : World) (h : w32 x) : Calls Tryd.prog 72 #[.int .u32 x, .int .i64 12] w fun e w' => ∃ v n, e = .returned (.int .u32 v) ∧ Hid (v = rot 4096 1048576 x) ∧ w32 v ∧ w' = w.drewN n := by
  have hw := rot12_w32 h
  obtain ⟨h0, h1⟩ := h
  go_enter Tryd.func72, Tryd.ntmps72
  go_wp2
  go_quiet (fail)
  go_wp2
  go_ret
  exact ⟨rot 4096 1048576 x, nq, rfl, rfl, hw, rfl⟩
theorem rot8_w32 {x : Int} (h : w32 x) : w32 (rot 256 16777216 x) := by
  have h1 := h.1
  have h2 := h.2
  exact or_w32 (mod_w32 _) ⟨by omega, by omega⟩
set_option maxHeartbeats 400000 in
theorem rotl8_any (x : Int) (w : World) (h : w32 x) : Calls Tryd.prog 53 #[.int .u32 x, .int .i64 8] w fun e w' => ∃ v, e = .returned (.int .u32 v) ∧ Hid (v = rot 256 16777216 x) ∧ w32 v ∧ w = w' := by
  have hw := rot8_w32 h
  obtain ⟨h0, h1⟩ := h
  have hb : bits .and .u64 8 31 = 8 := by decide +kernel
  go_enter Tryd.func53, Tryd.ntmps53
  go_wp2
  go_ret
  exact ⟨rot 256 16777216 x, rfl, rfl, hw, rfl⟩
theorem turn8_any (x : Int) (w : World) (h : w32 x) : Calls Tryd.prog 72 #[.int .u32 x, .int .i64 8] w fun e w' => ∃ v n, e = .returned (.int .u32 v) ∧ Hid (v = rot 256 16777216 x) ∧ w32 v ∧ w' = w.drewN n := by
  have hw := rot8_w32 h
  obtain ⟨h0, h1⟩ := h
  go_enter Tryd.func72, Tryd.ntmps72
  go_wp2
  go_quiet (fail)
  go_wp2
  go_ret
  exact ⟨rot 256 16777216 x, nq, rfl, rfl, hw, rfl⟩
theorem rot7_w32 {x : Int} (h : w32 x) : w32 (rot 128 33554432 x) := by
  have h1 := h.1
  have h2 := h.2
  exact or_w32 (mod_w32 _) ⟨by omega, by omega⟩
set_option maxHeartbeats 400000 in
theorem rotl7_any (x : Int) (w : World) (h : w32 x) : Calls Tryd.prog 53 #[.int .u32 x, .int .i64 7] w fun e w' => ∃ v, e = .returned (.int .u32 v) ∧ Hid (v = rot 128 33554432 x) ∧ w32 v ∧ w = w' := by
  have hw := rot7_w32 h
  obtain ⟨h0, h1⟩ := h
  have hb : bits .and .u64 7 31 = 7 := by decide +kernel
  go_enter Tryd.func53, Tryd.ntmps53
  go_wp2
  go_ret
  exact ⟨rot 128 33554432 x, rfl, rfl, hw, rfl⟩
theorem turn7_any (x : Int) (w : World) (h : w32 x) : Calls Tryd.prog 72 #[.int .u32 x, .int .i64 7] w fun e w' => ∃ v n, e = .returned (.int .u32 v) ∧ Hid (v = rot 128 33554432 x) ∧ w32 v ∧ w' = w.drewN n := by
  have hw := rot7_w32 h
  obtain ⟨h0, h1⟩ := h
  go_enter Tryd.func72, Tryd.ntmps72
  go_wp2
  go_quiet (fail)
  go_wp2
  go_ret
  exact ⟨rot 128 33554432 x, nq, rfl, rfl, hw, rfl⟩

/-- A quarter round. -/
def qr (a b c d : Int) : Int × Int × Int × Int :=
  let a1 := (a + b) % 4294967296
  let d1 := rot 65536 65536 (bits .xor .u32 d a1)
  let c1 := (c + d1) % 4294967296
  let b1 := rot 4096 1048576 (bits .xor .u32 b c1)
  let a2 := (a + b + b1) % 4294967296
  let d2 := rot 256 16777216 (bits .xor .u32 d1 a2)
  let c2 := (c + d1 + d2) % 4294967296
  let b2 := rot 128 33554432 (bits .xor .u32 b1 c2)
  (a2, b2, c2, d2)

set_option maxHeartbeats 1000000 in
theorem quarter_any (a b c d : Int) (w : World) (ha : w32 a) (hb : w32 b) (hc : w32 c) (hd : w32 d) :
    Calls Tryd.prog 35 #[.int .u32 a, .int .u32 b, .int .u32 c, .int .u32 d] w fun e w' => ∃ x y z t, e = .returned (.tuple #[.int .u32 x, .int .u32 y, .int .u32 z, .int .u32 t]) ∧ Hid ((x, y, z, t) = qr a b c d) ∧ w32 x ∧ w32 y ∧ w32 z ∧ w32 t ∧ w = w' := by
  go_enter Tryd.func35, Tryd.ntmps35
  go_wp2_with fail
  refine (rotl16_any _ _ (xor_w32 hd (mod_w32 _))).mono ?_
  rintro e w1 ⟨d1, rfl, hd1, kd1, rfl⟩
  go_wp2_with fail
  refine (rotl12_any _ _ (xor_w32 hb (mod_w32 _))).mono ?_
  rintro e w1 ⟨b1, rfl, hb1, kb1, rfl⟩
  go_wp2_with fail
  refine (rotl8_any _ _ (xor_w32 kd1 (mod_w32 _))).mono ?_
  rintro e w1 ⟨d2, rfl, hd2, kd2, rfl⟩
  go_wp2_with fail
  refine (rotl7_any _ _ (xor_w32 kb1 (mod_w32 _))).mono ?_
  rintro e w1 ⟨b2, rfl, hb2, kb2, rfl⟩
  go_wp2
  refine bodyPost_ret (v := .tuple #[.int .u32 ((a + b + b1) % 4294967296), .int .u32 b2, .int .u32 ((c + d1 + d2) % 4294967296), .int .u32 d2]) (by simp [results, Tryd.results35, go_sem]) rfl ?_
  refine ⟨_, _, _, _, rfl, ?_, mod_w32 _, kb2, mod_w32 _, kd2, rfl⟩
  unfold Hid qr
  simp only
  rw [← hd1.out, ← hb1.out, ← hd2.out, ← hb2.out]

set_option maxHeartbeats 1000000 in
theorem refQuarter_any (a b c d : Int) (w : World) (ha : w32 a) (hb : w32 b) (hc : w32 c) (hd : w32 d) :
    Calls Tryd.prog 55 #[.int .u32 a, .int .u32 b, .int .u32 c, .int .u32 d] w fun e w' => ∃ x y z t, e = .returned (.agg #[.int .u32 x, .int .u32 y, .int .u32 z, .int .u32 t]) ∧ Hid ((x, y, z, t) = qr a b c d) ∧ w32 x ∧ w32 y ∧ w32 z ∧ w32 t ∧ Below w.heap.size w w' := by
  go_enter Tryd.func55, Tryd.ntmps55
  go_wp2_with fail
  refine (turn16_any _ _ (xor_w32 hd (mod_w32 _))).mono ?_
  rintro e w1 ⟨d1, n1, rfl, hd1, kd1, rfl⟩
  go_wp2_with fail
  refine (turn12_any _ _ (xor_w32 hb (mod_w32 _))).mono ?_
  rintro e w1 ⟨b1, n2, rfl, hb1, kb1, rfl⟩
  go_wp2_with fail
  refine (turn8_any _ _ (xor_w32 kd1 (mod_w32 _))).mono ?_
  rintro e w1 ⟨d2, n3, rfl, hd2, kd2, rfl⟩
  go_wp2_with fail
  refine (turn7_any _ _ (xor_w32 kb1 (mod_w32 _))).mono ?_
  rintro e w1 ⟨b2, n4, rfl, hb2, kb2, rfl⟩
  go_wp2
  refine bodyPost_ret (v := .agg #[.int .u32 ((a + b + b1) % 4294967296), .int .u32 b2, .int .u32 ((c + d1 + d2) % 4294967296), .int .u32 d2]) (by simp [results, Tryd.results55, go_sem]) rfl ?_
  refine ⟨_, _, _, _, rfl, ?_, mod_w32 _, kb2, mod_w32 _, kd2, ?_⟩
  · unfold Hid qr
    simp only
    rw [← hd1.out, ← hb1.out, ← hd2.out, ← hb2.out]
  · exact ((((below_drewn ((Below.refl w.heap.size w).alloc (Nat.le_refl _) _) _).setCell (Nat.le_refl _) _).setCell (Nat.le_refl _) _).setCell (Nat.le_refl _) _).setCell (Nat.le_refl _) _
end Go.Proofs.YtfpemnihknbihaaDoor

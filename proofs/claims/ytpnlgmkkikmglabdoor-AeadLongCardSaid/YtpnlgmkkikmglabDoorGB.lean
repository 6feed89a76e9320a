/-
  Several own texts in one: Quarter, Chacha, ChaMath, BlockR, Block, KeyMath, Stream, Stream2, Stream3, Xor, OutL, OutM, RefAt, Begin, RefBlock, RefBytes, RefXor, Tabs. Own work.
-/
import Derived.Test.YtpnlgmkkikmglabDoorRows
import Derived.WalkKit
import Derived.Lib.EndianBits
import Derived.Laws.BitsAllLaws
import Derived.Deep.QuietTactic
import Derived.BigQuiet
import Derived.IntWalk
import Derived.OwnWalk
import Derived.LaidMore
import Derived.Deep.Strs
import Derived.Test.YtpnlgmkkikmglabDoorGA
set_option linter.unusedVariables false
set_option linter.unusedSimpArgs false
/-
  The quarter round: a contract each. Own work.
-/
namespace Go.Proofs.YtpnlgmkkikmglabDoor
open Go.RowKit

theorem hideq {p : Prop} (h : p) : Hid p := h
def w32 (x : Int) : Prop := 0 ≤ x ∧ x < 4294967296
/-- Turned left: p is 2 to the places, q 2 to the others. -/
def rot (p q x : Int) : Int := bits .or .u32 (x * p % 4294967296) (x / q)

theorem below_drewn {B : Nat} {w w' : World} (h : Below B w w') (n : Nat) : Below B w (w'.drewN n) := ⟨h.os, h.tape, h.output, h.size, h.block⟩
theorem or_w32 {x y : Int} (hx : w32 x) (hy : w32 y) : w32 (bits .or .u32 x y) := by
  rw [u32_or x y hx.1 hx.2 hy.1 hy.2]
  have h1 := hx.1
  have h2 := hx.2
  have h3 := hy.1
  have h4 := hy.2
  have := Nat.or_lt_two_pow (x := x.toNat) (y := y.toNat) (n := 32) (by omega) (by omega)
  exact ⟨by omega, by omega⟩
theorem xor_w32 {x y : Int} (hx : w32 x) (hy : w32 y) : w32 (bits .xor .u32 x y) := by
  rw [u32_xor x y hx.1 hx.2 hy.1 hy.2]
  have h1 := hx.1
  have h2 := hx.2
  have h3 := hy.1
  have h4 := hy.2
  have := Nat.xor_lt_two_pow (x := x.toNat) (y := y.toNat) (n := 32) (by omega) (by omega)
  exact ⟨by omega, by omega⟩
theorem mod_w32 (x : Int) : w32 (x % 4294967296) := ⟨by omega, by omega⟩
theorem rot16_w32 {x : Int} (h : w32 x) : w32 (rot 65536 65536 x) := by
  have h1 := h.1
  have h2 := h.2
  exact or_w32 (mod_w32 _) ⟨by omega, by omega⟩
set_option maxHeartbeats 400000 in
theorem rotl16_any (x : Int) (w : World) (h : w32 x) : Calls Tryd.prog 58 #[.int .u32 x, .int .i64 16] w fun e w' => ∃ v, e = .returned (.int .u32 v) ∧ Hid (v = rot 65536 65536 x) ∧ w32 v ∧ w = w' := by
  have hw := rot16_w32 h
  obtain ⟨h0, h1⟩ := h
  have hb : bits .and .u64 16 31 = 16 := by decide +kernel
  go_enter Tryd.func58, Tryd.ntmps58
  go_wp2
  go_ret
  exact ⟨rot 65536 65536 x, rfl, rfl, hw, rfl⟩
theorem turn16_any (x : Int) (w : World) (h : w32 x) : Calls Tryd.prog 77 #[.int .u32 x, .int .i64 16] w fun e w' => ∃ v n, e = .returned (.int .u32 v) ∧ Hid (v = rot 65536 65536 x) ∧ w32 v ∧ w' = w.drewN n := by
  have hw := rot16_w32 h
  obtain ⟨h0, h1⟩ := h
  go_enter Tryd.func77, Tryd.ntmps77
  go_wp2
  go_quiet (fail)
  go_wp2
  go_ret
  exact ⟨rot 65536 65536 x, nq, rfl, rfl, hw, rfl⟩
theorem rot12_w32 {x : Int} (h : w32 x) : w32 (rot 4096 1048576 x) := by
  have h1 := h.1
  have h2 := h.2
  exact or_w32 (mod_w32 _) ⟨by omega, by omega⟩
set_option maxHeartbeats 400000 in
theorem rotl12_any (x : Int) (w : World) (h : w32 x) : Calls Tryd.prog 58 #[.int .u32 x, .int .i64 12] w fun e w' => ∃ v, e = .returned (.int .u32 v) ∧ Hid (v = rot 4096 1048576 x) ∧ w32 v ∧ w = w' := by
  have hw := rot12_w32 h
  obtain ⟨h0, h1⟩ := h
  have hb : bits .and .u64 12 31 = 12 := by decide +kernel
  go_enter Tryd.func58, Tryd.ntmps58
  go_wp2
  go_ret
  exact ⟨rot 4096 1048576 x, rfl, rfl, hw, rfl⟩
theorem turn12_any (x : Int) (w : World) (h : w32 x) : Calls Tryd.prog 77 #[.int .u32 x, .int .i64 12] w fun e w' => ∃ v n, e = .returned (.int .u32 v) ∧ Hid (v = rot 4096 1048576 x) ∧ w32 v ∧ w' = w.drewN n := by
  have hw := rot12_w32 h
  obtain ⟨h0, h1⟩ := h
  go_enter Tryd.func77, Tryd.ntmps77
  go_wp2
  go_quiet (fail)
  go_wp2
  go_ret
  exact ⟨rot 4096 1048576 x, nq, rfl, rfl, hw, rfl⟩
theorem rot8_w32 {x : Int} (h : w32 x) : w32 (rot 256 16777216 x) := by
  have h1 := h.1
  have h2 := h.2
  exact or_w32 (mod_w32 _) ⟨by omega, by omega⟩
set_option maxHeartbeats 400000 in
theorem rotl8_any (x : Int) (w : World) (h : w32 x) : Calls Tryd.prog 58 #[.int .u32 x, .int .i64 8] w fun e w' => ∃ v, e = .returned (.int .u32 v) ∧ Hid (v = rot 256 16777216 x) ∧ w32 v ∧ w = w' := by
  have hw := rot8_w32 h
  obtain ⟨h0, h1⟩ := h
  have hb : bits .and .u64 8 31 = 8 := by decide +kernel
  go_enter Tryd.func58, Tryd.ntmps58
  go_wp2
  go_ret
  exact ⟨rot 256 16777216 x, rfl, rfl, hw, rfl⟩
theorem turn8_any (x : Int) (w : World) (h : w32 x) : Calls Tryd.prog 77 #[.int .u32 x, .int .i64 8] w fun e w' => ∃ v n, e = .returned (.int .u32 v) ∧ Hid (v = rot 256 16777216 x) ∧ w32 v ∧ w' = w.drewN n := by
  have hw := rot8_w32 h
  obtain ⟨h0, h1⟩ := h
  go_enter Tryd.func77, Tryd.ntmps77
  go_wp2
  go_quiet (fail)
  go_wp2
  go_ret
  exact ⟨rot 256 16777216 x, nq, rfl, rfl, hw, rfl⟩
theorem rot7_w32 {x : Int} (h : w32 x) : w32 (rot 128 33554432 x) := by
  have h1 := h.1
  have h2 := h.2
  exact or_w32 (mod_w32 _) ⟨by omega, by omega⟩
set_option maxHeartbeats 400000 in
theorem rotl7_any (x : Int) (w : World) (h : w32 x) : Calls Tryd.prog 58 #[.int .u32 x, .int .i64 7] w fun e w' => ∃ v, e = .returned (.int .u32 v) ∧ Hid (v = rot 128 33554432 x) ∧ w32 v ∧ w = w' := by
  have hw := rot7_w32 h
  obtain ⟨h0, h1⟩ := h
  have hb : bits .and .u64 7 31 = 7 := by decide +kernel
  go_enter Tryd.func58, Tryd.ntmps58
  go_wp2
  go_ret
  exact ⟨rot 128 33554432 x, rfl, rfl, hw, rfl⟩
theorem turn7_any (x : Int) (w : World) (h : w32 x) : Calls Tryd.prog 77 #[.int .u32 x, .int .i64 7] w fun e w' => ∃ v n, e = .returned (.int .u32 v) ∧ Hid (v = rot 128 33554432 x) ∧ w32 v ∧ w' = w.drewN n := by
  have hw := rot7_w32 h
  obtain ⟨h0, h1⟩ := h
  go_enter Tryd.func77, Tryd.ntmps77
  go_wp2
  go_quiet (fail)
  go_wp2
  go_ret
  exact ⟨rot 128 33554432 x, nq, rfl, rfl, hw, rfl⟩

/-- A quarter round. -/
def qr (a b c d : Int) : Int × Int × Int × Int :=
  let a1 := (a + b) % 4294967296
  let d1 := rot 65536 65536 (bits .xor .u32 d a1)
  let c1 := (c + d1) % 4294967296
  let b1 := rot 4096 1048576 (bits .xor .u32 b c1)
  let a2 := (a + b + b1) % 4294967296
  let d2 := rot 256 16777216 (bits .xor .u32 d1 a2)
  let c2 := (c + d1 + d2) % 4294967296
  let b2 := rot 128 33554432 (bits .xor .u32 b1 c2)
  (a2, b2, c2, d2)

set_option maxHeartbeats 1000000 in
theorem quarter_any (a b c d : Int) (w : World) (ha : w32 a) (hb : w32 b) (hc : w32 c) (hd : w32 d) :
    Calls Tryd.prog 37 #[.int .u32 a, .int .u32 b, .int .u32 c, .int .u32 d] w fun e w' => ∃ x y z t, e = .returned (.tuple #[.int .u32 x, .int .u32 y, .int .u32 z, .int .u32 t]) ∧ Hid ((x, y, z, t) = qr a b c d) ∧ w32 x ∧ w32 y ∧ w32 z ∧ w32 t ∧ w = w' := by
  go_enter Tryd.func37, Tryd.ntmps37
  go_wp2_with fail
  refine (rotl16_any _ _ (xor_w32 hd (mod_w32 _))).mono ?_
  rintro e w1 ⟨d1, rfl, hd1, kd1, rfl⟩
  go_wp2_with fail
  refine (rotl12_any _ _ (xor_w32 hb (mod_w32 _))).mono ?_
  rintro e w1 ⟨b1, rfl, hb1, kb1, rfl⟩
  go_wp2_with fail
  refine (rotl8_any _ _ (xor_w32 kd1 (mod_w32 _))).mono ?_
  rintro e w1 ⟨d2, rfl, hd2, kd2, rfl⟩
  go_wp2_with fail
  refine (rotl7_any _ _ (xor_w32 kb1 (mod_w32 _))).mono ?_
  rintro e w1 ⟨b2, rfl, hb2, kb2, rfl⟩
  go_wp2
  refine bodyPost_ret (v := .tuple #[.int .u32 ((a + b + b1) % 4294967296), .int .u32 b2, .int .u32 ((c + d1 + d2) % 4294967296), .int .u32 d2]) (by simp [results, Tryd.results37, go_sem]) rfl ?_
  refine ⟨_, _, _, _, rfl, ?_, mod_w32 _, kb2, mod_w32 _, kd2, rfl⟩
  unfold Hid qr
  simp only
  rw [← hd1.out, ← hb1.out, ← hd2.out, ← hb2.out]

set_option maxHeartbeats 1000000 in
theorem refQuarter_any (a b c d : Int) (w : World) (ha : w32 a) (hb : w32 b) (hc : w32 c) (hd : w32 d) :
    Calls Tryd.prog 65 #[.int .u32 a, .int .u32 b, .int .u32 c, .int .u32 d] w fun e w' => ∃ x y z t, e = .returned (.agg #[.int .u32 x, .int .u32 y, .int .u32 z, .int .u32 t]) ∧ Hid ((x, y, z, t) = qr a b c d) ∧ w32 x ∧ w32 y ∧ w32 z ∧ w32 t ∧ Below w.heap.size w w' := by
  go_enter Tryd.func65, Tryd.ntmps65
  go_wp2_with fail
  refine (turn16_any _ _ (xor_w32 hd (mod_w32 _))).mono ?_
  rintro e w1 ⟨d1, n1, rfl, hd1, kd1, rfl⟩
  go_wp2_with fail
  refine (turn12_any _ _ (xor_w32 hb (mod_w32 _))).mono ?_
  rintro e w1 ⟨b1, n2, rfl, hb1, kb1, rfl⟩
  go_wp2_with fail
  refine (turn8_any _ _ (xor_w32 kd1 (mod_w32 _))).mono ?_
  rintro e w1 ⟨d2, n3, rfl, hd2, kd2, rfl⟩
  go_wp2_with fail
  refine (turn7_any _ _ (xor_w32 kb1 (mod_w32 _))).mono ?_
  rintro e w1 ⟨b2, n4, rfl, hb2, kb2, rfl⟩
  go_wp2
  refine bodyPost_ret (v := .agg #[.int .u32 ((a + b + b1) % 4294967296), .int .u32 b2, .int .u32 ((c + d1 + d2) % 4294967296), .int .u32 d2]) (by simp [results, Tryd.results65, go_sem]) rfl ?_
  refine ⟨_, _, _, _, rfl, ?_, mod_w32 _, kb2, mod_w32 _, kd2, ?_⟩
  · unfold Hid qr
    simp only
    rw [← hd1.out, ← hb1.out, ← hd2.out, ← hb2.out]
  · exact ((((below_drewn ((Below.refl w.heap.size w).alloc (Nat.le_refl _) _) _).setCell (Nat.le_refl _) _).setCell (Nat.le_refl _) _).setCell (Nat.le_refl _) _).setCell (Nat.le_refl _) _
end Go.Proofs.YtpnlgmkkikmglabDoor

/-
  The block of the stream: a contract each. Own work.
-/
namespace Go.Proofs.YtpnlgmkkikmglabDoor
open Go.RowKit
def headL : List Int := [1634760805, 857760878, 2036477234, 1797285236]
def quartersL : List Int := [0, 4, 8, 12, 1, 5, 9, 13, 2, 6, 10, 14, 3, 7, 11, 15, 0, 5, 10, 15, 1, 6, 11, 12, 2, 7, 8, 13, 3, 4, 9, 14]
/-- The program's two tables. -/
def Tabs (w : World) : Prop := 2 ≤ w.heap.size ∧ (∀ j, j < 4 → w.cell? ⟨1, j, none⟩ = some (.int .u32 (headL.getD j 0))) ∧ ∀ j, j < 32 → w.cell? ⟨0, j, none⟩ = some (.int .i64 (quartersL.getD j 0))
theorem Tabs.below {w w' : World} {B : Nat} (h : Tabs w) (hb : Below B w w') (h2 : 2 ≤ B) : Tabs w' := by
  refine ⟨Nat.le_trans h.1 hb.size, fun j hj => ?_, fun j hj => ?_⟩
  · rw [hb.cell (by show 1 < B; omega)]; exact h.2.1 j hj
  · rw [hb.cell (by show 0 < B; omega)]; exact h.2.2 j hj
theorem Tabs.later {w w' : World} (h : Tabs w) (hb : Below w.heap.size w w') : Tabs w' := h.below hb h.1
/-- Numbers out of bytes, the lowest byte first. -/
def words (ks : List Int) (k : Nat) : List Int := (List.range k).map fun i => leV ks (4 * i) 4
theorem words_len (ks : List Int) (k : Nat) : (words ks k).length = k := by simp [words]
theorem words_succ (ks : List Int) (k : Nat) : words ks (k + 1) = words ks k ++ [leV ks (4 * k) 4] := by simp [words, List.range_succ]
/-- A block's numbers at first. -/
def begL (ks : List Int) (c : Int) (ns : List Int) : List Int := headL ++ (words ks 8 ++ (c :: words ns 3))
theorem take_succ_getD (l : List Int) (k : Nat) (h : k < l.length) : l.take (k + 1) = l.take k ++ [l.getD k 0] := by
  rw [List.take_add_one]; simp [List.getD, List.getElem?_eq_getElem h]
set_option maxRecDepth 100000 in
set_option maxHeartbeats 1000000 in
theorem first_any (ks ns : List Int) (c : Int) (w : World) (hT : Tabs w) (hk : ks.length = 32) (hn : ns.length = 12) (hk' : IsBy ks) (hn' : IsBy ns) (hc : w32 c) :
    Calls Tryd.prog 36 #[.agg (bv ks).toArray, .int .u32 c, .agg (bv ns).toArray] w fun e w' => e = .returned (.agg (vk .u32 (begL ks c ns)).toArray) ∧ Below w.heap.size w w' := by
  have h32 := hide hk
  have h12 := hide hn
  clear hk hn
  go_enter Tryd.func36, Tryd.ntmps36
  go_wp2_with fail
  generalize hw2 : (w.alloc (Obj.cells (bv ks).toArray 22)).alloc (Obj.cells (bv ns).toArray 23) = w2
  have s2 : w2.heap.size = w.heap.size + 1 + 1 := by rw [← hw2]; simp
  have b2 : Below w.heap.size w w2 := by rw [← hw2]; exact ((Below.refl _ _).alloc (Nat.le_refl _) _).alloc (by simp) _
  have hK : Bs w2 (w.heap.size + 1 + 1) (some ⟨w.heap.size, 0, none⟩) 32 ks := by
    have h1 := (Bs.lit w 22 (0, 0) ks).below ((Below.refl _ _).alloc (by simp) (Obj.cells (bv ns).toArray 23))
    rw [hw2, h32.out] at h1
    exact h1.up (by omega)
  have hN : Bs w2 (w.heap.size + 1 + 1) (some ⟨w.heap.size + 1, 0, none⟩) 12 ns := by
    have h1 := Bs.lit (w.alloc (Obj.cells (bv ks).toArray 22)) 23 (0, 0) ns
    rw [hw2, h12.out] at h1
    simpa using h1
  have hT2 := hT.later b2
  clear hw2
  go_loopw [13] (fun i wr => ∃ k : Nat, k ≤ 4 ∧ i = .int .i64 k ∧ OwnK .u32 wr 63 (w.heap.size + 1 + 1 + 1) ([] ++ (headL.take k ++ (List.replicate (4 - k) 0 ++ (List.replicate 8 0 ++ c :: List.replicate 3 0)))) ∧ OwnK .u32 wr 63 (w.heap.size + 1 + 1) (List.replicate 16 0) ∧ Below (w.heap.size + 1 + 1) w2 wr) (fun i _ => 4 - (intOf i).toNat)
  case atStart => 
    refine ⟨0, by omega, rfl, ?_, ?_, ?_⟩
    · have := OwnK.new (kd := .u32) (w2.alloc (Obj.cells (vk .u32 (List.replicate 16 0)).toArray 63)) _ 63 ([] ++ (headL.take 0 ++ (List.replicate (4 - 0) 0 ++ (List.replicate 8 0 ++ c :: List.replicate 3 0)))) rfl
      have hs : (w2.alloc (Obj.cells (vk .u32 (List.replicate 16 0)).toArray 63)).heap.size = w.heap.size + 1 + 1 + 1 := by simp [s2]
      rw [hs] at this
      exact this
    · have := (OwnK.new (kd := .u32) w2 _ 63 (List.replicate 16 0) rfl).later ((Below.refl _ _).alloc (Nat.le_refl _) (Obj.cells (vk .u32 ([] ++ (headL.take 0 ++ (List.replicate (4 - 0) 0 ++ (List.replicate 8 0 ++ c :: List.replicate 3 0))))).toArray 63))
      rw [s2] at this
      exact this
    · exact ((Below.refl _ _).alloc (by omega) _).alloc (by simp; omega) _
  case round =>
    obtain ⟨k, hk, rfl, hX, hZ, hb⟩ := hrel
    by_cases hlt : k < 4
    · have hh := (hT2.below hb (by have := hT.1; omega)).2.1 k hlt
      have hcell := hX.cell (j := k) (by simp [headL]; omega)
      have hf := hX.frozen k
      have hs := hX.set k (headL.getD k 0)
      have he := set_mid hlt [] (headL.take k) (List.replicate 8 0 ++ c :: List.replicate 3 0) (by simp [headL]; omega) (headL.getD k 0)
      rw [List.length_nil, Nat.zero_add] at he
      rw [he, ← take_succ_getD headL k (by simp [headL]; omega)] at hs
      have HS := hide hs
      clear hs he
      go_wp2
      go_roundw
      case rel => exact ⟨k + 1, by omega, by go_num, HS.out, hZ.other _ _ (by omega), hb.setCell (by simp) _⟩
      case measure => simp [intOf]; omega
    · go_wp2_with fail
      have hk4 : k = 4 := by omega
      rw [hk4] at hX
      generalize Value.int .i64 (k : Int) = s13
      generalize Value.bool (decide ((k : Int) < 4)) = s14
      clear hlt hk hk4
      have hX1 : OwnK .u32 wr 63 (w.heap.size + 1 + 1 + 1) (headL ++ (words ks 0 ++ (List.replicate (8 - 0) 0 ++ c :: List.replicate 3 0))) := hX
      clear hX
      go_loopw [22] (fun i wr => ∃ k : Nat, k ≤ 8 ∧ i = .int .i64 k ∧ OwnK .u32 wr 63 (w.heap.size + 1 + 1 + 1) (headL ++ (words ks k ++ (List.replicate (8 - k) 0 ++ c :: List.replicate 3 0))) ∧ OwnK .u32 wr 63 (w.heap.size + 1 + 1) (List.replicate 16 0) ∧ Below (w.heap.size + 1 + 1) w2 wr) (fun i _ => 8 - (intOf i).toNat)
      case atStart => exact ⟨0, by omega, rfl, hX1, hZ, hb⟩
      case round =>
        clear hX1 hZ hb
        obtain ⟨k, hk, rfl, hX, hZ, hb⟩ := hrel
        by_cases hlt : k < 8
        · have hcell := hX.cell (j := 4 + k) (by simp [headL, words_len]; omega)
          have hf := hX.frozen (4 + k)
          have hs := hX.set (4 + k) (leV ks (4 * k) 4)
          have he := set_mid hlt headL (words ks k) (c :: List.replicate 3 0) (words_len _ _) (leV ks (4 * k) 4)
          rw [show headL.length + k = 4 + k from rfl] at he
          rw [he, ← words_succ] at hs
          have HS := hide hs
          clear hs he
          have hK2 := (hK.below hb).up (show w.heap.size + 1 + 1 ≤ wr.heap.size from by have := hX.lt; omega)
          have hL := le32_any (some ⟨w.heap.size, 0, none⟩) 32 32 (4 * k) ks wr hK2 hk' (by omega) (by omega)
          rw [show ((4 * k : Nat) : Int) = 4 * (k : Int) from by omega] at hL
          go_wp2_with fail
          refine hL.mono ?_
          rintro e w' ⟨rfl, rfl⟩
          go_wp2
          go_roundw
          case rel => exact ⟨k + 1, by omega, by go_num, HS.out, hZ.other _ _ (by omega), hb.setCell (by simp) _⟩
          case measure => simp [intOf]; omega
        · go_wp2_with fail
          have hk8 : k = 8 := by omega
          rw [hk8] at hX
          generalize Value.int .i64 (k : Int) = s22
          generalize Value.bool (decide ((k : Int) < 8)) = s23
          clear hlt hk hk8
          have hX1 : OwnK .u32 wr 63 (w.heap.size + 1 + 1 + 1) ((headL ++ words ks 8 ++ [c]) ++ (words ns 0 ++ (List.replicate (3 - 0) 0 ++ []))) := by
            have e : headL ++ (words ks 8 ++ (List.replicate (8 - 8) 0 ++ c :: List.replicate 3 0)) = (headL ++ words ks 8 ++ [c]) ++ (words ns 0 ++ (List.replicate (3 - 0) 0 ++ [])) := by simp [words]
            rw [← e]; exact hX
          clear hX
          go_loopw [33] (fun i wr => ∃ k : Nat, k ≤ 3 ∧ i = .int .i64 k ∧ OwnK .u32 wr 63 (w.heap.size + 1 + 1 + 1) ((headL ++ words ks 8 ++ [c]) ++ (words ns k ++ (List.replicate (3 - k) 0 ++ []))) ∧ OwnK .u32 wr 63 (w.heap.size + 1 + 1) (List.replicate 16 0) ∧ Below (w.heap.size + 1 + 1) w2 wr) (fun i _ => 3 - (intOf i).toNat)
          case atStart => exact ⟨0, by omega, rfl, hX1, hZ, hb⟩
          case round =>
            clear hX1 hZ hb
            obtain ⟨k, hk, rfl, hX, hZ, hb⟩ := hrel
            by_cases hlt : k < 3
            · have hcell := hX.cell (j := 13 + k) (by simp [headL, words_len]; omega)
              have hf := hX.frozen (13 + k)
              have hs := hX.set (13 + k) (leV ns (4 * k) 4)
              have he := set_mid hlt (headL ++ words ks 8 ++ [c]) (words ns k) [] (words_len _ _) (leV ns (4 * k) 4)
              rw [show (headL ++ words ks 8 ++ [c]).length + k = 13 + k from by simp [headL, words_len]] at he
              rw [he, ← words_succ] at hs
              have HS := hide hs
              clear hs he
              have hN2 := (hN.below hb).up (show w.heap.size + 1 + 1 ≤ wr.heap.size from by have := hX.lt; omega)
              have hL := le32_any (some ⟨w.heap.size + 1, 0, none⟩) 12 12 (4 * k) ns wr hN2 hn' (by omega) (by omega)
              rw [show ((4 * k : Nat) : Int) = 4 * (k : Int) from by omega] at hL
              go_wp2_with fail
              refine hL.mono ?_
              rintro e w' ⟨rfl, rfl⟩
              go_wp2
              go_roundw
              case rel => exact ⟨k + 1, by omega, by go_num, HS.out, hZ.other _ _ (by omega), hb.setCell (by simp) _⟩
              case measure => simp [intOf]; omega
            · have hk3 : k = 3 := by omega
              rw [hk3] at hX
              have heq : (headL ++ words ks 8 ++ [c]) ++ (words ns 3 ++ (List.replicate (3 - 3) 0 ++ [])) = begL ks c ns := by simp [begL]
              rw [heq] at hX
              have hlen : (begL ks c ns).length = 16 := by simp [begL, headL, words_len]
              have hsz : (Tryd.prog.info? 63).map (·.size) = some (vk .u32 (begL ks c ns)).toArray.size := by
                rw [List.size_toArray, vk_len, hlen]; kernel_rfl
              have hzz : (vk .u32 (List.replicate 16 0)).toArray.size = (vk .u32 (begL ks c ns)).toArray.size := by simp [vk_len, hlen]
              clear hk3 heq
              go_wp2_with (first
                | refine wpList_load_row rfl 63 (.tmp 7) rfl (w.heap.size + 1 + 1 + 1) rfl 63 _ (0, 0) _ hX Tryd.underlying63 rfl hsz ?_
                | refine wpList_store_row rfl 63 (.tmp 6) (.tmp 44) rfl (w.heap.size + 1 + 1) _ rfl rfl 63 _ hZ hsz hzz (vk_one _ _) ?_)
              refine bodyPost_ret (v := .agg (vk .u32 (begL ks c ns)).toArray) ?_ rfl ⟨rfl, ?_⟩
              · exact results_cell_row Tryd.results36 _ _ (w.heap.size + 1 + 1) 63 _ (0, 0) _ rfl (setRow_heap _ _ _ _ _ _ hZ) Tryd.underlying63 rfl hsz
              · exact b2.trans (below_setRow (hb.mono (by omega)) (by omega) _)
end Go.Proofs.YtpnlgmkkikmglabDoor

/-
  The stream's block, as lists of numbers: plain mathematics. Own work.
-/
namespace Go.Proofs.YtpnlgmkkikmglabDoor
open Go.RowKit
def IsW (xs : List Int) : Prop := ∀ x, x ∈ xs → w32 x
theorem IsW.getD {xs : List Int} (h : IsW xs) (i : Nat) : w32 (xs.getD i 0) := by
  by_cases hi : i < xs.length
  · simp only [List.getD, List.getElem?_eq_getElem hi, Option.getD_some]; exact h _ (List.getElem_mem hi)
  · simp only [List.getD, List.getElem?_eq_none (show xs.length ≤ i by omega), Option.getD_none]; exact ⟨by omega, by omega⟩
theorem IsW.set {xs : List Int} (h : IsW xs) {v : Int} (hv : w32 v) (i : Nat) : IsW (xs.set i v) := by
  intro x hx
  rcases List.mem_or_eq_of_mem_set hx with h1 | h1
  · exact h x h1
  · exact h1 ▸ hv
theorem IsW.append {xs ys : List Int} (h : IsW xs) (h' : IsW ys) : IsW (xs ++ ys) := fun x hx => (List.mem_append.1 hx).elim (h x) (h' x)
/-- A quarter round in its places. -/
def qat (xs : List Int) (i j k l : Nat) : List Int :=
  let q := qr (xs.getD i 0) (xs.getD j 0) (xs.getD k 0) (xs.getD l 0)
  (((xs.set i q.1).set j q.2.1).set k q.2.2.1).set l q.2.2.2
theorem qat_len (xs : List Int) (i j k l : Nat) : (qat xs i j k l).length = xs.length := by simp [qat]
theorem qr_w32 {a b c d : Int} (ha : w32 a) (hb : w32 b) (hc : w32 c) (hd : w32 d) : w32 (qr a b c d).1 ∧ w32 (qr a b c d).2.1 ∧ w32 (qr a b c d).2.2.1 ∧ w32 (qr a b c d).2.2.2 := by
  unfold qr
  have d1 := rot16_w32 (xor_w32 hd (mod_w32 (a + b)))
  have b1 := rot12_w32 (xor_w32 hb (mod_w32 (c + rot 65536 65536 (bits .xor .u32 d ((a + b) % 4294967296)))))
  have d2 := rot8_w32 (xor_w32 d1 (mod_w32 (a + b + rot 4096 1048576 (bits .xor .u32 b ((c + rot 65536 65536 (bits .xor .u32 d ((a + b) % 4294967296))) % 4294967296)))))
  exact ⟨mod_w32 _, rot7_w32 (xor_w32 b1 (mod_w32 _)), mod_w32 _, d2⟩
theorem qat_w {xs : List Int} (h : IsW xs) (i j k l : Nat) : IsW (qat xs i j k l) := by
  obtain ⟨h1, h2, h3, h4⟩ := qr_w32 (h.getD i) (h.getD j) (h.getD k) (h.getD l)
  exact (((h.set h1 i).set h2 j).set h3 k).set h4 l
/-- Where the k-th quarter round of a double round has its places. -/
def pl (k : Nat) : Nat × Nat × Nat × Nat :=
  match k with
  | 0 => (0, 4, 8, 12) | 1 => (1, 5, 9, 13) | 2 => (2, 6, 10, 14) | 3 => (3, 7, 11, 15)
  | 4 => (0, 5, 10, 15) | 5 => (1, 6, 11, 12) | 6 => (2, 7, 8, 13) | _ => (3, 4, 9, 14)
def step1 (xs : List Int) (k : Nat) : List Int := qat xs (pl k).1 (pl k).2.1 (pl k).2.2.1 (pl k).2.2.2
/-- The first k quarter rounds of a double round. -/
def quarts (xs : List Int) : Nat → List Int
  | 0 => xs
  | k + 1 => step1 (quarts xs k) k
def rounds (xs : List Int) : Nat → List Int
  | 0 => xs
  | k + 1 => quarts (rounds xs k) 8
theorem quarts_len (xs : List Int) (k : Nat) : (quarts xs k).length = xs.length := by
  induction k with
  | zero => rfl
  | succ k ih => rw [quarts, step1, qat_len, ih]
theorem quarts_w {xs : List Int} (h : IsW xs) (k : Nat) : IsW (quarts xs k) := by
  induction k with
  | zero => exact h
  | succ k ih => exact qat_w ih _ _ _ _
theorem rounds_len (xs : List Int) (k : Nat) : (rounds xs k).length = xs.length := by
  induction k with
  | zero => rfl
  | succ k ih => rw [rounds, quarts_len, ih]
theorem rounds_w {xs : List Int} (h : IsW xs) (k : Nat) : IsW (rounds xs k) := by
  induction k with
  | zero => exact h
  | succ k ih => exact quarts_w ih _
/-- The i-th number of a block. -/
def blockN (ks : List Int) (c : Int) (ns : List Int) (i : Nat) : Int := ((rounds (begL ks c ns) 10).getD i 0 + (begL ks c ns).getD i 0) % 4294967296
/-- The bytes of a block's first k numbers. -/
def blockP (ks : List Int) (c : Int) (ns : List Int) (k : Nat) : List Int := (List.range k).flatMap fun i => lowB (blockN ks c ns i) 4
def blockL (ks : List Int) (c : Int) (ns : List Int) : List Int := blockP ks c ns 16
theorem blockP_succ (ks : List Int) (c : Int) (ns : List Int) (k : Nat) : blockP ks c ns (k + 1) = blockP ks c ns k ++ lowB (blockN ks c ns k) 4 := by
  simp [blockP, List.range_succ, List.flatMap_append]
theorem blockP_len (ks : List Int) (c : Int) (ns : List Int) (k : Nat) : (blockP ks c ns k).length = 4 * k := by
  induction k with
  | zero => rfl
  | succ k ih => rw [blockP_succ, List.length_append, ih, lowB_length]; omega
theorem blockL_len (ks : List Int) (c : Int) (ns : List Int) : (blockL ks c ns).length = 64 := blockP_len ks c ns 16
theorem blockP_by (ks : List Int) (c : Int) (ns : List Int) (k : Nat) : IsBy (blockP ks c ns k) := by
  intro x hx
  simp only [blockP, List.mem_flatMap] at hx
  obtain ⟨i, _, hi⟩ := hx
  exact lowB_byte _ _ _ hi
theorem words_w {ks : List Int} (h : IsBy ks) (k : Nat) : IsW (words ks k) := by
  intro x hx
  simp only [words, List.mem_map] at hx
  obtain ⟨i, _, rfl⟩ := hx
  have := leV_bound h (4 * i) 4
  exact ⟨this.1, by have := this.2; simpa using this⟩
theorem begL_w {ks ns : List Int} {c : Int} (h : IsBy ks) (h' : IsBy ns) (hc : w32 c) : IsW (begL ks c ns) := by
  refine IsW.append ?_ ((words_w h 8).append ?_)
  · intro x hx
    simp only [headL, List.mem_cons, List.not_mem_nil, or_false] at hx
    rcases hx with rfl | rfl | rfl | rfl <;> exact ⟨by omega, by omega⟩
  · intro x hx
    rcases List.mem_cons.1 hx with rfl | hx
    · exact hc
    · exact words_w h' 3 x hx
theorem begL_len (ks : List Int) (c : Int) (ns : List Int) : (begL ks c ns).length = 16 := by simp [begL, headL, words_len]
theorem set_fill {L T : List Int} {v : List Int} (p n : Nat) (hL : L.length = p) (hT : T.length = n) (hv : v.length ≤ n) : (L ++ T).take p ++ v ++ (L ++ T).drop (p + v.length) = (L ++ v) ++ T.drop v.length := by
  subst hL
  simp [List.drop_append]
end Go.Proofs.YtpnlgmkkikmglabDoor

/-
  A quarter round in its places, in the program: the statement whose order is open. Own work.
-/
namespace Go.Proofs.YtpnlgmkkikmglabDoor
open Go.RowKit
def upd4 (xs : List Int) (a b c d : Nat) (q : Int × Int × Int × Int) (b1 b2 b3 b4 : Bool) : List Int :=
  let s1 := bif b1 then xs.set a q.1 else xs
  let s2 := bif b2 then s1.set b q.2.1 else s1
  let s3 := bif b3 then s2.set c q.2.2.1 else s2
  bif b4 then s3.set d q.2.2.2 else s3
theorem upd4_len (xs : List Int) (a b c d : Nat) (q : Int × Int × Int × Int) (b1 b2 b3 b4 : Bool) : (upd4 xs a b c d q b1 b2 b3 b4).length = xs.length := by
  cases b1 <;> cases b2 <;> cases b3 <;> cases b4 <;> simp [upd4]
def qrV (q : Int × Int × Int × Int) : Value := .tuple #[.int .u32 q.1, .int .u32 q.2.1, .int .u32 q.2.2.1, .int .u32 q.2.2.2]
def J8 (gp gx : Nat) (ps : List Value) (xs : List Int) (a b c d : Nat) (w0 : World) (bs : List Bool) (vs : List Value) (w : World) : Prop :=
  Row w 65 gp ps ∧ Row w 63 gx (vk .u32 (upd4 xs a b c d (qr (xs.getD a 0) (xs.getD b 0) (xs.getD c 0) (xs.getD d 0)) (bs.getD 1 false) (bs.getD 2 false) (bs.getD 3 false) (bs.getD 4 false))) ∧ Below gx w0 w
theorem J8.at0 {bs : List Bool} {vs : List Value} {w0 w : World} {gp gx : Nat} {ps : List Value} {xs : List Int} {a b c d : Nat} (h : J8 gp gx ps xs a b c d w0 bs vs w) (h1 : bs.getD 1 false = false) (h2 : bs.getD 2 false = false) (h3 : bs.getD 3 false = false) (h4 : bs.getD 4 false = false) : Row w 63 gx (vk .u32 (upd4 xs a b c d (qr (xs.getD a 0) (xs.getD b 0) (xs.getD c 0) (xs.getD d 0)) false false false false)) ∧ Below gx w0 w := by
  have := h.2.1
  rw [h1, h2, h3, h4] at this
  exact ⟨this, h.2.2⟩
theorem J8.at1 {bs : List Bool} {vs : List Value} {w0 w : World} {gp gx : Nat} {ps : List Value} {xs : List Int} {a b c d : Nat} (h : J8 gp gx ps xs a b c d w0 bs vs w) (h1 : bs.getD 1 false = true) (h2 : bs.getD 2 false = false) (h3 : bs.getD 3 false = false) (h4 : bs.getD 4 false = false) : Row w 63 gx (vk .u32 (upd4 xs a b c d (qr (xs.getD a 0) (xs.getD b 0) (xs.getD c 0) (xs.getD d 0)) true false false false)) ∧ Below gx w0 w := by
  have := h.2.1
  rw [h1, h2, h3, h4] at this
  exact ⟨this, h.2.2⟩
theorem J8.at2 {bs : List Bool} {vs : List Value} {w0 w : World} {gp gx : Nat} {ps : List Value} {xs : List Int} {a b c d : Nat} (h : J8 gp gx ps xs a b c d w0 bs vs w) (h1 : bs.getD 1 false = true) (h2 : bs.getD 2 false = true) (h3 : bs.getD 3 false = false) (h4 : bs.getD 4 false = false) : Row w 63 gx (vk .u32 (upd4 xs a b c d (qr (xs.getD a 0) (xs.getD b 0) (xs.getD c 0) (xs.getD d 0)) true true false false)) ∧ Below gx w0 w := by
  have := h.2.1
  rw [h1, h2, h3, h4] at this
  exact ⟨this, h.2.2⟩
theorem J8.at3 {bs : List Bool} {vs : List Value} {w0 w : World} {gp gx : Nat} {ps : List Value} {xs : List Int} {a b c d : Nat} (h : J8 gp gx ps xs a b c d w0 bs vs w) (h1 : bs.getD 1 false = true) (h2 : bs.getD 2 false = true) (h3 : bs.getD 3 false = true) (h4 : bs.getD 4 false = false) : Row w 63 gx (vk .u32 (upd4 xs a b c d (qr (xs.getD a 0) (xs.getD b 0) (xs.getD c 0) (xs.getD d 0)) true true true false)) ∧ Below gx w0 w := by
  have := h.2.1
  rw [h1, h2, h3, h4] at this
  exact ⟨this, h.2.2⟩
theorem J8.start {bs : List Bool} {vs : List Value} {w0 w : World} {gp gx : Nat} {ps : List Value} {xs : List Int} {a b c d : Nat} (h : J8 gp gx ps xs a b c d w0 bs vs w) (h1 : bs.getD 1 false = false) (h2 : bs.getD 2 false = false) (h3 : bs.getD 3 false = false) (h4 : bs.getD 4 false = false) : Row w 63 gx (vk .u32 xs) := (J8.at0 h h1 h2 h3 h4).1
/-- What each operation leaves. -/
def S8 (gp gx : Nat) (xs : List Int) (a b c d : Nat) (n : Nat) (v : Value) : Prop :=
  match n with
  | 0 | 8 => v = .pointer (some ⟨gp, 0, none⟩) | 2 | 12 => v = .pointer (some ⟨gp, 1, none⟩) | 4 | 16 => v = .pointer (some ⟨gp, 2, none⟩) | 6 | 20 => v = .pointer (some ⟨gp, 3, none⟩)
  | 1 | 9 => v = .int .i64 a | 3 | 13 => v = .int .i64 b | 5 | 17 => v = .int .i64 c | 7 | 21 => v = .int .i64 d
  | 10 | 30 => v = .pointer (some ⟨gx, a, none⟩) | 14 | 32 => v = .pointer (some ⟨gx, b, none⟩) | 18 | 34 => v = .pointer (some ⟨gx, c, none⟩) | 22 | 36 => v = .pointer (some ⟨gx, d, none⟩)
  | 11 => v = .int .u32 (xs.getD a 0) | 15 => v = .int .u32 (xs.getD b 0) | 19 => v = .int .u32 (xs.getD c 0) | 23 => v = .int .u32 (xs.getD d 0)
  | 24 | 25 => v = qrV (qr (xs.getD a 0) (xs.getD b 0) (xs.getD c 0) (xs.getD d 0))
  | 26 => v = .int .u32 (qr (xs.getD a 0) (xs.getD b 0) (xs.getD c 0) (xs.getD d 0)).1
  | 27 => v = .int .u32 (qr (xs.getD a 0) (xs.getD b 0) (xs.getD c 0) (xs.getD d 0)).2.1
  | 28 => v = .int .u32 (qr (xs.getD a 0) (xs.getD b 0) (xs.getD c 0) (xs.getD d 0)).2.2.1
  | 29 => v = .int .u32 (qr (xs.getD a 0) (xs.getD b 0) (xs.getD c 0) (xs.getD d 0)).2.2.2
  | _ => True
def J15 (gr : Nat) (old new : List Value) (ys : List Int) (w0 : World) (bs : List Bool) (vs : List Value) (w : World) : Prop :=
  Row w 47 gr (bif bs.getD 1 false then new else old) ∧ Below gr w0 w ∧ (bs.getD 0 false = true → bs.getD 1 false = false → ∃ A c, vs.getD 0 undef = .slice A 4 c ∧ Bs w w.heap.size A 4 ys)
theorem J15.old_ {gr : Nat} {old new : List Value} {ys : List Int} {w0 : World} {bs : List Bool} {vs : List Value} {w : World} (h : J15 gr old new ys w0 bs vs w) (h1 : bs.getD 1 false = false) : Row w 47 gr old := by
  have := h.1
  rw [h1] at this
  exact this
def S15 (gr gx gs k : Nat) (X Y : Int) (n : Nat) (v : Value) : Prop :=
  match n with
  | 0 | 3 | 6 => v = .int .i64 k | 1 => v = .int .i64 ((4 * k : Nat) : Int) | 2 => v = .slice (some ⟨gr, 4 * k, none⟩) (64 - 4 * k) (64 - 4 * k)
  | 4 => v = .pointer (some ⟨gx, k, none⟩) | 5 => v = .int .u32 X | 7 => v = .pointer (some ⟨gs, k, none⟩) | 8 => v = .int .u32 Y | 9 => v = .int .u32 ((X + Y) % 4294967296)
  | 10 => ∃ A c, v = .slice A 4 c | _ => True
theorem fill4 (P R ys : List Int) (m : Nat) (hP : P.length = m) (hy : ys.length = 4) : (bv (P ++ R)).take m ++ (bv ys ++ (bv (P ++ R)).drop (m + 4)) = bv ((P ++ ys) ++ R.drop 4) := by
  subst hP
  simp [bv, List.drop_append]
end Go.Proofs.YtpnlgmkkikmglabDoor

/-
  The block: a contract. Own work.
-/
namespace Go.Proofs.YtpnlgmkkikmglabDoor
open Go.RowKit
def plL (k : Nat) : List Int := [((pl k).1 : Int), (pl k).2.1, (pl k).2.2.1, (pl k).2.2.2]
theorem quarter_index (k : Nat) (hk : k < 8) (w : World) : (Instr.index 66 (.agg (vk .i64 quartersL).toArray) (.int .i64 k)).run Tryd.prog w = .ok (.agg (vk .i64 (plL k)).toArray) w := by
  rw [run_index_part w 66 65 8 4 (vk .i64 quartersL) k Tryd.underlying66 Tryd.isAgg65 Tryd.sizeOf65 hk]
  rcases k with _ | _ | _ | _ | _ | _ | _ | _ | k
  all_goals first
    | rfl
    | omega
theorem pl_lt (k : Nat) (hk : k < 8) : (pl k).1 < 16 ∧ (pl k).2.1 < 16 ∧ (pl k).2.2.1 < 16 ∧ (pl k).2.2.2 < 16 := by
  rcases k with _ | _ | _ | _ | _ | _ | _ | _ | k
  all_goals first
    | exact ⟨by decide, by decide, by decide, by decide⟩
    | omega
theorem zero64 : (Tryd.prog.info? 47).map (fun i => i.zero) = some (some (.agg (bv (List.replicate 64 0)).toArray)) := by kernel_rfl
theorem zero16 : (Tryd.prog.info? 63).map (fun i => i.zero) = some (some (.agg (vk .u32 (List.replicate 16 0)).toArray)) := by kernel_rfl
theorem zero4 : (Tryd.prog.info? 65).map (fun i => i.zero) = some (some (.agg (vk .i64 (List.replicate 4 0)).toArray)) := by kernel_rfl
theorem Tabs.cells {w : World} (hT : Tabs w) : ∀ (j : Nat) (v : Value), (vk .i64 quartersL)[j]? = some v → w.cell? ⟨0, 0 + j, none⟩ = some v := by
  intro j v hv
  have hj : j < 32 := by
    have := (List.getElem?_eq_some_iff.1 hv).1
    simpa [vk_len, quartersL] using this
  rw [Nat.zero_add, hT.2.2 j hj, ← hv, vk_get (by simp [quartersL]; omega)]
set_option maxRecDepth 100000 in
set_option maxHeartbeats 4000000 in
theorem block_any (ks ns : List Int) (c : Int) (w : World) (hT : Tabs w) (hk : ks.length = 32) (hn : ns.length = 12) (hk' : IsBy ks) (hn' : IsBy ns) (hc : w32 c) :
    Calls Tryd.prog 23 #[.agg (bv ks).toArray, .int .u32 c, .agg (bv ns).toArray] w fun e w' => e = .returned (.agg (bv (blockL ks c ns)).toArray) ∧ Below w.heap.size w w' := by
  have hlen : Hid ((begL ks c ns).length = 16) := begL_len ks c ns
  have hF := fun w hT => first_any ks ns c w hT hk hn hk' hn' hc
  have zk := hide (size_b (P := Tryd.prog) (T := 22) (by kernel_rfl) hk)
  have zn := hide (size_b (P := Tryd.prog) (T := 23) (by kernel_rfl) hn)
  have zb := hide (size_k (P := Tryd.prog) (T := 63) (kd := .u32) (n := 16) (by kernel_rfl) hlen.out)
  have z0 := hide (show (vk .u32 (List.replicate 16 0)).length = (vk .u32 (begL ks c ns)).length by rw [vk_len, vk_len, hlen.out]; rfl)
  clear hk hn
  go_enter Tryd.func23, Tryd.ntmps23
  go_wp2_with (first
    | (with_reducible refine wl_box rfl 22 (.tmp 0) _ (bv ks) rfl rfl rfl ?_; intro g3 w3 r3 a3 l3 b3)
    | (with_reducible refine wl_box rfl 23 (.tmp 2) _ (bv ns) rfl rfl rfl ?_; intro g5 w5 r5 a5 l5 b5)
    | (with_reducible refine wl_alloc rfl 47 _ (bv (List.replicate 64 0)) rfl zero64 rfl ?_; intro g6 w6 r6 a6 l6 b6)
    | (with_reducible refine wl_load_row rfl 22 (.tmp 3) g3 22 (bv ks) _ rfl rfl ((r3.later b5).later b6) Tryd.underlying22 rfl zk.out ?_)
    | (with_reducible refine wl_load_row rfl 23 (.tmp 5) g5 23 (bv ns) _ rfl rfl (r5.later b6) Tryd.underlying23 rfl zn.out ?_))
  have B6 := (b3.trans (b5.mono b3.size)).trans (b6.mono (Nat.le_trans b3.size b5.size))
  have A6 : w.heap.size ≤ g6 := by have := b3.size; have := b5.size; omega
  refine (hF _ (hT.later B6)).mono ?_
  rintro e w7 ⟨rfl, b7⟩
  have B7 := B6.trans (b7.mono B6.size)
  have r6' := r6.later b7
  have s6 : w6.heap.size ≤ w7.heap.size := b7.size
  clear hF b3 b5 b6 b7 r3 r5 r6
  go_wp2_with (first
    | (with_reducible refine wl_alloc (o := ⟨some 7, _, _, _, _, _⟩) rfl 63 _ (vk .u32 (List.replicate 16 0)) rfl zero16 rfl ?_; intro gs w8 r8 a8 l8 b8)
    | (with_reducible refine wl_alloc (o := ⟨some 8, _, _, _, _, _⟩) rfl 63 _ (vk .u32 (List.replicate 16 0)) rfl zero16 rfl ?_; intro gx w10 r10 a10 l10 b10)
    | (with_reducible refine wl_store_row rfl 63 (.tmp 7) (.tmp 16) _ 63 _ (vk .u32 (begL ks c ns)) rfl rfl rfl r8 zb.out z0.out (vk_one' _ _) ?_; intro w9 r9 o9)
    | (with_reducible refine wl_load_row rfl 63 (.tmp 7) _ 63 (vk .u32 (begL ks c ns)) _ rfl rfl r9 Tryd.underlying63 rfl zb.out ?_)
    | (with_reducible refine wl_store_row rfl 63 (.tmp 8) (.tmp 17) _ 63 _ (vk .u32 (begL ks c ns)) rfl rfl rfl r10 zb.out z0.out (vk_one' _ _) ?_; intro w11 r11 o11))
  have q8 : w8.heap.size = w9.heap.size := o9.size.symm
  have q10 : w10.heap.size = w11.heap.size := o11.size.symm
  have B8 := B7.trans (b8.mono B7.size)
  have B9 := B8.trans (o9.below (show w.heap.size ≤ gs by have := B7.size; omega))
  have B10 := B9.trans (b10.mono B9.size)
  have B11 := B10.trans (o11.below (show w.heap.size ≤ gx by have := B9.size; omega))
  have ls : gs < gx := by omega
  have l6' : g6 < gs := by omega
  have rs := (r9.later b10).only o11 (by omega)
  have r6 := (((r6'.later b8).only o9 (by omega)).later b10).only o11 (by omega)
  have hT11 := hT.later B11
  have h2 : 2 ≤ gx := by have := hT.1; omega
  have lx : gx < w11.heap.size := by omega
  clear r8 r9 r10 b8 b10 o9 o11 B6 B7 B8 B9 B10 r6' q8 q10
  go_loopw [18] (fun i wr => ∃ k : Nat, k ≤ 10 ∧ i = .int .i64 k ∧ Row wr 63 gx (vk .u32 (rounds (begL ks c ns) k)) ∧ Below gx w11 wr) (fun i _ => 10 - (intOf i).toNat)
  case atStart => exact ⟨0, by omega, rfl, r11, Below.refl _ _⟩
  case round =>
    clear r11
    obtain ⟨k, hk, rfl, rx, bx⟩ := hrel
    by_cases hlt : k < 10
    · have hcl := (hT11.below bx h2).cells
      go_wp2_with (first
        | (with_reducible refine wl_load_cells rfl 66 (.global 0) _ 0 (vk .i64 quartersL) _ rfl rfl hcl Tryd.underlying66 rfl (by kernel_rfl) ?_))
      clear hcl
      go_loopw [21] (fun i wr => ∃ m : Nat, m ≤ 8 ∧ i = .int .i64 m ∧ Row wr 63 gx (vk .u32 (quarts (rounds (begL ks c ns) k) m)) ∧ Below gx w11 wr) (fun i _ => 8 - (intOf i).toNat)
      case atStart => exact ⟨0, by omega, rfl, rx, bx⟩
      case round =>
        clear rx bx
        obtain ⟨m, hm, rfl, rx, bx⟩ := hrel
        by_cases hlm : m < 8
        · have hqi := quarter_index m hlm
          obtain ⟨ha, hb, hc', hd⟩ := pl_lt m hlm
          go_wp2_with (first
            | (with_reducible refine wl_alloc rfl 65 _ (vk .i64 (List.replicate 4 0)) rfl zero4 rfl ?_; intro gp w1 r1 a1 l1 b1)
            | (with_reducible refine wl_store_row rfl 65 (.tmp 10) (.tmp 23) _ 65 _ (vk .i64 (plL m)) rfl rfl rfl r1 (by kernel_rfl) rfl (vk_one' _ _) ?_; intro w2 r2 o2))
          have q1 : w1.heap.size = w2.heap.size := o2.size.symm
          have hgp : gx < gp := by have := bx.size; omega
          have hne : gp ≠ gx := by omega
          have rx2 := (rx.later b1).only o2 (by omega)
          have bx2 := (bx.trans (b1.mono (by have := bx.size; omega))).trans (o2.below (show gx ≤ gp by omega))
          have lq : (quarts (rounds (begL ks c ns) k) m).length = 16 := by rw [quarts_len, rounds_len]; exact hlen.out
          have hw : IsW (quarts (rounds (begL ks c ns) k) m) := quarts_w (rounds_w (begL_w hk' hn' hc) _) _
          have hstep : Hid (quarts (rounds (begL ks c ns) k) (m + 1) = qat (quarts (rounds (begL ks c ns) k) m) (pl m).1 (pl m).2.1 (pl m).2.2.1 (pl m).2.2.2) := rfl
          clear rx bx b1 o2 r1 hqi q1
          generalize quarts (rounds (begL ks c ns) k) m = xs at *
          have Hq := hide lq
          rename_i Q1 K1 hK1
          refine wp_region_vals [24, 31, 33, 35, 37] (S8 gp gx xs (pl m).1 (pl m).2.1 (pl m).2.2.1 (pl m).2.2.2) (J8 gp gx (vk .i64 (plL m)) xs (pl m).1 (pl m).2.1 (pl m).2.2.1 (pl m).2.2.2 w11) (by kernel_rfl) (by kernel_rfl) (by kernel_rfl) (by kernel_rfl) (by kernel_rfl) ⟨r2, rx2, bx2.drew⟩ ?obs ?he
          case obs =>
            have plm : plL m = [((pl m).1 : Int), (pl m).2.1, (pl m).2.2.1, (pl m).2.2.2] := rfl
            rw [plm]
            generalize (pl m).1 = a at *
            generalize (pl m).2.1 = b at *
            generalize (pl m).2.2.1 = c at *
            generalize (pl m).2.2.2 = d at *
            refine ⟨?_, ?_, ?_, ?_, ?_, ?_, ?_, ?_, ?_, ?_, ?_, ?_, ?_, ?_, ?_, ?_, ?_, ?_, ?_, ?_, ?_, ?_, ?_, ?_, ?_, ?_, ?_, ?_, ?_, ?_, ?_, ?_, ?_, ?_, ?_, ?_, ?_, ?_, trivial⟩
            · exact .inl ⟨by kernel_rfl, fun L a1 w1 n h => ⟨_, rfl, run_index0 65 (.tmp 10) (.const (.int .i64 0)) 4 3 gp 0 rfl Tryd.underlying65 Tryd.sizeOf3 (h.var n 10 (by kernel_rfl)) rfl (by decide)⟩⟩
            · exact .inl ⟨by kernel_rfl, fun L a1 w1 n h => ⟨_, rfl, run_loadA 3 (.tmp 25) ⟨gp, 0, none⟩ rfl Tryd.isAgg3 (h.dep n 0 25 (by kernel_rfl) rfl) (h.inv.1.cell rfl)⟩⟩
            · exact .inl ⟨by kernel_rfl, fun L a1 w1 n h => ⟨_, rfl, run_index0 65 (.tmp 10) (.const (.int .i64 1)) 4 3 gp 1 rfl Tryd.underlying65 Tryd.sizeOf3 (h.var n 10 (by kernel_rfl)) rfl (by decide)⟩⟩
            · exact .inl ⟨by kernel_rfl, fun L a1 w1 n h => ⟨_, rfl, run_loadA 3 (.tmp 27) ⟨gp, 1, none⟩ rfl Tryd.isAgg3 (h.dep n 2 27 (by kernel_rfl) rfl) (h.inv.1.cell rfl)⟩⟩
            · exact .inl ⟨by kernel_rfl, fun L a1 w1 n h => ⟨_, rfl, run_index0 65 (.tmp 10) (.const (.int .i64 2)) 4 3 gp 2 rfl Tryd.underlying65 Tryd.sizeOf3 (h.var n 10 (by kernel_rfl)) rfl (by decide)⟩⟩
            · exact .inl ⟨by kernel_rfl, fun L a1 w1 n h => ⟨_, rfl, run_loadA 3 (.tmp 29) ⟨gp, 2, none⟩ rfl Tryd.isAgg3 (h.dep n 4 29 (by kernel_rfl) rfl) (h.inv.1.cell rfl)⟩⟩
            · exact .inl ⟨by kernel_rfl, fun L a1 w1 n h => ⟨_, rfl, run_index0 65 (.tmp 10) (.const (.int .i64 3)) 4 3 gp 3 rfl Tryd.underlying65 Tryd.sizeOf3 (h.var n 10 (by kernel_rfl)) rfl (by decide)⟩⟩
            · exact .inl ⟨by kernel_rfl, fun L a1 w1 n h => ⟨_, rfl, run_loadA 3 (.tmp 31) ⟨gp, 3, none⟩ rfl Tryd.isAgg3 (h.dep n 6 31 (by kernel_rfl) rfl) (h.inv.1.cell rfl)⟩⟩
            · exact .inl ⟨by kernel_rfl, fun L a1 w1 n h => ⟨_, rfl, run_index0 65 (.tmp 10) (.const (.int .i64 0)) 4 3 gp 0 rfl Tryd.underlying65 Tryd.sizeOf3 (h.var n 10 (by kernel_rfl)) rfl (by decide)⟩⟩
            · exact .inl ⟨by kernel_rfl, fun L a1 w1 n h => ⟨_, rfl, run_loadA 3 (.tmp 33) ⟨gp, 0, none⟩ rfl Tryd.isAgg3 (h.dep n 8 33 (by kernel_rfl) rfl) (h.inv.1.cell rfl)⟩⟩
            · exact .inl ⟨by kernel_rfl, fun L a1 w1 n h => ⟨_, rfl, run_index0 63 (.tmp 8) (.tmp 34) 16 43 gx a rfl Tryd.underlying63 Tryd.sizeOf43 (h.var n 8 (by kernel_rfl)) (h.dep n 9 34 (by kernel_rfl) rfl) ha⟩⟩
            · exact .inl ⟨by kernel_rfl, fun L a1 w1 n h => ⟨_, rfl, run_loadA 43 (.tmp 35) ⟨gx, a, none⟩ rfl Tryd.isAgg43 (h.dep n 10 35 (by kernel_rfl) rfl) ((J8.start h.inv (n.later (j := 31) (by kernel_rfl)) (n.later (j := 33) (by kernel_rfl)) (n.later (j := 35) (by kernel_rfl)) (n.later (j := 37) (by kernel_rfl))).cell (vk_get (by omega)))⟩⟩
            · exact .inl ⟨by kernel_rfl, fun L a1 w1 n h => ⟨_, rfl, run_index0 65 (.tmp 10) (.const (.int .i64 1)) 4 3 gp 1 rfl Tryd.underlying65 Tryd.sizeOf3 (h.var n 10 (by kernel_rfl)) rfl (by decide)⟩⟩
            · exact .inl ⟨by kernel_rfl, fun L a1 w1 n h => ⟨_, rfl, run_loadA 3 (.tmp 37) ⟨gp, 1, none⟩ rfl Tryd.isAgg3 (h.dep n 12 37 (by kernel_rfl) rfl) (h.inv.1.cell rfl)⟩⟩
            · exact .inl ⟨by kernel_rfl, fun L a1 w1 n h => ⟨_, rfl, run_index0 63 (.tmp 8) (.tmp 38) 16 43 gx b rfl Tryd.underlying63 Tryd.sizeOf43 (h.var n 8 (by kernel_rfl)) (h.dep n 13 38 (by kernel_rfl) rfl) hb⟩⟩
            · exact .inl ⟨by kernel_rfl, fun L a1 w1 n h => ⟨_, rfl, run_loadA 43 (.tmp 39) ⟨gx, b, none⟩ rfl Tryd.isAgg43 (h.dep n 14 39 (by kernel_rfl) rfl) ((J8.start h.inv (n.later (j := 31) (by kernel_rfl)) (n.later (j := 33) (by kernel_rfl)) (n.later (j := 35) (by kernel_rfl)) (n.later (j := 37) (by kernel_rfl))).cell (vk_get (by omega)))⟩⟩
            · exact .inl ⟨by kernel_rfl, fun L a1 w1 n h => ⟨_, rfl, run_index0 65 (.tmp 10) (.const (.int .i64 2)) 4 3 gp 2 rfl Tryd.underlying65 Tryd.sizeOf3 (h.var n 10 (by kernel_rfl)) rfl (by decide)⟩⟩
            · exact .inl ⟨by kernel_rfl, fun L a1 w1 n h => ⟨_, rfl, run_loadA 3 (.tmp 41) ⟨gp, 2, none⟩ rfl Tryd.isAgg3 (h.dep n 16 41 (by kernel_rfl) rfl) (h.inv.1.cell rfl)⟩⟩
            · exact .inl ⟨by kernel_rfl, fun L a1 w1 n h => ⟨_, rfl, run_index0 63 (.tmp 8) (.tmp 42) 16 43 gx c rfl Tryd.underlying63 Tryd.sizeOf43 (h.var n 8 (by kernel_rfl)) (h.dep n 17 42 (by kernel_rfl) rfl) hc'⟩⟩
            · exact .inl ⟨by kernel_rfl, fun L a1 w1 n h => ⟨_, rfl, run_loadA 43 (.tmp 43) ⟨gx, c, none⟩ rfl Tryd.isAgg43 (h.dep n 18 43 (by kernel_rfl) rfl) ((J8.start h.inv (n.later (j := 31) (by kernel_rfl)) (n.later (j := 33) (by kernel_rfl)) (n.later (j := 35) (by kernel_rfl)) (n.later (j := 37) (by kernel_rfl))).cell (vk_get (by omega)))⟩⟩
            · exact .inl ⟨by kernel_rfl, fun L a1 w1 n h => ⟨_, rfl, run_index0 65 (.tmp 10) (.const (.int .i64 3)) 4 3 gp 3 rfl Tryd.underlying65 Tryd.sizeOf3 (h.var n 10 (by kernel_rfl)) rfl (by decide)⟩⟩
            · exact .inl ⟨by kernel_rfl, fun L a1 w1 n h => ⟨_, rfl, run_loadA 3 (.tmp 45) ⟨gp, 3, none⟩ rfl Tryd.isAgg3 (h.dep n 20 45 (by kernel_rfl) rfl) (h.inv.1.cell rfl)⟩⟩
            · exact .inl ⟨by kernel_rfl, fun L a1 w1 n h => ⟨_, rfl, run_index0 63 (.tmp 8) (.tmp 46) 16 43 gx d rfl Tryd.underlying63 Tryd.sizeOf43 (h.var n 8 (by kernel_rfl)) (h.dep n 21 46 (by kernel_rfl) rfl) hd⟩⟩
            · exact .inl ⟨by kernel_rfl, fun L a1 w1 n h => ⟨_, rfl, run_loadA 43 (.tmp 47) ⟨gx, d, none⟩ rfl Tryd.isAgg43 (h.dep n 22 47 (by kernel_rfl) rfl) ((J8.start h.inv (n.later (j := 31) (by kernel_rfl)) (n.later (j := 33) (by kernel_rfl)) (n.later (j := 35) (by kernel_rfl)) (n.later (j := 37) (by kernel_rfl))).cell (vk_get (by omega)))⟩⟩
            · refine .inr fun L a1 w1 n h K hK => ?_
              refine st_call 37 _ _ #[.int .u32 (xs.getD a 0), .int .u32 (xs.getD b 0), .int .u32 (xs.getD c 0), .int .u32 (xs.getD d 0)] rfl Tryd.call37 ?_ (quarter_any (xs.getD a 0) (xs.getD b 0) (xs.getD c 0) (xs.getD d 0) w1 (hw.getD _) (hw.getD _) (hw.getD _) (hw.getD _)) ?_
              · have e1 : a1.eval (.tmp 36) = _ := h.dep n 11 36 (by kernel_rfl) rfl
                have e2 : a1.eval (.tmp 40) = _ := h.dep n 15 40 (by kernel_rfl) rfl
                have e3 : a1.eval (.tmp 44) = _ := h.dep n 19 44 (by kernel_rfl) rfl
                have e4 : a1.eval (.tmp 48) = _ := h.dep n 23 48 (by kernel_rfl) rfl
                simp only [List.map_toArray, List.map_cons, List.map_nil, e1, e2, e3, e4]
              · rintro e w3 ⟨x, y, z, t, rfl, hq, kx, ky, kz, kt, rfl⟩
                refine ⟨_, rfl, hK _ _ ?_ ?_⟩
                · show _ = qrV _
                  rw [← hq.out]; rfl
                · exact h.inv
            · exact .inl ⟨by kernel_rfl, fun L a1 w1 n h => ⟨_, rfl, run_move (.tmp 49) rfl (h.dep n 24 49 (by kernel_rfl) rfl)⟩⟩
            · exact .inl ⟨by kernel_rfl, fun L a1 w1 n h => ⟨_, rfl, run_extractA (.tmp 24) 0 _ rfl (h.dep n 25 24 (by kernel_rfl) rfl) rfl⟩⟩
            · exact .inl ⟨by kernel_rfl, fun L a1 w1 n h => ⟨_, rfl, run_extractA (.tmp 24) 1 _ rfl (h.dep n 25 24 (by kernel_rfl) rfl) rfl⟩⟩
            · exact .inl ⟨by kernel_rfl, fun L a1 w1 n h => ⟨_, rfl, run_extractA (.tmp 24) 2 _ rfl (h.dep n 25 24 (by kernel_rfl) rfl) rfl⟩⟩
            · exact .inl ⟨by kernel_rfl, fun L a1 w1 n h => ⟨_, rfl, run_extractA (.tmp 24) 3 _ rfl (h.dep n 25 24 (by kernel_rfl) rfl) rfl⟩⟩
            · exact .inl ⟨by kernel_rfl, fun L a1 w1 n h => ⟨_, rfl, run_index0 63 (.tmp 8) (.tmp 26) 16 43 gx a rfl Tryd.underlying63 Tryd.sizeOf43 (h.var n 8 (by kernel_rfl)) (h.dep n 1 26 (by kernel_rfl) rfl) ha⟩⟩
            · refine .inr fun L a1 w1 n h K hK => ?_
              obtain ⟨hr, hb⟩ := J8.at0 h.inv n.not_yet (n.later (j := 33) (by kernel_rfl)) (n.later (j := 35) (by kernel_rfl)) (n.later (j := 37) (by kernel_rfl))
              refine st_store 43 (.tmp 54) (.tmp 50) gx a 63 _ _ rfl (by kernel_rfl) (h.dep n 30 54 (by kernel_rfl) rfl) (h.dep n 26 50 (by kernel_rfl) rfl) hr (by rw [vk_len, upd4_len]; omega) rfl ?_
              intro w3 r3 o3
              refine hK undef w3 trivial ⟨h.inv.1.only o3 hne, ?_, h.inv.2.2.trans (o3.below (Nat.le_refl _))⟩
              rw [vk_set] at r3
              show Row w3 63 gx (vk .u32 (upd4 xs a b c d _ true (L.getD 33 false) (L.getD 35 false) (L.getD 37 false)))
              rw [n.later (j := 33) (by kernel_rfl), n.later (j := 35) (by kernel_rfl), n.later (j := 37) (by kernel_rfl)]
              exact r3
            · exact .inl ⟨by kernel_rfl, fun L a1 w1 n h => ⟨_, rfl, run_index0 63 (.tmp 8) (.tmp 28) 16 43 gx b rfl Tryd.underlying63 Tryd.sizeOf43 (h.var n 8 (by kernel_rfl)) (h.dep n 3 28 (by kernel_rfl) rfl) hb⟩⟩
            · refine .inr fun L a1 w1 n h K hK => ?_
              obtain ⟨hr, hb⟩ := J8.at1 h.inv (n.dep (j := 31) (by kernel_rfl)) n.not_yet (n.later (j := 35) (by kernel_rfl)) (n.later (j := 37) (by kernel_rfl))
              refine st_store 43 (.tmp 55) (.tmp 51) gx b 63 _ _ rfl (by kernel_rfl) (h.dep n 32 55 (by kernel_rfl) rfl) (h.dep n 27 51 (by kernel_rfl) rfl) hr (by rw [vk_len, upd4_len]; omega) rfl ?_
              intro w3 r3 o3
              refine hK undef w3 trivial ⟨h.inv.1.only o3 hne, ?_, h.inv.2.2.trans (o3.below (Nat.le_refl _))⟩
              rw [vk_set] at r3
              show Row w3 63 gx (vk .u32 (upd4 xs a b c d _ (L.getD 31 false) true (L.getD 35 false) (L.getD 37 false)))
              rw [n.dep (j := 31) (by kernel_rfl), n.later (j := 35) (by kernel_rfl), n.later (j := 37) (by kernel_rfl)]
              exact r3
            · exact .inl ⟨by kernel_rfl, fun L a1 w1 n h => ⟨_, rfl, run_index0 63 (.tmp 8) (.tmp 30) 16 43 gx c rfl Tryd.underlying63 Tryd.sizeOf43 (h.var n 8 (by kernel_rfl)) (h.dep n 5 30 (by kernel_rfl) rfl) hc'⟩⟩
            · refine .inr fun L a1 w1 n h K hK => ?_
              obtain ⟨hr, hb⟩ := J8.at2 h.inv (n.dep (j := 31) (by kernel_rfl)) (n.dep (j := 33) (by kernel_rfl)) n.not_yet (n.later (j := 37) (by kernel_rfl))
              refine st_store 43 (.tmp 56) (.tmp 52) gx c 63 _ _ rfl (by kernel_rfl) (h.dep n 34 56 (by kernel_rfl) rfl) (h.dep n 28 52 (by kernel_rfl) rfl) hr (by rw [vk_len, upd4_len]; omega) rfl ?_
              intro w3 r3 o3
              refine hK undef w3 trivial ⟨h.inv.1.only o3 hne, ?_, h.inv.2.2.trans (o3.below (Nat.le_refl _))⟩
              rw [vk_set] at r3
              show Row w3 63 gx (vk .u32 (upd4 xs a b c d _ (L.getD 31 false) (L.getD 33 false) true (L.getD 37 false)))
              rw [n.dep (j := 31) (by kernel_rfl), n.dep (j := 33) (by kernel_rfl), n.later (j := 37) (by kernel_rfl)]
              exact r3
            · exact .inl ⟨by kernel_rfl, fun L a1 w1 n h => ⟨_, rfl, run_index0 63 (.tmp 8) (.tmp 32) 16 43 gx d rfl Tryd.underlying63 Tryd.sizeOf43 (h.var n 8 (by kernel_rfl)) (h.dep n 7 32 (by kernel_rfl) rfl) hd⟩⟩
            · refine .inr fun L a1 w1 n h K hK => ?_
              obtain ⟨hr, hb⟩ := J8.at3 h.inv (n.dep (j := 31) (by kernel_rfl)) (n.dep (j := 33) (by kernel_rfl)) (n.dep (j := 35) (by kernel_rfl)) n.not_yet
              refine st_store 43 (.tmp 57) (.tmp 53) gx d 63 _ _ rfl (by kernel_rfl) (h.dep n 36 57 (by kernel_rfl) rfl) (h.dep n 29 53 (by kernel_rfl) rfl) hr (by rw [vk_len, upd4_len]; omega) rfl ?_
              intro w3 r3 o3
              refine hK undef w3 trivial ⟨h.inv.1.only o3 hne, ?_, h.inv.2.2.trans (o3.below (Nat.le_refl _))⟩
              rw [vk_set] at r3
              show Row w3 63 gx (vk .u32 (upd4 xs a b c d _ (L.getD 31 false) (L.getD 33 false) (L.getD 35 false) true))
              rw [n.dep (j := 31) (by kernel_rfl), n.dep (j := 33) (by kernel_rfl), n.dep (j := 35) (by kernel_rfl)]
              exact r3
          case he =>
            intro V w3 hV hJ
            have hr3 : Row w3 63 gx (vk .u32 (quarts (rounds (begL ks c ns) k) (m + 1))) := by rw [hstep.out]; exact hJ.2.1
            have hb3 : Below gx w11 w3 := hJ.2.2
            clear hV hJ
            simp only [putOps, List.setIfInBounds_toArray, List.set_cons_succ, List.set_cons_zero]
            refine hK1 _ _ ?_
            go_wp2
            go_roundw
            case rel => exact ⟨m + 1, by omega, by go_num, hr3, hb3⟩
            case measure => simp [intOf]; omega
        · go_wp2_with fail
          have h8 : m = 8 := by omega
          rw [h8] at rx
          clear hlm hm h8
          have rx' : Row wr 63 gx (vk .u32 (rounds (begL ks c ns) (k + 1))) := rx
          clear rx
          go_roundw
          case rel => exact ⟨k + 1, by omega, by go_num, rx', bx⟩
          case measure => simp [intOf]; omega
    · go_wp2_with (first
        | (with_reducible refine wl_alloc rfl 47 _ (bv (List.replicate 64 0)) rfl zero64 rfl ?_; intro gr w12 r12 a12 l12 b12))
      have h10 : k = 10 := by omega
      rw [h10] at rx
      generalize Value.int .i64 (k : Int) = s18
      generalize Value.bool (decide ((k : Int) < 10)) = s19
      clear hlt hk h10
      have hgr : gx < gr := by have := bx.size; omega
      have rx3 := rx.later b12
      have rs3 := (rs.below bx (by omega)).later b12
      have r63 := (r6.below bx (by omega)).later b12
      have B12 : Below gx w11 w12 := bx.trans (b12.mono (by have := bx.size; omega))
      clear rx rs r6 bx b12
      go_loopw [60] (fun i wr => ∃ k : Nat, k ≤ 16 ∧ i = .int .i64 k ∧ Row wr 47 gr (bv (blockP ks c ns k ++ List.replicate (64 - 4 * k) 0)) ∧ Below gr w12 wr) (fun i _ => 16 - (intOf i).toNat)
      case atStart => exact ⟨0, by omega, rfl, r12, Below.refl _ _⟩
      case round =>
        clear r12
        obtain ⟨k, hk, rfl, rr, br⟩ := hrel
        have rx4 := rx3.below br hgr
        have rs4 := rs3.below br (by omega)
        by_cases hlt : k < 16
        · go_wp2_with fail
          have hX : w32 ((rounds (begL ks c ns) 10).getD k 0) := (rounds_w (begL_w hk' hn' hc) _).getD k
          have hY : w32 ((begL ks c ns).getD k 0) := (begL_w hk' hn' hc).getD k
          have hN : Hid (blockN ks c ns k = ((rounds (begL ks c ns) 10).getD k 0 + (begL ks c ns).getD k 0) % 4294967296) := rfl
          have lX : k < (rounds (begL ks c ns) 10).length := by rw [rounds_len, hlen.out]; omega
          have lY : k < (begL ks c ns).length := by rw [hlen.out]; omega
          have cX := hide (vk_get (kd := .u32) lX)
          have cY := hide (vk_get (kd := .u32) lY)
          have hfit := fill4 (blockP ks c ns k) (List.replicate (64 - 4 * k) 0) (lowB (blockN ks c ns k) 4) (4 * k) (blockP_len _ _ _ _) (lowB_length _ _)
          rw [← blockP_succ, List.drop_replicate, show 64 - 4 * k - 4 = 64 - 4 * (k + 1) from by omega] at hfit
          have Hfit := hide hfit
          have lP : (blockP ks c ns k ++ List.replicate (64 - 4 * k) 0).length = 64 := by rw [List.length_append, blockP_len, List.length_replicate]; omega
          have HlP := hide lP
          clear hfit lP
          generalize (rounds (begL ks c ns) 10).getD k 0 = X at *
          generalize (begL ks c ns).getD k 0 = Y at *
          rename_i Q1 K1 hK1
          refine wp_region_vals [10, 11] (S15 gr gx gs k X Y) (J15 gr (bv (blockP ks c ns k ++ List.replicate (64 - 4 * k) 0)) (bv (blockP ks c ns (k + 1) ++ List.replicate (64 - 4 * (k + 1)) 0)) (lowB (blockN ks c ns k) 4) w12) (by kernel_rfl) (by kernel_rfl) (by kernel_rfl) (by kernel_rfl) (by kernel_rfl) ⟨rr, br.drew, fun h => by cases h⟩ ?obs ?he
          case obs =>
            refine ⟨?_, ?_, ?_, ?_, ?_, ?_, ?_, ?_, ?_, ?_, ?_, ?_, trivial⟩
            · exact .inl ⟨by kernel_rfl, fun L a1 w1 n h => ⟨_, rfl, run_move (.tmp 12) rfl (h.var n 12 (by kernel_rfl))⟩⟩
            · refine .inl ⟨by kernel_rfl, fun L a1 w1 n h => ⟨.int .i64 ((4 * k : Nat) : Int), rfl, ?_⟩⟩
              have e : a1.eval (.tmp 63) = _ := h.dep n 0 63 (by kernel_rfl) rfl
              unfold execOp
              simp only [e]
              go_simp
              rw [IntWalk.i64_in _ (by omega)]
            · exact .inl ⟨by kernel_rfl, fun L a1 w1 n h => ⟨_, rfl, run_sliceLo 47 (.tmp 11) (.tmp 64) 64 5 gr (4 * k) rfl Tryd.underlying47 Tryd.sizeOf5 (h.var n 11 (by kernel_rfl)) (h.dep n 1 64 (by kernel_rfl) rfl) (by omega)⟩⟩
            · exact .inl ⟨by kernel_rfl, fun L a1 w1 n h => ⟨_, rfl, run_move (.tmp 12) rfl (h.var n 12 (by kernel_rfl))⟩⟩
            · exact .inl ⟨by kernel_rfl, fun L a1 w1 n h => ⟨_, rfl, run_index0 63 (.tmp 8) (.tmp 66) 16 43 gx k rfl Tryd.underlying63 Tryd.sizeOf43 (h.var n 8 (by kernel_rfl)) (h.dep n 3 66 (by kernel_rfl) rfl) hlt⟩⟩
            · exact .inl ⟨by kernel_rfl, fun L a1 w1 n h => ⟨_, rfl, run_loadA 43 (.tmp 67) ⟨gx, k, none⟩ rfl Tryd.isAgg43 (h.dep n 4 67 (by kernel_rfl) rfl) ((rx3.below h.inv.2.1 hgr).cell cX.out)⟩⟩
            · exact .inl ⟨by kernel_rfl, fun L a1 w1 n h => ⟨_, rfl, run_move (.tmp 12) rfl (h.var n 12 (by kernel_rfl))⟩⟩
            · exact .inl ⟨by kernel_rfl, fun L a1 w1 n h => ⟨_, rfl, run_index0 63 (.tmp 7) (.tmp 69) 16 43 gs k rfl Tryd.underlying63 Tryd.sizeOf43 (h.var n 7 (by kernel_rfl)) (h.dep n 6 69 (by kernel_rfl) rfl) hlt⟩⟩
            · exact .inl ⟨by kernel_rfl, fun L a1 w1 n h => ⟨_, rfl, run_loadA 43 (.tmp 70) ⟨gs, k, none⟩ rfl Tryd.isAgg43 (h.dep n 7 70 (by kernel_rfl) rfl) ((rs3.below h.inv.2.1 (by omega)).cell cY.out)⟩⟩
            · refine .inl ⟨by kernel_rfl, fun L a1 w1 n h => ⟨.int .u32 ((X + Y) % 4294967296), rfl, ?_⟩⟩
              have e : a1.eval (.tmp 68) = _ := h.dep n 5 68 (by kernel_rfl) rfl
              have e' : a1.eval (.tmp 71) = _ := h.dep n 8 71 (by kernel_rfl) rfl
              unfold execOp
              simp only [e, e']
              go_simp
              rw [IntKind.wrap_u32']
            · refine .inr fun L a1 w1 n h K hK => ?_
              have e : a1.eval (.tmp 72) = _ := h.dep n 9 72 (by kernel_rfl) rfl
              have no : L.getD 11 false = false := n.later (by kernel_rfl)
              have hl := putLe32_any none 0 0 [] ((X + Y) % 4294967296) w1 Bs.nil_ (by omega) (by omega) (by omega)
              refine st_call 38 _ _ #[.slice none 0 0, .int .u32 ((X + Y) % 4294967296)] rfl Tryd.call38 ?_ hl ?_
              · simp only [List.map_toArray, List.map_cons, List.map_nil, e]; rfl
              · rintro e2 w3 ⟨A, n2, c2, rfl, hbs, hn2, hc2, hb2⟩
                have h4 : n2 = 4 := by rw [← hbs.1]; simp [lowB_length]
                subst h4
                refine ⟨_, rfl, hK _ _ ⟨A, c2, rfl⟩ ⟨?_, h.inv.2.1.trans (hb2.mono ?_), fun _ _ => ⟨A, c2, rfl, ?_⟩⟩⟩
                · show Row w3 47 gr (bif L.getD 11 false then _ else _)
                  rw [no]
                  exact (J15.old_ h.inv no).later hb2
                · have := (J15.old_ h.inv no).lt; omega
                · rw [hN.out]; exact hbs
            · refine .inr fun L a1 w1 n h K hK => ?_
              have yes : L.getD 10 false = true := n.dep (by kernel_rfl)
              obtain ⟨A, c2, hA, hbs⟩ := h.inv.2.2 yes n.not_yet
              have hold := J15.old_ h.inv n.not_yet
              refine st_copy (.tmp 65) (.tmp 73) 24 24 rfl 5 Tryd.underlying24 (by kernel_rfl) gr (4 * k) (64 - 4 * k) (64 - 4 * k) 4 c2 47 _ A (h.dep n 2 65 (by kernel_rfl) rfl) hA _ (lowB (blockN ks c ns k) 4) hold hbs (by omega) (by omega) (by rw [bv_len, HlP.out]; omega) ?_
              intro w3 r3 o3
              rw [Hfit.out] at r3
              refine hK _ w3 trivial ⟨r3, h.inv.2.1.trans (o3.below (Nat.le_refl _)), fun _ h => by cases h⟩
          case he =>
            intro V w3 hV hJ
            have hr3 : Row w3 47 gr (bv (blockP ks c ns (k + 1) ++ List.replicate (64 - 4 * (k + 1)) 0)) := hJ.1
            have hb3 : Below gr w12 w3 := hJ.2.1
            clear hV hJ
            simp only [putOps, List.setIfInBounds_toArray, List.set_cons_succ, List.set_cons_zero]
            refine hK1 _ _ ?_
            go_wp2
            go_roundw
            case rel => exact ⟨k + 1, by omega, by go_num, hr3, hb3⟩
            case measure => simp [intOf]; omega
        · have rr16 : Hid (k = 16) := (by omega : k = 16)
          have r6' := (r63.below br (by omega))
          have hz := size_b (P := Tryd.prog) (T := 47) (n := 64) (by kernel_rfl) (blockL_len ks c ns)
          have Hz := hide hz
          have l64 := hide (show (bv (List.replicate 64 0)).length = (bv (blockL ks c ns)).length by rw [bv_len, bv_len, blockL_len, List.length_replicate])
          have rL : Row wr 47 gr (bv (blockL ks c ns)) := by rw [rr16.out] at rr; simpa [blockL] using rr
          clear hz rr
          go_wp2_with (first
            | (with_reducible refine wl_load_row rfl 47 (.tmp 11) gr 47 (bv (blockL ks c ns)) _ rfl rfl rL Tryd.underlying47 rfl Hz.out ?_)
            | (with_reducible refine wl_store_row rfl 47 (.tmp 6) (.tmp 76) g6 47 _ (bv (blockL ks c ns)) rfl rfl rfl r6' Hz.out l64.out (bv_one' _) ?_; intro w13 r13 o13))
          refine bodyPost_ret (v := .agg (bv (blockL ks c ns)).toArray) ?_ rfl ⟨rfl, ?_⟩
          · exact results_cell_row Tryd.results23 _ _ g6 47 _ (0, 0) _ rfl r13 Tryd.underlying47 rfl (by simpa using Hz.out)
          · exact (B11.trans (B12.mono (by omega))).trans ((br.mono (by omega)).trans (o13.below (by omega)))
end Go.Proofs.YtpnlgmkkikmglabDoor

/-
  The bytes of a stream, as lists: plain mathematics. Own work.
-/
namespace Go.Proofs.YtpnlgmkkikmglabDoor
open Go.RowKit
/-- The byte of the stream with the key ks and the nonce ns that stands at place p, from counter 0 on. -/
def kbyte (ks ns : List Int) (p : Nat) : Int := (blockL ks ((p / 64 : Nat) : Int) ns).getD (p % 64) 0
/-- The n bytes from place p on. -/
def ksl (ks ns : List Int) (p n : Nat) : List Int := (List.range n).map fun i => kbyte ks ns (p + i)
theorem ksl_len (ks ns : List Int) (p n : Nat) : (ksl ks ns p n).length = n := by simp [ksl]
theorem ksl_get {ks ns : List Int} {p n i : Nat} (h : i < n) : (ksl ks ns p n).getD i 0 = kbyte ks ns (p + i) := by
  simp [ksl, List.getD, h]
theorem blockL_by (ks : List Int) (c : Int) (ns : List Int) : IsBy (blockL ks c ns) := blockP_by ks c ns 16
theorem by_getD (b : List Int) (h : IsBy b) (i : Nat) : 0 ≤ b.getD i 0 ∧ b.getD i 0 < 256 := getD_byte h i
theorem kbyte_by (ks ns : List Int) (p : Nat) : 0 ≤ kbyte ks ns p ∧ kbyte ks ns p < 256 := by
  have h := by_getD (blockL ks ((p / 64 : Nat) : Int) ns) (blockL_by _ _ _) (p % 64)
  rw [kbyte]
  exact h
theorem ksl_add (ks ns : List Int) (p n m : Nat) : ksl ks ns p (n + m) = ksl ks ns p n ++ ksl ks ns (p + n) m := by
  simp only [ksl, List.range_add, List.map_append, List.map_map]
  refine congrArg (fun l => List.map (fun i => kbyte ks ns (p + i)) (List.range n) ++ l) ?_
  refine List.map_congr_left fun i _ => ?_
  simp only [Function.comp_apply, Nat.add_assoc]
/-- Some bytes of one block. -/
theorem ksl_block {ks ns : List Int} {p n : Nat} (h : p % 64 + n ≤ 64) : ksl ks ns p n = ((blockL ks ((p / 64 : Nat) : Int) ns).drop (p % 64)).take n := by
  apply List.ext_getElem
  · rw [ksl_len, List.length_take, List.length_drop, blockL_len]; omega
  · intro i h1 h2
    rw [ksl_len] at h1
    have e1 : (p + i) / 64 = p / 64 := by omega
    have e2 : (p + i) % 64 = p % 64 + i := by omega
    have hl : p % 64 + i < (blockL ks ((p / 64 : Nat) : Int) ns).length := by rw [blockL_len]; omega
    simp only [ksl, List.getElem_map, List.getElem_range, kbyte, e1, e2, List.getElem_take, List.getElem_drop, List.getD, List.getElem?_eq_getElem hl, Option.getD_some]
/-- xs, xored with the bytes of the stream from place p on. -/
def outL (ks ns : List Int) (p : Nat) (xs : List Int) : List Int := (List.range xs.length).map fun i => bits .xor .u8 (xs.getD i 0) (kbyte ks ns (p + i))
theorem outL_len (ks ns : List Int) (p : Nat) (xs : List Int) : (outL ks ns p xs).length = xs.length := by simp [outL]
/-- Its first k bytes. -/
def outP (ks ns : List Int) (p : Nat) (xs : List Int) (k : Nat) : List Int := (List.range k).map fun i => bits .xor .u8 (xs.getD i 0) (kbyte ks ns (p + i))
theorem outP_len (ks ns : List Int) (p : Nat) (xs : List Int) (k : Nat) : (outP ks ns p xs k).length = k := by simp [outP]
theorem outP_succ (ks ns : List Int) (p : Nat) (xs : List Int) (k : Nat) : outP ks ns p xs (k + 1) = outP ks ns p xs k ++ [bits .xor .u8 (xs.getD k 0) (kbyte ks ns (p + k))] := by
  simp [outP, List.range_succ]
theorem outP_all (ks ns : List Int) (p : Nat) (xs : List Int) : outP ks ns p xs xs.length = outL ks ns p xs := rfl

/-- How far a stream with l bytes left has come. -/
def pos (l : Nat) : Nat := 274877906944 - l
theorem pos_div {l : Nat} (h0 : 0 < l) (h : l ≤ 274877906944) : ((pos l / 64 : Nat) : Int) = 4294967296 - ((l : Int) + 63) / 64 := by unfold pos; omega
theorem pos_mod {l : Nat} (h : l ≤ 274877906944) : pos l % 64 = (64 - l % 64) % 64 := by unfold pos; omega
theorem pos_sub {l n : Nat} (h : n ≤ l) (hl : l ≤ 274877906944) : pos (l - n) = pos l + n := by unfold pos; omega
end Go.Proofs.YtpnlgmkkikmglabDoor

/-
  A stream: a contract each. Own work.
-/
namespace Go.Proofs.YtpnlgmkkikmglabDoor
open Go.RowKit
/-- A stream's cells. -/
def strm (ks ns : List Int) (l : Int) : List Value := bv ks ++ (bv ns ++ [.int .u64 l])
theorem strm_len {ks ns : List Int} {l : Int} (hk : ks.length = 32) (hn : ns.length = 12) : (strm ks ns l).length = 45 := by simp [strm, bv_len, hk, hn]
theorem strm_left {ks ns : List Int} {l : Int} (hk : ks.length = 32) (hn : ns.length = 12) : (strm ks ns l)[44]? = some (.int .u64 l) := by
  unfold strm
  rw [List.getElem?_append_right (by rw [bv_len]; omega), bv_len, hk, List.getElem?_append_right (by rw [bv_len]; omega), bv_len, hn]
  rfl
theorem strm_set {ks ns : List Int} {l m : Int} (hk : ks.length = 32) (hn : ns.length = 12) : (strm ks ns l).set 44 (.int .u64 m) = strm ks ns m := by
  unfold strm
  rw [List.set_append_right _ _ (by rw [bv_len]; omega), bv_len, hk, List.set_append_right _ _ (by rw [bv_len]; omega), bv_len, hn]
  rfl
theorem built_strm {ks ns : List Int} {l : Int} (hk : ks.length = 32) (hn : ns.length = 12) : Tryd.prog.built 108 [(0, .agg (bv ks).toArray), (1, .agg (bv ns).toArray), (2, .int .u64 l)] = some (strm ks ns l).toArray := by
  rw [built_struct (P := Tryd.prog) (t := 108) (z := .agg (strm (List.replicate 32 0) (List.replicate 12 0) 0).toArray) (zs := [] ++ (bv (List.replicate 32 0) ++ (bv (List.replicate 12 0) ++ [Value.int .u64 0]))) (places := [(0, 32), (32, 12), (44, 1)]) (by kernel_rfl) rfl Tryd.underlying108 (by kernel_rfl)]
  rw [fill_part (V := bv ks) rfl rfl (by rw [bv_len, hk]) rfl (by simp [bv_len]), List.nil_append, fill_part (V := bv ns) rfl rfl (by rw [bv_len, hn]) (by rw [bv_len, hk]) (by simp [bv_len])]
  rw [show bv ks ++ (bv ns ++ [Value.int .u64 0]) = (bv ks ++ bv ns) ++ ([Value.int .u64 0] ++ []) by simp, fill_part (M := [Value.int .u64 0]) (C := []) (V := [.int .u64 l]) rfl rfl rfl (by simp [bv_len, hk, hn]) rfl]
  unfold Instr.fill strm
  simp
set_option maxRecDepth 100000 in
set_option maxHeartbeats 1000000 in
theorem new_any (ks ns : List Int) (c : Int) (w : World) (hk : ks.length = 32) (hn : ns.length = 12) (hc : w32 c) :
    Calls Tryd.prog 55 #[.agg (bv ks).toArray, .int .u32 c, .agg (bv ns).toArray] w fun e w' =>
      ∃ g, e = .returned (.pointer (some ⟨g, 0, none⟩)) ∧ w.heap.size ≤ g ∧ Row w' 108 g (strm ks ns ((4294967296 - c) * 64)) ∧ Below w.heap.size w w' := by
  obtain ⟨c0, c1⟩ := hc
  have zk := hide (size_b (P := Tryd.prog) (T := 22) (by kernel_rfl) hk)
  have zn := hide (size_b (P := Tryd.prog) (T := 23) (by kernel_rfl) hn)
  have hb := hide (built_strm (ks := ks) (ns := ns) (l := (4294967296 - c) * 64) hk hn)
  clear hk hn
  go_enter Tryd.func55, Tryd.ntmps55
  go_wp2_with (first
    | (with_reducible refine wl_box rfl 22 (.tmp 0) _ (bv ks) rfl rfl rfl ?_; intro g3 w3 r3 a3 l3 b3)
    | (with_reducible refine wl_box rfl 23 (.tmp 2) _ (bv ns) rfl rfl rfl ?_; intro g5 w5 r5 a5 l5 b5)
    | (with_reducible refine wl_load_row rfl 22 (.tmp 3) g3 22 (bv ks) _ rfl rfl (r3.later b5) Tryd.underlying22 rfl zk.out ?_)
    | (with_reducible refine wl_load_row rfl 23 (.tmp 5) g5 23 (bv ns) _ rfl rfl r5 Tryd.underlying23 rfl zn.out ?_)
    | ((with_reducible refine wl_build rfl 108 _ rfl _ ?hv _ hb.out ?hk); case hv => rfl)
    | (with_reducible refine wl_box rfl 108 (.tmp 13) _ (strm ks ns ((4294967296 - c) * 64)) rfl rfl rfl ?_; intro g9 w9 r9 a9 l9 b9))
  go_ret
  exact ⟨g9, rfl, by have := b3.size; have := b5.size; omega, r9, (b3.trans (b5.mono b3.size)).trans (b9.mono (Nat.le_trans b3.size b5.size))⟩
end Go.Proofs.YtpnlgmkkikmglabDoor

/-
  A stream, next part: what is left, the next bytes. Own work.
-/
namespace Go.Proofs.YtpnlgmkkikmglabDoor
open Go.RowKit
theorem left_any (ks ns : List Int) (l : Int) (g : Nat) (w : World) (hk : ks.length = 32) (hn : ns.length = 12) (hr : Row w 108 g (strm ks ns l)) :
    Calls Tryd.prog 70 #[.pointer (some ⟨g, 0, none⟩)] w fun e w' => e = .returned (.int .u64 l) ∧ w = w' := by
  have hc := hr.cell (strm_left hk hn)
  clear hk hn
  go_enter Tryd.func70, Tryd.ntmps70
  go_wp2
  go_ret
  exact ⟨rfl, rfl⟩
theorem left_nil (w : World) : Calls Tryd.prog 70 #[.pointer none] w fun e w' => e = .returned (.int .u64 0) ∧ w = w' := by
  go_enter Tryd.func70, Tryd.ntmps70
  go_wp2
  go_ret
  exact ⟨rfl, rfl⟩
/-- Bytes in the middle of a row of bytes. -/
theorem bs_mid {w : World} {t g : Nat} {xs ys : List Int} {q n : Nat} (h : Row w t g (bv xs)) (hy : ys = (xs.drop q).take n) (hl : q + n ≤ xs.length) : Bs w w.heap.size (some ⟨g, q, none⟩) n ys := by
  refine ⟨by rw [hy, List.length_take, List.length_drop]; omega, fun _ => ⟨g, q, rfl, h.lt, fun j hj => ?_⟩⟩
  rw [hy]
  have e : ((xs.drop q).take n).getD j 0 = xs.getD (q + j) 0 := by simp [List.getD, List.getElem?_take, hj, List.getElem?_drop]
  rw [e]
  exact h.cell (vk_get (kd := .u8) (by omega))
/-- What 'next' hands back. -/
def RetNext (ks ns : List Int) (l k g : Nat) (w : World) (e : Ending) (w' : World) : Prop :=
  ∃ b o n c, e = .returned (.slice (some ⟨b, o, none⟩) n c) ∧ w.heap.size ≤ b ∧ n = min k (64 - pos l % 64) ∧ Bs w' w'.heap.size (some ⟨b, o, none⟩) n (ksl ks ns (pos l) n) ∧ Row w' 108 g (strm ks ns ((l - n : Nat) : Int)) ∧ But g w w'
def S3 (g : Nat) (ks ns : List Int) (c : Int) (n : Nat) (v : Value) : Prop :=
  match n with
  | 0 | 1 | 5 | 6 | 2 => v = .pointer (some ⟨g, 0, none⟩) | 7 => v = .pointer (some ⟨g, 32, none⟩)
  | 3 => v = .agg (bv ks).toArray | 8 => v = .agg (bv ns).toArray | 4 => v = .int .u32 c | 9 => v = .agg (bv (blockL ks c ns)).toArray | _ => True
def J3 (w0 : World) (blk : List Value) (bs : List Bool) (vs : List Value) (w : World) : Prop :=
  Below w0.heap.size w0 w ∧ (bs.getD 1 false = true → ∃ g7, vs.getD 1 undef = .pointer (some ⟨g7, 0, none⟩) ∧ w0.heap.size ≤ g7 ∧ Row w 47 g7 (bif bs.getD 2 false then blk else bv (List.replicate 64 0)))
set_option maxRecDepth 100000 in
set_option maxHeartbeats 2000000 in
theorem next_any (ks ns : List Int) (l k g : Nat) (w : World) (hT : Tabs w) (hk : ks.length = 32) (hn : ns.length = 12) (hk' : IsBy ks) (hn' : IsBy ns) (hl0 : 0 < l) (hl : l ≤ 274877906944) (k0 : 0 < k) (hkl : k ≤ l)
    (hr : Row w 108 g (strm ks ns l)) (h2 : 2 ≤ g) :
    Calls Tryd.prog 71 #[.pointer (some ⟨g, 0, none⟩), .int .i64 k] w (RetNext ks ns l k g w) := by
  have hc := hr.cell (strm_left hk hn)
  have zk := hide (size_b (P := Tryd.prog) (T := 22) (by kernel_rfl) hk)
  have zn := hide (size_b (P := Tryd.prog) (T := 23) (by kernel_rfl) hn)
  have Hk := hide hk
  have Hn := hide hn
  have d1 : (0 : Int) ≤ 4294967296 - ((l : Int) + 64 - 1) / 64 := by omega
  have d2 : 4294967296 - ((l : Int) + 64 - 1) / 64 < 4294967296 := by omega
  have e5 := hide (show 4294967296 - ((l : Int) + 64 - 1) / 64 = ((pos l / 64 : Nat) : Int) by unfold pos; omega)
  have e6 := hide (show (64 - (l : Int) % 64) % 64 = ((pos l % 64 : Nat) : Int) by unfold pos; omega)
  clear hk hn
  go_enter Tryd.func71, Tryd.ntmps71
  go_wp2_with fail
  rw [e5.out, e6.out]
  have zB := hide (size_b (P := Tryd.prog) (T := 47) (n := 64) (by kernel_rfl) (blockL_len ks ((pos l / 64 : Nat) : Int) ns))
  have z6 := hide (show (bv (List.replicate 64 0)).length = (bv (blockL ks ((pos l / 64 : Nat) : Int) ns)).length by rw [bv_len, bv_len, blockL_len, List.length_replicate])
  rename_i K1 hK1
  refine wp_region_vals [9, 10, 11] (S3 g ks ns ((pos l / 64 : Nat) : Int)) (J3 w (bv (blockL ks ((pos l / 64 : Nat) : Int) ns))) (by kernel_rfl) (by kernel_rfl) (by kernel_rfl) (by kernel_rfl) (by kernel_rfl) ⟨(Below.refl _ _).drew, fun h => by cases h⟩ ?obs ?he
  case obs =>
    refine ⟨?_, ?_, ?_, ?_, ?_, ?_, ?_, ?_, ?_, ?_, ?_, ?_, trivial⟩
    · exact .inl ⟨by kernel_rfl, fun L a1 w1 n h => ⟨_, rfl, run_move (.tmp 0) rfl (h.var n 0 (by kernel_rfl))⟩⟩
    · refine .inl ⟨by kernel_rfl, fun L a1 w1 n h => ⟨.pointer (some ⟨g, 0, none⟩), rfl, ?_⟩⟩
      have e0 : a1.eval (.tmp 25) = _ := h.dep n 0 25 (by kernel_rfl) rfl
      unfold execOp
      simp only [e0]
      go_simp
    · refine .inl ⟨by kernel_rfl, fun L a1 w1 n h => ⟨.pointer (some ⟨g, 0, none⟩), rfl, ?_⟩⟩
      have e0 : a1.eval (.tmp 26) = _ := h.dep n 1 26 (by kernel_rfl) rfl
      unfold execOp
      simp only [e0]
      go_simp
    · refine .inl ⟨by kernel_rfl, fun L a1 w1 n h => ⟨_, rfl, ?_⟩⟩
      exact run_loadP 22 (.tmp 27) g 0 108 [] (bv ks) _ _ rfl (h.dep n 2 27 (by kernel_rfl) rfl) (hr.later h.inv.1) rfl Tryd.underlying22 rfl zk.out
    · exact .inl ⟨by kernel_rfl, fun L a1 w1 n h => ⟨_, rfl, run_move (.tmp 5) rfl (h.var n 5 (by kernel_rfl))⟩⟩
    · exact .inl ⟨by kernel_rfl, fun L a1 w1 n h => ⟨_, rfl, run_move (.tmp 0) rfl (h.var n 0 (by kernel_rfl))⟩⟩
    · refine .inl ⟨by kernel_rfl, fun L a1 w1 n h => ⟨.pointer (some ⟨g, 0, none⟩), rfl, ?_⟩⟩
      have e0 : a1.eval (.tmp 30) = _ := h.dep n 5 30 (by kernel_rfl) rfl
      unfold execOp
      simp only [e0]
      go_simp
    · refine .inl ⟨by kernel_rfl, fun L a1 w1 n h => ⟨.pointer (some ⟨g, 32, none⟩), rfl, ?_⟩⟩
      have e0 : a1.eval (.tmp 31) = _ := h.dep n 6 31 (by kernel_rfl) rfl
      unfold execOp
      simp only [e0]
      go_simp
    · refine .inl ⟨by kernel_rfl, fun L a1 w1 n h => ⟨_, rfl, ?_⟩⟩
      exact run_loadP 23 (.tmp 32) g 32 108 (bv ks) (bv ns) _ _ rfl (h.dep n 7 32 (by kernel_rfl) rfl) (hr.later h.inv.1) (by rw [bv_len]; exact Hk.out) Tryd.underlying23 rfl zn.out
    · refine .inr fun L a1 w1 n h K hK => ?_
      have e0 : a1.eval (.tmp 28) = _ := h.dep n 3 28 (by kernel_rfl) rfl
      have e1 : a1.eval (.tmp 29) = _ := h.dep n 4 29 (by kernel_rfl) rfl
      have e2 : a1.eval (.tmp 33) = _ := h.dep n 8 33 (by kernel_rfl) rfl
      refine st_call 23 _ _ #[.agg (bv ks).toArray, .int .u32 ((pos l / 64 : Nat) : Int), .agg (bv ns).toArray] rfl Tryd.call23 ?_ (block_any ks ns _ w1 (hT.later h.inv.1) Hk.out Hn.out hk' hn' ⟨by omega, by unfold pos; omega⟩) ?_
      · simp only [List.map_toArray, List.map_cons, List.map_nil, e0, e1, e2]
      · rintro e2 w3 ⟨rfl, hb⟩
        refine ⟨_, rfl, hK _ _ rfl ⟨h.inv.1.trans (hb.mono h.inv.1.size), fun h10 => ?_⟩⟩
        obtain ⟨g7, p7, n7, r7⟩ := h.inv.2 h10
        exact ⟨g7, p7, n7, r7.later hb⟩
    · refine .inr fun L a1 w1 n h K hK => ?_
      have no : L.getD 11 false = false := n.later (by kernel_rfl)
      refine st_alloc 47 _ (bv (List.replicate 64 0)) rfl zero64 rfl ?_
      intro g7 w3 r7 a7 l7 b7
      refine hK _ _ trivial ⟨h.inv.1.trans (b7.mono h.inv.1.size), fun _ => ⟨g7, rfl, by have := h.inv.1.size; omega, ?_⟩⟩
      show Row w3 47 g7 (bif L.getD 11 false then _ else _)
      rw [no]
      exact r7
    · refine .inr fun L a1 w1 n h K hK => ?_
      have yes : L.getD 10 false = true := n.dep (by kernel_rfl)
      have no : L.getD 11 false = false := n.not_yet
      obtain ⟨g7, p7, n7, r7⟩ := h.inv.2 yes
      have r7' : Row w1 47 g7 (bif L.getD 11 false then bv (blockL ks ((pos l / 64 : Nat) : Int) ns) else bv (List.replicate 64 0)) := r7
      rw [no] at r7'
      refine st_store_row 47 (.tmp 7) (.tmp 34) g7 47 _ (bv (blockL ks ((pos l / 64 : Nat) : Int) ns)) rfl p7 (h.dep n 9 34 (by kernel_rfl) rfl) r7' zB.out z6.out (bv_one' _) ?_
      intro w3 r3 o3
      exact hK undef w3 trivial ⟨h.inv.1.trans (o3.below n7), fun _ => ⟨g7, p7, n7, r3⟩⟩
  case he =>
    intro V w3 hV hJ
    obtain ⟨hb3, hJ2⟩ := hJ
    obtain ⟨g7, p7, n7, r7⟩ := hJ2 rfl
    have r7' : Row w3 47 g7 (bv (blockL ks ((pos l / 64 : Nat) : Int) ns)) := r7
    have hr3 := hr.later hb3
    have hc3 := hr3.cell (strm_left Hk.out Hn.out)
    have hp : V 10 = .pointer (some ⟨g7, 0, none⟩) := p7
    have hl3 : g < w3.heap.size := hr3.lt
    have hg7 : g ≠ g7 := by have := hr.lt; omega
    have hsl := hide (strm_len (l := (l : Int)) Hk.out Hn.out)
    clear hJ2 p7 r7 hV hc d1 d2
    simp only [putOps, List.setIfInBounds_toArray, List.set_cons_succ, List.set_cons_zero]
    rw [hp]
    refine hK1 _ _ ?_
    clear hK1 hp
    have hq : pos l % 64 < 64 := by omega
    have hB := hide (ksl_block (ks := ks) (ns := ns) (p := pos l) (n := min k (64 - pos l % 64)) (by omega))
    generalize hqq : pos l % 64 = q at *
    have Hqq := hide hqq
    clear hqq
    have hS1 := fun w => run_sliceArr (P := Tryd.prog) w 47 64 5 Tryd.underlying47 Tryd.sizeOf5 .u64 g7 q hq
    by_cases hkq : k ≤ 64 - q
    · have hS2 := fun w => run_sliceTo (P := Tryd.prog) w 24 5 1 Tryd.underlying24 Tryd.sizeOf5 (some ⟨g7, q, none⟩) (64 - q) (64 - q) .i64 (k : Int) k rfl hkq
      go_wp2_with (first
        | (with_reducible refine wl_store rfl 54 (.tmp 48) (.tmp 46) g 44 108 _ (.int .u64 ((l : Int) - (k : Int))) rfl (by kernel_rfl) rfl rfl hr3 (by rw [hsl.out]; omega) rfl ?_; intro w4 r4 o4))
      go_ret
      rw [strm_set Hk.out Hn.out, show (l : Int) - (k : Int) = ((l - k : Nat) : Int) from by omega] at r4
      have r8 := r7'.only o4 (by omega)
      refine ⟨_, _, _, _, rfl, n7, by rw [Hqq.out]; omega, ?_, r4, (But.of hb3 g).trans (But.only o4)⟩
      rw [show min k (64 - q) = k from by omega] at hB
      exact bs_mid r8 hB.out (by rw [blockL_len]; omega)
    · have hS2 := fun w => run_sliceTo (P := Tryd.prog) w 24 5 1 Tryd.underlying24 Tryd.sizeOf5 (some ⟨g7, q, none⟩) (64 - q) (64 - q) .i64 (64 - (q : Int)) (64 - q) (by omega) (by omega)
      go_wp2_with (first
        | (with_reducible refine wl_store rfl 54 (.tmp 48) (.tmp 46) g 44 108 _ (.int .u64 ((l : Int) - (64 - (q : Int)))) rfl (by kernel_rfl) rfl rfl hr3 (by rw [hsl.out]; omega) rfl ?_; intro w4 r4 o4))
      go_ret
      rw [strm_set Hk.out Hn.out, show (l : Int) - (64 - (q : Int)) = ((l - (64 - q) : Nat) : Int) from by omega] at r4
      have r8 := r7'.only o4 (by omega)
      refine ⟨_, _, _, _, rfl, n7, by rw [Hqq.out]; omega, ?_, r4, (But.of hb3 g).trans (But.only o4)⟩
      rw [show min k (64 - q) = 64 - q from by omega] at hB
      exact bs_mid r8 hB.out (by rw [blockL_len]; omega)
end Go.Proofs.YtpnlgmkkikmglabDoor

/-
  A stream, last part: xoring. Own work.
-/
namespace Go.Proofs.YtpnlgmkkikmglabDoor
open Go.RowKit
theorem zc0 : (Value.int IntKind.u8 0).cells = #[Value.int IntKind.u8 0] := rfl
theorem zI : (0 : Int) = ((0 : Nat) : Int) := rfl
def lenV : Value → Nat | .slice _ n _ => n | _ => 0
theorem rep_split {α : Type} (n : Nat) (x : α) (h : 0 < n) : List.replicate n x = [x] ++ List.replicate (n - 1) x := by
  obtain ⟨m, rfl⟩ : ∃ m, n = m + 1 := ⟨n - 1, by omega⟩
  simp [List.replicate_succ]
/-- What Xor hands back. -/
def RetXor (ks ns : List Int) (l g : Nat) (xs : List Int) (w : World) (e : Ending) (w' : World) : Prop :=
  ∃ b c, e = .returned (.tuple #[.slice (some ⟨b, 0, none⟩) xs.length c, .bool true]) ∧ w.heap.size ≤ b ∧ Bs w' w'.heap.size (some ⟨b, 0, none⟩) xs.length (outL ks ns (pos l) xs) ∧ Row w' 108 g (strm ks ns ((l - xs.length : Nat) : Int)) ∧ But g w w' ∧ xs.length ≤ c ∧ c ≤ maxLen
set_option maxRecDepth 100000 in
set_option maxHeartbeats 1000000 in
theorem sxor_long (ks ns : List Int) (l g n c : Nat) (A : Option Addr) (w : World) (hk : ks.length = 32) (hn : ns.length = 12) (hl : l ≤ 274877906944) (hr : Row w 108 g (strm ks ns l)) (hlong : l < n) (hm : n ≤ maxLen) :
    Calls Tryd.prog 56 #[.pointer (some ⟨g, 0, none⟩), .slice A n c] w fun e w' => e = .returned (.tuple #[.slice none 0 0, .bool false]) ∧ w = w' := by
  unfold maxLen at hm
  go_enter Tryd.func56, Tryd.ntmps56
  go_wp2_with (go_at_call 70; refine (left_any ks ns l g _ hk hn hr).mono ?_; rintro e w' ⟨rfl, rfl⟩)
  go_ret2
  exact ⟨rfl, rfl⟩
theorem sxor_nil (n c : Nat) (A : Option Addr) (w : World) (hn : 0 < n) (hm : n ≤ maxLen) :
    Calls Tryd.prog 56 #[.pointer none, .slice A n c] w fun e w' => e = .returned (.tuple #[.slice none 0 0, .bool false]) ∧ w = w' := by
  unfold maxLen at hm
  go_enter Tryd.func56, Tryd.ntmps56
  go_wp2_with (go_at_call 70; refine (left_nil _).mono ?_; rintro e w' ⟨rfl, rfl⟩)
  go_ret2
  exact ⟨rfl, rfl⟩
theorem But.new {g g' : Nat} {a b c : World} (h : But g a b) (k : Only g' b c) (hg : a.heap.size ≤ g') : But g a c :=
  ⟨k.os.trans h.os, k.tape.trans h.tape, k.output.trans h.output, by rw [k.size]; exact h.size, fun i hi hne => (k.block i (by omega)).trans (h.block i hi hne)⟩
theorem But.later {g : Nat} {a b c : World} (h : But g a b) (k : Below b.heap.size b c) : But g a c := h.trans (But.of k g)
theorem Bs.keepAt {w w' : World} {B b o n : Nat} {xs : List Int} (h : Bs w B (some ⟨b, o, none⟩) n xs) (hk : w'.heap[b]? = w.heap[b]?) : Bs w' B (some ⟨b, o, none⟩) n xs := by
  refine ⟨h.1, fun hn => ?_⟩
  obtain ⟨b', o', e, hb, hc⟩ := h.2 hn
  injection e with e
  injection e with e1 e2 e3
  subst e1
  subst e2
  exact ⟨b, o, rfl, hb, fun j hj => by rw [World.cell?_of_block (w := w) (a := ⟨b, o + j, none⟩) hk]; exact hc j hj⟩
theorem fillStep {ks ns xs : List Int} {p n k : Nat} (hk : k < n) (v : Int) (hv : v = bits .xor .u8 (xs.getD k 0) (kbyte ks ns (p + k))) :
    bv (outP ks ns p xs k) ++ ([Value.int .u8 v] ++ bv (List.replicate (n - k - 1) 0)) = bv (outP ks ns p xs (k + 1) ++ List.replicate (n - (k + 1)) 0) := by
  rw [outP_succ, hv]
  simp [bv, Nat.sub_sub]
theorem fillHead {ks ns xs : List Int} {p n k : Nat} (hk : k < n) :
    bv (outP ks ns p xs k ++ List.replicate (n - k) 0) = bv (outP ks ns p xs k) ++ ([Value.int .u8 0] ++ bv (List.replicate (n - k - 1) 0)) := by
  rw [rep_split (n - k) 0 (by omega)]
  simp [bv]
set_option maxRecDepth 100000 in
set_option maxHeartbeats 1000000 in
theorem sxor_none (ks ns : List Int) (l g c : Nat) (A : Option Addr) (w : World) (hk : ks.length = 32) (hn : ns.length = 12) (hl : l ≤ 274877906944) (hr : Row w 108 g (strm ks ns l)) :
    Calls Tryd.prog 56 #[.pointer (some ⟨g, 0, none⟩), .slice A 0 c] w (RetXor ks ns l g [] w) := by
  obtain ⟨i0, hi, hz, hsz, hbys⟩ := u8_info
  have hln : i0.bytes * 0 ≤ 281474976710656 := by omega
  have h63 : 0 ≤ 9223372036854775807 := by omega
  go_enter Tryd.func56, Tryd.ntmps56
  go_wp2_with (first
    | (go_at_call 70; refine (left_any ks ns l g _ hk hn hr).mono ?_; rintro e w' ⟨rfl, rfl⟩)
    | ((with_reducible refine wl_make rfl 24 _ _ rfl 5 i0 (Value.int IntKind.u8 0) Tryd.underlying24 hi hz hsz zc0 IntKind.i64 IntKind.i64 0 0 _ _ rfl rfl zI zI (Nat.zero_le _) hln h63 ?_); intro go w6 r6 a6 l6 b6))
  go_loop [6] (fun o => o = .slice (some ⟨go, 0, none⟩) 0 0) (fun _ => 0)
  case atStart => rfl
  case round =>
    subst hrel
    go_wp2_with fail
    go_ret2
    exact ⟨_, _, rfl, a6, Bs.nil_, by simpa using hr.later b6, But.of b6 g, Nat.le_refl _, by simp [maxLen]⟩
set_option maxRecDepth 100000 in
set_option maxHeartbeats 2000000 in
theorem sxor_any (ks ns xs : List Int) (l g n c B : Nat) (A : Option Addr) (w : World) (hT : Tabs w) (hk : ks.length = 32) (hn : ns.length = 12) (hk' : IsBy ks) (hn' : IsBy ns) (hl : l ≤ 274877906944)
    (hr : Row w 108 g (strm ks ns l)) (h2 : 2 ≤ g) (hx : Bs w B A n xs) (hB : B ≤ g) (hby : IsBy xs) (hfit : n ≤ l) (hn0 : 0 < n) :
    Calls Tryd.prog 56 #[.pointer (some ⟨g, 0, none⟩), .slice A n c] w (RetXor ks ns l g xs w) := by
  obtain ⟨bA, oA, rfl, hbA, hxc⟩ := hx.2 hn0
  clear hxc
  obtain ⟨i0, hi, hz, hsz, hbys⟩ := u8_info
  have hln : i0.bytes * n ≤ 281474976710656 := by rw [hbys]; omega
  have h63 : n ≤ 9223372036854775807 := by omega
  have hg := hr.lt
  have Hx := hide hx.1
  have hd : decide (l < n) = false := by simp; omega
  go_enter Tryd.func56, Tryd.ntmps56
  go_wp2_with (first
    | (go_at_call 70; refine (left_any ks ns l g _ hk hn hr).mono ?_; rintro e w' ⟨rfl, rfl⟩)
    | ((with_reducible refine wl_make rfl 24 _ _ rfl 5 i0 (Value.int IntKind.u8 0) Tryd.underlying24 hi hz hsz zc0 IntKind.i64 IntKind.i64 0 n _ _ rfl rfl zI rfl (Nat.zero_le _) hln h63 ?_); intro go w6 r6 a6 l6 b6))
  have r6' : Row w6 5 go (bv (outP ks ns (pos l) xs 0 ++ List.replicate (n - 0) 0)) := by simpa [outP, bv] using r6
  have hr6 := hr.later b6
  have B6 := But.of b6 g
  clear r6 b6
  go_loopw [6] (fun o wr => ∃ j : Nat, j ≤ n ∧ o = .slice (some ⟨go, 0, none⟩) j n ∧ Row wr 5 go (bv (outP ks ns (pos l) xs j ++ List.replicate (n - j) 0)) ∧ Row wr 108 g (strm ks ns ((l - j : Nat) : Int)) ∧ But g w wr) (fun o _ => n - lenV o)
  case atStart => exact ⟨0, by omega, rfl, r6', hr6, B6⟩
  case round =>
    clear r6' hr6 B6 l6
    obtain ⟨j, hj, rfl, ro, rg, bw⟩ := hrel
    by_cases hlt : j < n
    · have hsz2 := bw.size
      have hTr := hT.below (bw.below h2 hT.1) (Nat.le_refl 2)
      have hnx := next_any ks ns (l - j) (n - j) g wr hTr hk hn hk' hn' (by omega) (by omega) (by omega) (by omega) rg h2
      rw [show ((n - j : Nat) : Int) = (n : Int) - (j : Int) from by omega] at hnx
      have Hnx := hide hnx
      clear hnx
      go_wp2_with fail
      refine Hnx.out.mono ?_
      rintro e w8 ⟨b, o, m, cm, rfl, hb8, hm8, hs8, rg8, bw8⟩
      clear Hnx rg
      have hgo : go < wr.heap.size := ro.lt
      have hm1 : 0 < m := by omega
      have hm2 : j + m ≤ n := by omega
      have ro8 := ro.but bw8 (by omega)
      have bw9 := bw.trans bw8
      rw [show l - j - m = l - (j + m) from by omega] at rg8
      rw [pos_sub (show j ≤ l by omega) hl] at hs8
      clear bw bw8 ro hm8
      go_wp2_with fail
      go_loopw [6, 31] (fun ov i wr => ∃ q : Nat, q ≤ m ∧ i = .int .i64 q ∧ ov = .slice (some ⟨go, 0, none⟩) (j + q) n ∧ Row wr 5 go (bv (outP ks ns (pos l) xs (j + q) ++ List.replicate (n - (j + q)) 0)) ∧ Row wr 108 g (strm ks ns ((l - (j + m) : Nat) : Int)) ∧ Bs wr wr.heap.size (some ⟨b, o, none⟩) m (ksl ks ns (pos l + j) m) ∧ But g w wr) (fun _ i _ => m - (intOf i).toNat)
      case atStart => exact ⟨0, by omega, rfl, rfl, ro8, rg8, hs8, bw9⟩
      case round =>
        clear ro8 rg8 hs8 bw9
        obtain ⟨q, hq, rfl, rfl, ro, rg, hs, bw⟩ := hrel
        by_cases hlq : q < m
        · have hjq : j + q < n := by omega
          have hxw := hx.below (bw.below (show B ≤ g from hB) (by omega)) 
          obtain ⟨b', o', e1, _, hcd⟩ := hxw.at_ hjq
          injection e1 with e1
          injection e1 with e1 e2 e3
          subst e1
          subst e2
          obtain ⟨b', o', e1, _, hck⟩ := hs.at_ hlq
          injection e1 with e1
          injection e1 with e1 e2 e3
          subst e1
          subst e2
          rw [ksl_get hlq] at hck
          have hX := by_getD xs hby (j + q)
          have hK := kbyte_by ks ns (pos l + j + q)
          have hv := hide (show bits .xor .u8 (xs.getD (j + q) 0) (kbyte ks ns (pos l + j + q)) = bits .xor .u8 (xs.getD (j + q) 0) (kbyte ks ns (pos l + (j + q))) by rw [Nat.add_assoc])
          rw [fillHead hjq] at ro
          generalize hXx : xs.getD (j + q) 0 = X at *
          generalize hKx : kbyte ks ns (pos l + j + q) = Y at *
          have hXx' := hide hXx
          clear hXx hKx
          go_wp2_with (first
            | ((with_reducible refine wl_build1 rfl 24 (.tmp 42) rfl 5 i0 (Value.int IntKind.u8 0) (Value.int IntKind.u8 (bits .xor .u8 X Y)) Tryd.underlying24 hi hz hsz zc0 rfl rfl ?_); intro gn w9 r9 a9 l9 b9)
            | ((with_reducible refine wl_append rfl (.tmp 35) (.tmp 43) 24 rfl 5 i0 Tryd.underlying24 hi hsz go (j + q) n 1 1 ⟨gn, 0, none⟩ rfl rfl _ _ _ [Value.int IntKind.u8 (bits .xor .u8 X Y)] (ro.later b9) (by rw [bv_len, outP_len]) rfl rfl (src_one r9) (one_int _ _) (Nat.succ_le_of_lt hjq) ?_); intro w10 r10 o10))
          rw [fillStep hjq _ (by rw [hv.out, hXx'.out])] at r10
          have hsz10 : w10.heap.size = w9.heap.size := o10.size
          have hs10 := (hs.later b9).keepAt (w' := w10) (o10.block b (by omega))
          rw [← hsz10] at hs10
          have rg10 := (rg.later b9).only o10 (by omega)
          have bw10 := (bw.later b9).new o10 (by omega)
          go_roundw
          case rel => exact ⟨q + 1, by omega, by go_num, rfl, r10, rg10, hs10, bw10⟩
          case measure => simp [intOf]; omega
        · go_wp2_with fail
          obtain rfl : q = m := by omega
          go_roundw
          case rel => exact ⟨j + q, hm2, rfl, ro, rg, bw⟩
          case measure => simp [lenV]; omega
    · go_wp2_with fail
      go_ret2
      obtain rfl : j = n := by omega
      have e := Hx.out
      rw [Nat.sub_self, List.replicate_zero, List.append_nil] at ro
      subst e
      refine ⟨_, _, rfl, a6, bs_mid (q := 0) ro (by rw [List.drop_zero, List.take_of_length_le (by rw [outP_len]; exact Nat.le_refl _), outP_all]) (by rw [outP_len]; omega), rg, bw, Nat.le_refl _, by simp only [maxLen]; omega⟩
theorem sxor_all (ks ns xs : List Int) (l g n c B : Nat) (A : Option Addr) (w : World) (hT : Tabs w) (hk : ks.length = 32) (hn : ns.length = 12) (hk' : IsBy ks) (hn' : IsBy ns) (hl : l ≤ 274877906944)
    (hr : Row w 108 g (strm ks ns l)) (h2 : 2 ≤ g) (hx : Bs w B A n xs) (hB : B ≤ g) (hby : IsBy xs) (hfit : n ≤ l) :
    Calls Tryd.prog 56 #[.pointer (some ⟨g, 0, none⟩), .slice A n c] w (RetXor ks ns l g xs w) := by
  rcases Nat.eq_zero_or_pos n with h0 | h0
  · subst h0
    obtain rfl : xs = [] := List.eq_nil_of_length_eq_zero hx.1
    exact sxor_none ks ns l g c A w hk hn hl hr
  · exact sxor_any ks ns xs l g n c B A w hT hk hn hk' hn' hl hr h2 hx hB hby hfit h0
end Go.Proofs.YtpnlgmkkikmglabDoor

/-
  Xoring with a stream from a counter on; the example. Own work.
-/
namespace Go.Proofs.YtpnlgmkkikmglabDoor
open Go.RowKit
/-- What Xor hands back where the stream is long enough. -/
def RetXorF (ks ns : List Int) (c : Nat) (xs : List Int) (w : World) (e : Ending) (w' : World) : Prop :=
  ∃ A n, e = .returned (.tuple #[.slice A xs.length n, .bool true]) ∧ Bs w' w'.heap.size A xs.length (outL ks ns (64 * c) xs) ∧ Below w.heap.size w w' ∧ xs.length ≤ n ∧ n ≤ maxLen
def RetNo (w : World) (e : Ending) (w' : World) : Prop := e = .returned (.tuple #[.slice none 0 0, .bool false]) ∧ Below w.heap.size w w'
theorem left_cast (c : Nat) (h : c < 4294967296) : (4294967296 - (c : Int)) * 64 = (((4294967296 - c) * 64 : Nat) : Int) := by omega
theorem pos_left (c : Nat) (h : c < 4294967296) : pos ((4294967296 - c) * 64) = 64 * c := by unfold pos; omega
set_option maxRecDepth 100000 in
set_option maxHeartbeats 1000000 in
theorem xor_any (ks ns xs : List Int) (c n cp : Nat) (A : Option Addr) (w : World) (hT : Tabs w) (hk : ks.length = 32) (hn : ns.length = 12) (hk' : IsBy ks) (hn' : IsBy ns) (hc : c < 4294967296)
    (hx : Bs w w.heap.size A n xs) (hby : IsBy xs) (hfit : n ≤ (4294967296 - c) * 64) :
    Calls Tryd.prog 34 #[.agg (bv ks).toArray, .int .u32 (c : Int), .agg (bv ns).toArray, .slice A n cp] w (RetXorF ks ns c xs w) := by
  have zk := hide (size_b (P := Tryd.prog) (T := 22) (by kernel_rfl) hk)
  have zn := hide (size_b (P := Tryd.prog) (T := 23) (by kernel_rfl) hn)
  have hN := fun w => new_any ks ns c w hk hn ⟨by omega, by omega⟩
  have Hk := hide hk
  have Hn := hide hn
  clear hk hn
  go_enter Tryd.func34, Tryd.ntmps34
  go_wp2_with (first
    | (with_reducible refine wl_box rfl 22 (.tmp 0) _ (bv ks) rfl rfl rfl ?_; intro g3 w3 r3 a3 l3 b3)
    | (with_reducible refine wl_box rfl 23 (.tmp 2) _ (bv ns) rfl rfl rfl ?_; intro g5 w5 r5 a5 l5 b5)
    | (with_reducible refine wl_load_row rfl 22 (.tmp 4) g3 22 (bv ks) _ rfl rfl (r3.later b5) Tryd.underlying22 rfl zk.out ?_)
    | (with_reducible refine wl_load_row rfl 23 (.tmp 6) g5 23 (bv ns) _ rfl rfl r5 Tryd.underlying23 rfl zn.out ?_))
  refine (hN _).mono ?_
  rintro e w6 ⟨g, rfl, hg, hr, b6⟩
  rw [left_cast c hc] at hr
  have B6 := (b3.trans (b5.mono b3.size)).trans (b6.mono (Nat.le_trans b3.size b5.size))
  have s3 := b3.size
  have s5 := b5.size
  have hx6 := hx.below B6
  have hpos := hide (pos_left c hc)
  clear hN r3 r5 b3 b5 b6
  go_wp2_with fail
  have hfin : ∀ e w', RetXor ks ns ((4294967296 - c) * 64) g xs w6 e w' → ∃ A n, e = .returned (.tuple #[.slice A xs.length n, .bool true]) ∧ Bs w' w'.heap.size A xs.length (outL ks ns (64 * c) xs) ∧ Hid (Below w.heap.size w w' ∧ xs.length ≤ n ∧ n ≤ maxLen) := by
    rintro e w' ⟨g2, c2, rfl, _, hb, _, hbut, h1, h2⟩
    rw [hpos.out] at hb
    exact ⟨_, c2, rfl, hb, B6.trans (hbut.below (by omega) B6.size), h1, h2⟩
  have Hfin := hide hfin
  clear hfin
  rcases Nat.eq_zero_or_pos n with h0 | h0
  · subst h0
    have hxe : xs = [] := List.eq_nil_of_length_eq_zero hx.1
    subst hxe
    refine (sxor_none ks ns ((4294967296 - c) * 64) g cp A w6 Hk.out Hn.out (by omega) hr).mono ?_
    intro e w' hret
    obtain ⟨A2, c2, rfl, hb, hh⟩ := Hfin.out e w' hret
    clear Hfin hret
    go_wp2
    go_ret2
    exact ⟨A2, c2, rfl, hb, hh.out⟩
  · refine (sxor_any ks ns xs ((4294967296 - c) * 64) g n cp w.heap.size A w6 (hT.later B6) Hk.out Hn.out hk' hn' (by omega) hr (by have := hT.1; omega) hx6 (by omega) hby hfit h0).mono ?_
    intro e w' hret
    obtain ⟨A2, c2, rfl, hb, hh⟩ := Hfin.out e w' hret
    clear Hfin hret
    go_wp2
    go_ret2
    exact ⟨A2, c2, rfl, hb, hh.out⟩
set_option maxRecDepth 100000 in
set_option maxHeartbeats 1000000 in
theorem xor_long (ks ns : List Int) (c n cp : Nat) (A : Option Addr) (w : World) (hk : ks.length = 32) (hn : ns.length = 12) (hc : c < 4294967296) (hm : n ≤ maxLen) (hlong : (4294967296 - c) * 64 < n) :
    Calls Tryd.prog 34 #[.agg (bv ks).toArray, .int .u32 (c : Int), .agg (bv ns).toArray, .slice A n cp] w (RetNo w) := by
  have zk := hide (size_b (P := Tryd.prog) (T := 22) (by kernel_rfl) hk)
  have zn := hide (size_b (P := Tryd.prog) (T := 23) (by kernel_rfl) hn)
  have hN := fun w => new_any ks ns c w hk hn ⟨by omega, by omega⟩
  have Hk := hide hk
  have Hn := hide hn
  clear hk hn
  go_enter Tryd.func34, Tryd.ntmps34
  go_wp2_with (first
    | (with_reducible refine wl_box rfl 22 (.tmp 0) _ (bv ks) rfl rfl rfl ?_; intro g3 w3 r3 a3 l3 b3)
    | (with_reducible refine wl_box rfl 23 (.tmp 2) _ (bv ns) rfl rfl rfl ?_; intro g5 w5 r5 a5 l5 b5)
    | (with_reducible refine wl_load_row rfl 22 (.tmp 4) g3 22 (bv ks) _ rfl rfl (r3.later b5) Tryd.underlying22 rfl zk.out ?_)
    | (with_reducible refine wl_load_row rfl 23 (.tmp 6) g5 23 (bv ns) _ rfl rfl r5 Tryd.underlying23 rfl zn.out ?_))
  refine (hN _).mono ?_
  rintro e w6 ⟨g, rfl, hg, hr, b6⟩
  rw [left_cast c hc] at hr
  have B6 := (b3.trans (b5.mono b3.size)).trans (b6.mono (Nat.le_trans b3.size b5.size))
  clear hN r3 r5 b3 b5 b6
  go_wp2_with fail
  refine (sxor_long ks ns ((4294967296 - c) * 64) g n cp A w6 Hk.out Hn.out (by omega) hr hlong hm).mono ?_
  rintro e w' ⟨rfl, rfl⟩
  go_wp2
  go_ret2
  exact ⟨rfl, B6⟩
end Go.Proofs.YtpnlgmkkikmglabDoor

/-
  What is xored with a stream; where one begins: plain words. Own work.
-/
namespace Go.Proofs.YtpnlgmkkikmglabDoor
open Go.RowKit
/-- Where a stream begins: its cells. -/
def atL (ks : List Int) (c : Int) (ns : List Int) : List Value := bv ks ++ ([.int .u32 c] ++ bv ns)
theorem atRowA {w : World} {T g : Nat} {ks ns : List Int} {c : Int} (r : Row w T g (atL ks c ns)) : Row w T g ([] ++ (bv ks ++ ([Value.int .u32 c] ++ bv ns))) := r
theorem atRowC {w : World} {T g : Nat} {ks ns : List Int} {c : Int} (r : Row w T g (atL ks c ns)) : Row w T g ((bv ks ++ [Value.int .u32 c]) ++ (bv ns ++ [])) := by simpa [atL] using r
theorem atCtr {ks ns : List Int} {c : Int} (hk : (bv ks).length = 32) : (atL ks c ns)[32]? = some (.int .u32 c) := by
  unfold atL
  rw [List.getElem?_append_right (by omega), hk]
  rfl
theorem xor_by {x y : Int} (hx : 0 ≤ x ∧ x < 256) (hy : 0 ≤ y ∧ y < 256) : 0 ≤ bits .xor .u8 x y ∧ bits .xor .u8 x y < 256 := by
  rw [u8_xor x y hx.1 hx.2 hy.1 hy.2]
  have := Nat.xor_lt_two_pow (x := x.toNat) (y := y.toNat) (n := 8) (by omega) (by omega)
  omega
theorem xor_back {x y : Int} (hx : 0 ≤ x ∧ x < 256) (hy : 0 ≤ y ∧ y < 256) : bits .xor .u8 (bits .xor .u8 x y) y = x := by
  have h := xor_by hx hy
  rw [u8_xor _ y h.1 h.2 hy.1 hy.2, u8_xor x y hx.1 hx.2 hy.1 hy.2, Int.toNat_natCast, Nat.xor_assoc, Nat.xor_self, Nat.xor_zero]
  omega
theorem outL_by (ks ns xs : List Int) (p : Nat) (h : IsBy xs) : IsBy (outL ks ns p xs) := by
  intro x hx
  simp only [outL, List.mem_map] at hx
  obtain ⟨i, _, rfl⟩ := hx
  exact xor_by (by_getD xs h i) (kbyte_by _ _ _)
theorem outL_twice (ks ns xs : List Int) (p : Nat) (h : IsBy xs) : outL ks ns p (outL ks ns p xs) = xs := by
  apply List.ext_getElem
  · rw [outL_len, outL_len]
  · intro i h1 h2
    have e : (outL ks ns p xs).getD i 0 = bits .xor .u8 (xs.getD i 0) (kbyte ks ns (p + i)) := by simp [outL, List.getD, h2]
    have e2 : (outL ks ns p (outL ks ns p xs))[i] = bits .xor .u8 ((outL ks ns p xs).getD i 0) (kbyte ks ns (p + i)) := by simp only [outL, List.getElem_map, List.getElem_range]
    rw [e2, e, xor_back (by_getD xs h i) (kbyte_by _ _ _)]
    simp [List.getD, h2]
end Go.Proofs.YtpnlgmkkikmglabDoor

/-
  Pieces of what is xored with a stream: plain words. Own work.
-/
namespace Go.Proofs.YtpnlgmkkikmglabDoor
open Go.RowKit
theorem outL_append (ks ns xs ys : List Int) (p : Nat) : outL ks ns p (xs ++ ys) = outL ks ns p xs ++ outL ks ns (p + xs.length) ys := by
  simp only [outL, List.length_append, List.range_add, List.map_append, List.map_map]
  have e1 : (List.range xs.length).map (fun i => bits .xor .u8 ((xs ++ ys).getD i 0) (kbyte ks ns (p + i))) = (List.range xs.length).map (fun i => bits .xor .u8 (xs.getD i 0) (kbyte ks ns (p + i))) := by
    refine List.map_congr_left fun i hi => ?_
    have hi' := List.mem_range.1 hi
    simp [List.getD, List.getElem?_append_left hi']
  rw [e1]
  refine congrArg (fun l => (List.range xs.length).map (fun i => bits .xor .u8 (xs.getD i 0) (kbyte ks ns (p + i))) ++ l) ?_
  refine List.map_congr_left fun i _ => ?_
  have e2 : (xs ++ ys)[xs.length + i]? = ys[i]? := by rw [List.getElem?_append_right (by omega)]; congr 1; omega
  simp [List.getD, Nat.add_assoc, e2]
theorem three {α : Type} (xs : List α) {I K : Nat} (h : I ≤ K) : xs.take I ++ ((xs.drop I).take (K - I) ++ xs.drop K) = xs := by
  have : (xs.drop I).drop (K - I) = xs.drop K := by rw [List.drop_drop]; congr 1; omega
  rw [← this, List.take_append_drop, List.take_append_drop]
theorem Bs.but {w w' : World} {g b n : Nat} {xs : List Int} (h : Bs w w.heap.size (some ⟨b, 0, none⟩) n xs) (hb : But g w w') (hne : b ≠ g) (hlt : 0 < n → b < w.heap.size) : Bs w' w'.heap.size (some ⟨b, 0, none⟩) n xs := by
  rcases Nat.eq_zero_or_pos n with h0 | h0
  · subst h0
    obtain rfl : xs = [] := List.eq_nil_of_length_eq_zero h.1
    exact Bs.nil_
  · exact (h.keepAt (hb.block b (hlt h0) hne)).up hb.size
theorem Bs.blt {w : World} {B b o n : Nat} {xs : List Int} (h : Bs w B (some ⟨b, o, none⟩) n xs) (hn : 0 < n) : b < B := by
  obtain ⟨b', o', e, hb, _⟩ := h.2 hn
  injection e with e
  injection e with e1 e2 e3
  omega
end Go.Proofs.YtpnlgmkkikmglabDoor

/-
  The document's quarter round in its places: a contract. Own work.
-/
namespace Go.Proofs.YtpnlgmkkikmglabDoor
open Go.RowKit
/-- A call whose answer is laid into a new box. -/
def JBox (w0 : World) (T : Nat) (zs us : List Value) (bs : List Bool) (vs : List Value) (w : World) : Prop :=
  Below w0.heap.size w0 w ∧ (bs.getD 1 false = true → ∃ g : Nat, vs.getD 1 undef = .pointer (some ⟨g, 0, none⟩) ∧ w0.heap.size ≤ g ∧ Row w T g (bif bs.getD 2 false then us else zs))
def q4 (q : Int × Int × Int × Int) : List Int := [q.1, q.2.1, q.2.2.1, q.2.2.2]
theorem qrow {w : World} {T g : Nat} {xs : List Int} {i j k l : Nat} (r : Row w T g (((((vk .u32 xs).set i (.int .u32 (qr (xs.getD i 0) (xs.getD j 0) (xs.getD k 0) (xs.getD l 0)).1)).set j (.int .u32 (qr (xs.getD i 0) (xs.getD j 0) (xs.getD k 0) (xs.getD l 0)).2.1)).set k (.int .u32 (qr (xs.getD i 0) (xs.getD j 0) (xs.getD k 0) (xs.getD l 0)).2.2.1)).set l (.int .u32 (qr (xs.getD i 0) (xs.getD j 0) (xs.getD k 0) (xs.getD l 0)).2.2.2))) : Row w T g (vk .u32 (qat xs i j k l)) := by
  rw [vk_set, vk_set, vk_set, vk_set] at r
  exact r
theorem zero16' : (Tryd.prog.info? 63).map (fun i => i.zero) = some (some (.agg (vk .u32 (List.replicate 16 0)).toArray)) := by kernel_rfl
theorem zero4u : (Tryd.prog.info? 93).map (fun i => i.zero) = some (some (.agg (vk .u32 (List.replicate 4 0)).toArray)) := by kernel_rfl
def SAt (g5 : Nat) (xs : List Int) (i j k l : Nat) (opn : Nat) (v : Value) : Prop :=
  match opn with
  | 0 => v = .int .i64 (i : Int)
  | 1 => v = .pointer (some ⟨g5, i, none⟩)
  | 2 => v = .int .u32 (xs.getD i 0)
  | 3 => v = .int .i64 (j : Int)
  | 4 => v = .pointer (some ⟨g5, j, none⟩)
  | 5 => v = .int .u32 (xs.getD j 0)
  | 6 => v = .int .i64 (k : Int)
  | 7 => v = .pointer (some ⟨g5, k, none⟩)
  | 8 => v = .int .u32 (xs.getD k 0)
  | 9 => v = .int .i64 (l : Int)
  | 10 => v = .pointer (some ⟨g5, l, none⟩)
  | 11 => v = .int .u32 (xs.getD l 0)
  | 12 => v = .agg (vk .u32 (q4 (qr (xs.getD i 0) (xs.getD j 0) (xs.getD k 0) (xs.getD l 0)))).toArray
  | _ => True
set_option maxRecDepth 100000 in
set_option maxHeartbeats 2000000 in
theorem refAt_any (xs : List Int) (i j k l : Nat) (w : World) (hx : xs.length = 16) (hw : IsW xs) (hi : i < 16) (hj : j < 16) (hk : k < 16) (hl : l < 16) :
    Calls Tryd.prog 48 #[.agg (vk .u32 xs).toArray, .int .i64 i, .int .i64 j, .int .i64 k, .int .i64 l] w fun e w' => e = .returned (.agg (vk .u32 (qat xs i j k l)).toArray) ∧ Below w.heap.size w w' := by
  have hlen : 16 ≤ xs.length := by omega
  have zq := hide (size_k (P := Tryd.prog) (T := 63) (kd := .u32) (n := 16) (by kernel_rfl) (show (qat xs i j k l).length = 16 by rw [qat_len, hx]))
  have lq := hide (show (vk .u32 (List.replicate 16 0)).length = (vk .u32 (qat xs i j k l)).length by rw [vk_len, vk_len, qat_len, hx]; rfl)
  clear hx
  go_enter Tryd.func48, Tryd.ntmps48
  go_wp2_with (first
    | (with_reducible refine wl_box rfl 63 (.tmp 0) _ (vk .u32 xs) rfl rfl rfl ?_; intro g5 w1 r1 a1 l1 b1)
    | (with_reducible refine wl_alloc rfl 63 _ (vk .u32 (List.replicate 16 0)) rfl zero16' rfl ?_; intro g10 w2 r2 a2 l2 b2))
  have hr := r1.later b2
  have B2 := b1.trans (b2.mono b1.size)
  clear r1 b2
  rename_i Q1 K1 hK1
  refine wp_region_vals [12, 13, 14] (SAt g5 xs i j k l) (JBox w2 93 (vk .u32 (List.replicate 4 0)) (vk .u32 (q4 (qr (xs.getD i 0) (xs.getD j 0) (xs.getD k 0) (xs.getD l 0))))) (by kernel_rfl) (by kernel_rfl) (by kernel_rfl) (by kernel_rfl) (by kernel_rfl) ⟨(Below.refl _ _).drew, fun h => by cases h⟩ ?obs ?he
  case obs =>
    refine ⟨?_, ?_, ?_, ?_, ?_, ?_, ?_, ?_, ?_, ?_, ?_, ?_, ?_, ?_, ?_, trivial⟩
    · exact .inl ⟨by kernel_rfl, fun L a1 w1 n h => ⟨_, rfl, run_move (.tmp 1) rfl (h.var n 1 (by kernel_rfl))⟩⟩
    · exact .inl ⟨by kernel_rfl, fun L a1 w1 n h => ⟨_, rfl, run_index0 63 (.tmp 5) (.tmp 12) 16 43 g5 i rfl Tryd.underlying63 Tryd.sizeOf43 (h.var n 5 (by kernel_rfl)) (h.dep n 0 12 (by kernel_rfl) rfl) hi⟩⟩
    · exact .inl ⟨by kernel_rfl, fun L a1 w1 n h => ⟨_, rfl, run_loadA 43 (.tmp 13) ⟨g5, i, none⟩ rfl Tryd.isAgg43 (h.dep n 1 13 (by kernel_rfl) rfl) ((hr.later h.inv.1).cell (vk_get (by omega)))⟩⟩
    · exact .inl ⟨by kernel_rfl, fun L a1 w1 n h => ⟨_, rfl, run_move (.tmp 2) rfl (h.var n 2 (by kernel_rfl))⟩⟩
    · exact .inl ⟨by kernel_rfl, fun L a1 w1 n h => ⟨_, rfl, run_index0 63 (.tmp 5) (.tmp 15) 16 43 g5 j rfl Tryd.underlying63 Tryd.sizeOf43 (h.var n 5 (by kernel_rfl)) (h.dep n 3 15 (by kernel_rfl) rfl) hj⟩⟩
    · exact .inl ⟨by kernel_rfl, fun L a1 w1 n h => ⟨_, rfl, run_loadA 43 (.tmp 16) ⟨g5, j, none⟩ rfl Tryd.isAgg43 (h.dep n 4 16 (by kernel_rfl) rfl) ((hr.later h.inv.1).cell (vk_get (by omega)))⟩⟩
    · exact .inl ⟨by kernel_rfl, fun L a1 w1 n h => ⟨_, rfl, run_move (.tmp 3) rfl (h.var n 3 (by kernel_rfl))⟩⟩
    · exact .inl ⟨by kernel_rfl, fun L a1 w1 n h => ⟨_, rfl, run_index0 63 (.tmp 5) (.tmp 18) 16 43 g5 k rfl Tryd.underlying63 Tryd.sizeOf43 (h.var n 5 (by kernel_rfl)) (h.dep n 6 18 (by kernel_rfl) rfl) hk⟩⟩
    · exact .inl ⟨by kernel_rfl, fun L a1 w1 n h => ⟨_, rfl, run_loadA 43 (.tmp 19) ⟨g5, k, none⟩ rfl Tryd.isAgg43 (h.dep n 7 19 (by kernel_rfl) rfl) ((hr.later h.inv.1).cell (vk_get (by omega)))⟩⟩
    · exact .inl ⟨by kernel_rfl, fun L a1 w1 n h => ⟨_, rfl, run_move (.tmp 4) rfl (h.var n 4 (by kernel_rfl))⟩⟩
    · exact .inl ⟨by kernel_rfl, fun L a1 w1 n h => ⟨_, rfl, run_index0 63 (.tmp 5) (.tmp 21) 16 43 g5 l rfl Tryd.underlying63 Tryd.sizeOf43 (h.var n 5 (by kernel_rfl)) (h.dep n 9 21 (by kernel_rfl) rfl) hl⟩⟩
    · exact .inl ⟨by kernel_rfl, fun L a1 w1 n h => ⟨_, rfl, run_loadA 43 (.tmp 22) ⟨g5, l, none⟩ rfl Tryd.isAgg43 (h.dep n 10 22 (by kernel_rfl) rfl) ((hr.later h.inv.1).cell (vk_get (by omega)))⟩⟩
    · refine .inr fun L a1 w1 n h K hK => ?_
      have e0 : a1.eval (.tmp 14) = _ := h.dep n 2 14 (by kernel_rfl) rfl
      have e1 : a1.eval (.tmp 17) = _ := h.dep n 5 17 (by kernel_rfl) rfl
      have e2 : a1.eval (.tmp 20) = _ := h.dep n 8 20 (by kernel_rfl) rfl
      have e3 : a1.eval (.tmp 23) = _ := h.dep n 11 23 (by kernel_rfl) rfl
      refine st_call 65 _ _ #[.int .u32 (xs.getD i 0), .int .u32 (xs.getD j 0), .int .u32 (xs.getD k 0), .int .u32 (xs.getD l 0)] rfl Tryd.call65 ?_ (refQuarter_any (xs.getD i 0) (xs.getD j 0) (xs.getD k 0) (xs.getD l 0) w1 (hw.getD _) (hw.getD _) (hw.getD _) (hw.getD _)) ?_
      · simp only [List.map_toArray, List.map_cons, List.map_nil, e0, e1, e2, e3]
      · rintro e w3 ⟨x, y, z, t, rfl, hq, _, _, _, _, hb⟩
        refine ⟨_, rfl, hK _ _ ?_ ⟨h.inv.1.trans (hb.mono h.inv.1.size), fun h10 => ?_⟩⟩
        · show _ = Value.agg (vk .u32 (q4 _)).toArray
          rw [← hq.out]; rfl
        · obtain ⟨g7, p7, n7, r7⟩ := h.inv.2 h10
          exact ⟨g7, p7, n7, r7.later hb⟩
    · refine .inr fun L a1 w1 n h K hK => ?_
      have no : L.getD 14 false = false := n.later (by kernel_rfl)
      refine st_alloc 93 _ (vk .u32 (List.replicate 4 0)) rfl zero4u rfl ?_
      intro g7 w3 r7 a7 l7 b7
      refine hK _ _ trivial ⟨h.inv.1.trans (b7.mono h.inv.1.size), fun _ => ⟨g7, rfl, by have := h.inv.1.size; omega, ?_⟩⟩
      show Row w3 93 g7 (bif L.getD 14 false then _ else _)
      rw [no]
      exact r7
    · refine .inr fun L a1 w1 n h K hK => ?_
      have yes : L.getD 13 false = true := n.dep (by kernel_rfl)
      have no : L.getD 14 false = false := n.not_yet
      obtain ⟨g7, p7, n7, r7⟩ := h.inv.2 yes
      have r7' : Row w1 93 g7 (bif L.getD 14 false then vk .u32 (q4 (qr (xs.getD i 0) (xs.getD j 0) (xs.getD k 0) (xs.getD l 0))) else vk .u32 (List.replicate 4 0)) := r7
      rw [no] at r7'
      refine st_store_row 93 (.tmp 11) (.tmp 24) g7 93 _ (vk .u32 (q4 (qr (xs.getD i 0) (xs.getD j 0) (xs.getD k 0) (xs.getD l 0)))) rfl p7 (h.dep n 12 24 (by kernel_rfl) rfl) r7' (by kernel_rfl) rfl (vk_one' _ _) ?_
      intro w3 r3 o3
      exact hK undef w3 trivial ⟨h.inv.1.trans (o3.below n7), fun _ => ⟨g7, p7, n7, r3⟩⟩
  case he =>
    intro V w3 hV hJ
    obtain ⟨hb3, hJ2⟩ := hJ
    obtain ⟨gq, pq, nq, rq⟩ := hJ2 rfl
    have rq' : Row w3 93 gq (vk .u32 (q4 (qr (xs.getD i 0) (xs.getD j 0) (xs.getD k 0) (xs.getD l 0)))) := rq
    have hp : V 13 = .pointer (some ⟨gq, 0, none⟩) := pq
    have r3 := hr.later hb3
    have r10 := r2.later hb3
    have B3 := B2.trans (hb3.mono B2.size)
    have n5 : g5 ≠ gq := by omega
    have n5' : gq ≠ g5 := by omega
    have n10 : g10 ≠ g5 := by omega
    have n10q : g10 ≠ gq := by omega
    clear hV hJ2 pq rq hr r2 hb3 B2
    simp only [putOps, List.setIfInBounds_toArray, List.set_cons_succ, List.set_cons_zero]
    rw [hp]
    refine hK1 _ _ ?_
    clear hK1 hp
    generalize hqq : qr (xs.getD i 0) (xs.getD j 0) (xs.getD k 0) (xs.getD l 0) = q at *
    have Hq := hide hqq
    clear hqq
    go_wp2_with (first
      | (with_reducible refine wl_load rfl 43 (.tmp 26) gq 0 93 _ (.int .u32 q.1) rfl Tryd.isAgg43 rfl rq' rfl ?_)
      | (with_reducible refine wl_store rfl 43 (.tmp 28) (.tmp 27) g5 i 63 _ (.int .u32 q.1) rfl (by kernel_rfl) rfl rfl r3 (by rw [vk_len]; omega) rfl ?_; intro w4 r4 o4)
      | (with_reducible refine wl_load rfl 43 (.tmp 30) gq 1 93 _ (.int .u32 q.2.1) rfl Tryd.isAgg43 rfl (rq'.only o4 n5') rfl ?_)
      | (with_reducible refine wl_store rfl 43 (.tmp 32) (.tmp 31) g5 j 63 _ (.int .u32 q.2.1) rfl (by kernel_rfl) rfl rfl r4 (by rw [List.length_set, vk_len]; omega) rfl ?_; intro w5 r5 o5)
      | (with_reducible refine wl_load rfl 43 (.tmp 34) gq 2 93 _ (.int .u32 q.2.2.1) rfl Tryd.isAgg43 rfl ((rq'.only o4 n5').only o5 n5') rfl ?_)
      | (with_reducible refine wl_store rfl 43 (.tmp 36) (.tmp 35) g5 k 63 _ (.int .u32 q.2.2.1) rfl (by kernel_rfl) rfl rfl r5 (by rw [List.length_set, List.length_set, vk_len]; omega) rfl ?_; intro w6 r6 o6)
      | (with_reducible refine wl_load rfl 43 (.tmp 38) gq 3 93 _ (.int .u32 q.2.2.2) rfl Tryd.isAgg43 rfl (((rq'.only o4 n5').only o5 n5').only o6 n5') rfl ?_)
      | (with_reducible refine wl_store rfl 43 (.tmp 40) (.tmp 39) g5 l 63 _ (.int .u32 q.2.2.2) rfl (by kernel_rfl) rfl rfl r6 (by rw [List.length_set, List.length_set, List.length_set, vk_len]; omega) rfl ?_; intro w7 r7 o7; rw [← Hq.out] at r7; have r8 := qrow r7)
      | (with_reducible refine wl_load_row rfl 63 (.tmp 5) g5 63 _ _ rfl rfl r8 Tryd.underlying63 rfl zq.out ?_)
      | (with_reducible refine wl_store_row rfl 63 (.tmp 10) (.tmp 41) g10 63 _ _ rfl rfl rfl ((((r10.only o4 n10).only o5 n10).only o6 n10).only o7 n10) zq.out lq.out (vk_one' _ _) ?_; intro w9 r9 o9))
    refine bodyPost_ret (v := .agg (vk .u32 (qat xs i j k l)).toArray) ?_ rfl ⟨rfl, ?_⟩
    · exact results_cell_row Tryd.results48 _ _ g10 63 _ (0, 0) _ rfl r9 Tryd.underlying63 rfl (by simpa using zq.out)
    · exact B3.trans (((((o4.trans o5).trans o6).trans o7).below (show w.heap.size ≤ g5 by omega)).trans (o9.below (by have := b1.size; omega)))
end Go.Proofs.YtpnlgmkkikmglabDoor

/-
  The document's block's numbers at first: a contract. Own work.
-/
namespace Go.Proofs.YtpnlgmkkikmglabDoor
open Go.RowKit
/-- Numbers of four bytes, of which i bytes in all are in. -/
def pw (xs : List Int) (m i : Nat) : List Int := (List.range m).map fun q => leV xs (4 * q) (min 4 (i - 4 * q))
theorem pw_len (xs : List Int) (m i : Nat) : (pw xs m i).length = m := by simp [pw]
theorem pw_get {xs : List Int} {m i q : Nat} (h : q < m) : (pw xs m i).getD q 0 = leV xs (4 * q) (min 4 (i - 4 * q)) := by
  simp [pw, List.getD, h]
theorem pw_zero (xs : List Int) (m : Nat) : pw xs m 0 = List.replicate m 0 := by
  unfold pw
  rw [List.eq_replicate_iff]
  refine ⟨by simp, fun b hb => ?_⟩
  simp only [List.mem_map] at hb
  obtain ⟨q, _, rfl⟩ := hb
  simp [leV]
theorem pw_full (xs : List Int) (m : Nat) : pw xs m (4 * m) = words xs m := by
  unfold pw words
  refine List.map_congr_left fun q hq => ?_
  have := List.mem_range.1 hq
  rw [show min 4 (4 * m - 4 * q) = 4 from by omega]
theorem pw_at {xs : List Int} {m i : Nat} (h : i < 4 * m) : (pw xs m i).getD (i / 4) 0 = leV xs (4 * (i / 4)) (i % 4) := by
  rw [pw_get (by omega), show min 4 (i - 4 * (i / 4)) = i % 4 from by omega]
theorem pw_step {xs : List Int} {m i : Nat} (h : i < 4 * m) : (pw xs m i).set (i / 4) (leV xs (4 * (i / 4)) (i % 4) + xs.getD i 0 * 2 ^ (8 * (i % 4))) = pw xs m (i + 1) := by
  apply List.ext_getElem
  · simp [pw]
  · intro q h1 h2
    rw [pw_len] at h2
    rw [List.getElem_set]
    by_cases hq : i / 4 = q
    · rw [if_pos hq]
      subst hq
      simp only [pw, List.getElem_map, List.getElem_range]
      rw [show min 4 (i + 1 - 4 * (i / 4)) = i % 4 + 1 from by omega]
      simp only [leV]
      rw [show 4 * (i / 4) + i % 4 = i from by omega, pow256_two]
    · rw [if_neg hq]
      simp only [pw, List.getElem_map, List.getElem_range]
      congr 1
      omega
theorem pw_bound {xs : List Int} (hb : IsBy xs) (i : Nat) : 0 ≤ leV xs (4 * (i / 4)) (i % 4) ∧ leV xs (4 * (i / 4)) (i % 4) + xs.getD i 0 * 2 ^ (8 * (i % 4)) < 4294967296 ∧ 0 ≤ xs.getD i 0 * 2 ^ (8 * (i % 4)) := by
  have h1 := leV_bound hb (4 * (i / 4)) (i % 4 + 1)
  have h0 := leV_bound hb (4 * (i / 4)) (i % 4)
  have hx := getD_byte hb i
  simp only [leV] at h1
  rw [show 4 * (i / 4) + i % 4 = i from by omega, pow256_two (i % 4)] at h1
  have h2 : (256 : Int) ^ (i % 4 + 1) ≤ 256 ^ 4 := by
    have h4 : i % 4 = 0 ∨ i % 4 = 1 ∨ i % 4 = 2 ∨ i % 4 = 3 := by omega
    rcases h4 with h | h | h | h <;> rw [h] <;> decide
  have h3 : (256 : Int) ^ 4 = 4294967296 := by decide
  have hp : (0 : Int) < 2 ^ (8 * (i % 4)) := Int.pow_pos (by omega)
  exact ⟨h0.1, by omega, Int.mul_nonneg hx.1 (by omega)⟩
def JS (w0 : World) (T g : Nat) (old new : List Int) (bs : List Bool) (vs : List Value) (w : World) : Prop := Row w T g (vk .u32 (bif bs.getD 0 false then new else old)) ∧ Below g w0 w
theorem JS.old_ {w0 : World} {T g : Nat} {old new : List Int} {bs : List Bool} {vs : List Value} {w : World} (h : JS w0 T g old new bs vs w) (h1 : bs.getD 0 false = false) : Row w T g (vk .u32 old) := by
  have := h.1
  rw [h1] at this
  exact this
theorem at_ks {ks ns : List Int} {c : Int} {i : Nat} (h : i < ks.length) : (atL ks c ns)[0 + i]? = some (.int .u8 (ks.getD i 0)) := by
  unfold atL
  rw [Nat.zero_add, List.getElem?_append_left (by rw [bv_len]; exact h)]
  exact vk_get (kd := .u8) h
theorem at_ns {ks ns : List Int} {c : Int} {i : Nat} (hk : ks.length = 32) (h : i < ns.length) : (atL ks c ns)[33 + i]? = some (.int .u8 (ns.getD i 0)) := by
  unfold atL
  rw [List.getElem?_append_right (by rw [bv_len]; omega), bv_len, hk, List.getElem?_append_right (by simp; omega)]
  rw [show 33 + i - 32 - [Value.int .u32 c].length = i from by simp; omega]
  exact vk_get (kd := .u8) h
def SBa (g1 g3 i : Nat) (X Y Z : Int) (opn : Nat) (v : Value) : Prop :=
  match opn with
  | 0 | 3 | 8 | 13 => v = .int .i64 (i : Int)
  | 1 | 4 => v = .int .i64 ((i / 4 : Nat) : Int)
  | 2 | 5 => v = .int .i64 ((4 + i / 4 : Nat) : Int)
  | 6 | 18 => v = .pointer (some ⟨g3, 4 + i / 4, none⟩)
  | 7 => v = .int .u32 X
  | 9 => v = .pointer (some ⟨g1, 0, none⟩)
  | 10 => v = .pointer (some ⟨g1, 0 + i, none⟩)
  | 11 => v = .int .u8 Y
  | 12 => v = .int .u32 Y
  | 14 => v = .int .i64 ((i % 4 : Nat) : Int)
  | 15 => v = .int .i64 ((8 * (i % 4) : Nat) : Int)
  | 16 => v = .int .u32 Z
  | 17 => v = .int .u32 (X + Z)
  | _ => True
def SBb (g1 g3 i : Nat) (X Y Z : Int) (opn : Nat) (v : Value) : Prop :=
  match opn with
  | 0 | 3 | 8 | 13 => v = .int .i64 (i : Int)
  | 1 | 4 => v = .int .i64 ((i / 4 : Nat) : Int)
  | 2 | 5 => v = .int .i64 ((13 + i / 4 : Nat) : Int)
  | 6 | 18 => v = .pointer (some ⟨g3, 13 + i / 4, none⟩)
  | 7 => v = .int .u32 X
  | 9 => v = .pointer (some ⟨g1, 33, none⟩)
  | 10 => v = .pointer (some ⟨g1, 33 + i, none⟩)
  | 11 => v = .int .u8 Y
  | 12 => v = .int .u32 Y
  | 14 => v = .int .i64 ((i % 4 : Nat) : Int)
  | 15 => v = .int .i64 ((8 * (i % 4) : Nat) : Int)
  | 16 => v = .int .u32 Z
  | 17 => v = .int .u32 (X + Z)
  | _ => True
set_option maxRecDepth 100000 in
set_option maxHeartbeats 2000000 in
theorem begin_any (ks ns : List Int) (c : Nat) (w : World) (hk : ks.length = 32) (hn : ns.length = 12) (hk' : IsBy ks) (hn' : IsBy ns) (hc : c < 4294967296) :
    Calls Tryd.prog 47 #[.agg (atL ks c ns).toArray] w fun e w' => e = .returned (.agg (vk .u32 (begL ks c ns)).toArray) ∧ Below w.heap.size w w' := by
  have h32 := hide (show (bv ks).length = 32 by rw [bv_len, hk])
  have Hk := hide hk
  have Hn := hide hn
  clear hk hn
  go_enter Tryd.func47, Tryd.ntmps47
  go_wp2_with (first
    | (with_reducible refine wl_box rfl 45 (.tmp 0) _ (atL ks c ns) rfl rfl rfl ?_; intro g1 w1 r1 a1 l1 b1)
    | (with_reducible refine wl_alloc (o := ⟨some 2, _, _, _, _, _⟩) rfl 63 _ (vk .u32 (List.replicate 16 0)) rfl zero16' rfl ?_; intro g2 w2 r2 a2 l2 b2)
    | (with_reducible refine wl_alloc (o := ⟨some 3, _, _, _, _, _⟩) rfl 63 _ (vk .u32 (List.replicate 16 0)) rfl zero16' rfl ?_; intro g3 w3 r3 a3 l3 b3)
    | (with_reducible refine wl_store rfl 43 (.tmp 6) _ g3 0 63 _ (.int .u32 1634760805) rfl (by kernel_rfl) rfl rfl r3 (by decide) rfl ?_; intro w4 r4 o4)
    | (with_reducible refine wl_store rfl 43 (.tmp 7) _ g3 1 63 _ (.int .u32 857760878) rfl (by kernel_rfl) rfl rfl r4 (by decide) rfl ?_; intro w5 r5 o5)
    | (with_reducible refine wl_store rfl 43 (.tmp 8) _ g3 2 63 _ (.int .u32 2036477234) rfl (by kernel_rfl) rfl rfl r5 (by decide) rfl ?_; intro w6 r6 o6)
    | (with_reducible refine wl_store rfl 43 (.tmp 9) _ g3 3 63 _ (.int .u32 1797285236) rfl (by kernel_rfl) rfl rfl r6 (by decide) rfl ?_; intro w7 r7 o7))
  have R7 : Row w7 63 g3 (vk .u32 (headL ++ (pw ks 8 0 ++ List.replicate 4 0))) := by rw [pw_zero]; exact r7
  have O7 := ((o4.trans o5).trans o6).trans o7
  have q7 := O7.size
  have g13 : g1 < g3 := by have := b2.size; omega
  have R1 := (((r1.later b2).later b3).only O7 (by omega))
  have R2 := ((r2.later b3).only O7 (by omega))
  have B7 := ((b1.trans (b2.mono b1.size)).trans (b3.mono (Nat.le_trans b1.size b2.size))).trans (O7.below (show w.heap.size ≤ g3 by have := b1.size; have := b2.size; omega))
  have a3' : w.heap.size ≤ g3 := by have := b1.size; have := b2.size; omega
  have g23 : g2 < g3 := by omega
  clear r1 r2 r3 r4 r5 r6 r7 o4 o5 o6 o7 O7 b1 b2 b3
  go_loopw [4] (fun iv wr => ∃ i : Nat, i ≤ 32 ∧ iv = .int .i64 i ∧ Row wr 63 g3 (vk .u32 (headL ++ (pw ks 8 i ++ List.replicate 4 0))) ∧ Below g3 w7 wr) (fun iv _ => 32 - (intOf iv).toNat)
  case atStart => exact ⟨0, by omega, rfl, R7, Below.refl _ _⟩
  case round =>
    clear R7
    obtain ⟨i, hi32, rfl, rx, bx⟩ := hrel
    by_cases hi : i < 32
    · go_wp2_with fail
      obtain ⟨hX0, hXZ, hZ0⟩ := pw_bound hk' i
      have hYb := getD_byte hk' i
      have hg : g1 < g3 := g13
      have hX : (vk .u32 (headL ++ (pw ks 8 i ++ List.replicate 4 0)))[4 + i / 4]? = some (.int .u32 (leV ks (4 * (i / 4)) (i % 4))) := by
        rw [vk_get (by simp [headL, pw_len]; omega), List.getD, List.getElem?_append_right (by simp [headL]), show 4 + i / 4 - headL.length = i / 4 from by simp [headL], List.getElem?_append_left (by rw [pw_len]; omega), ← pw_at (xs := ks) (m := 8) (i := i) (by omega)]
        rfl
      have hY : (atL ks c ns)[0 + i]? = some (.int .u8 (ks.getD i 0)) := at_ks (by rw [Hk.out]; exact hi)
      have hnew : (headL ++ (pw ks 8 i ++ List.replicate 4 0)).set (4 + i / 4) (leV ks (4 * (i / 4)) (i % 4) + ks.getD i 0 * 2 ^ (8 * (i % 4))) = headL ++ (pw ks 8 (i + 1) ++ List.replicate 4 0) := by
        rw [List.set_append_right _ _ (by simp [headL]), show 4 + i / 4 - headL.length = i / 4 from by simp [headL], List.set_append_left _ _ (by rw [pw_len]; omega), pw_step (by omega)]
      have hlen : (headL ++ (pw ks 8 i ++ List.replicate 4 0)).length = 16 := by simp [headL, pw_len]
      have hZe : ks.getD i 0 * 2 ^ (8 * (i % 4)) = ks.getD i 0 * 2 ^ (8 * (i % 4)) := rfl
      have HX := hide hX
      have HY := hide hY
      have HN := hide hnew
      have HL := hide hlen
      clear hX hY hnew hlen hZe
      generalize leV ks (4 * (i / 4)) (i % 4) = X at *
      generalize hYe : ks.getD i 0 = Y at *
      generalize hZe : Y * 2 ^ (8 * (i % 4)) = Z at *
      have HYe := hide hYe
      have HZe := hide hZe
      clear hYe hZe
      rename_i Q1 K1 hK1
      refine wp_region_vals [19] (SBa g1 g3 i X Y Z) (JS w7 63 g3 (headL ++ (pw ks 8 i ++ List.replicate 4 0)) (headL ++ (pw ks 8 (i + 1) ++ List.replicate 4 0))) (by kernel_rfl) (by kernel_rfl) (by kernel_rfl) (by kernel_rfl) (by kernel_rfl) ⟨rx, bx.drew⟩ ?obsA ?heA
      case obsA =>
        have hX := HX.out
        have hY := HY.out
        have hnew := HN.out
        have hlen := HL.out
        have r1 := R1
        have hZe := HZe.out
        refine ⟨?_, ?_, ?_, ?_, ?_, ?_, ?_, ?_, ?_, ?_, ?_, ?_, ?_, ?_, ?_, ?_, ?_, ?_, ?_, ?_, trivial⟩
        · exact .inl ⟨by kernel_rfl, fun L a1 w1 n h => ⟨_, rfl, run_move (.tmp 4) rfl (h.var n 4 (by kernel_rfl))⟩⟩
        · refine .inl ⟨by kernel_rfl, fun L a1 w1 n h => ⟨.int .i64 ((i / 4 : Nat) : Int), rfl, ?_⟩⟩
          have e0 : a1.eval (.tmp 14) = _ := h.dep n 0 14 (by kernel_rfl) rfl
          unfold execOp
          simp only [e0]
          go_simp
          rw [IntWalk.i64_in _ (by omega)]
        · refine .inl ⟨by kernel_rfl, fun L a1 w1 n h => ⟨.int .i64 ((4 + i / 4 : Nat) : Int), rfl, ?_⟩⟩
          have e0 : a1.eval (.tmp 15) = _ := h.dep n 1 15 (by kernel_rfl) rfl
          unfold execOp
          simp only [e0]
          go_simp
          rw [IntWalk.i64_in _ (by omega)]
        · exact .inl ⟨by kernel_rfl, fun L a1 w1 n h => ⟨_, rfl, run_move (.tmp 4) rfl (h.var n 4 (by kernel_rfl))⟩⟩
        · refine .inl ⟨by kernel_rfl, fun L a1 w1 n h => ⟨.int .i64 ((i / 4 : Nat) : Int), rfl, ?_⟩⟩
          have e0 : a1.eval (.tmp 17) = _ := h.dep n 3 17 (by kernel_rfl) rfl
          unfold execOp
          simp only [e0]
          go_simp
          rw [IntWalk.i64_in _ (by omega)]
        · refine .inl ⟨by kernel_rfl, fun L a1 w1 n h => ⟨.int .i64 ((4 + i / 4 : Nat) : Int), rfl, ?_⟩⟩
          have e0 : a1.eval (.tmp 18) = _ := h.dep n 4 18 (by kernel_rfl) rfl
          unfold execOp
          simp only [e0]
          go_simp
          rw [IntWalk.i64_in _ (by omega)]
        · exact .inl ⟨by kernel_rfl, fun L a1 w1 n h => ⟨_, rfl, run_index0 63 (.tmp 3) (.tmp 19) 16 43 g3 (4 + i / 4) rfl Tryd.underlying63 Tryd.sizeOf43 (h.var n 3 (by kernel_rfl)) (h.dep n 5 19 (by kernel_rfl) rfl) (by omega)⟩⟩
        · exact .inl ⟨by kernel_rfl, fun L a1 w1 n h => ⟨_, rfl, run_loadA 43 (.tmp 20) ⟨g3, (4 + i / 4), none⟩ rfl Tryd.isAgg43 (h.dep n 6 20 (by kernel_rfl) rfl) ((JS.old_ h.inv (n.later (j := 19) (by kernel_rfl))).cell hX)⟩⟩
        · exact .inl ⟨by kernel_rfl, fun L a1 w1 n h => ⟨_, rfl, run_move (.tmp 4) rfl (h.var n 4 (by kernel_rfl))⟩⟩
        · refine .inl ⟨by kernel_rfl, fun L a1 w1 n h => ⟨.pointer (some ⟨g1, 0, none⟩), rfl, ?_⟩⟩
          have e0 : a1.eval (.tmp 1) = _ := h.var n 1 (by kernel_rfl)
          unfold execOp
          simp only [e0]
          go_simp
        · exact .inl ⟨by kernel_rfl, fun L a1 w1 n h => ⟨_, rfl, run_indexA 22 (.tmp 23) (.tmp 22) 32 5 g1 0 i rfl Tryd.underlying22 Tryd.sizeOf5 (h.dep n 9 23 (by kernel_rfl) rfl) (h.dep n 8 22 (by kernel_rfl) rfl) hi⟩⟩
        · exact .inl ⟨by kernel_rfl, fun L a1 w1 n h => ⟨_, rfl, run_loadA 5 (.tmp 24) ⟨g1, 0 + i, none⟩ rfl Tryd.isAgg5 (h.dep n 10 24 (by kernel_rfl) rfl) ((r1.below h.inv.2 hg).cell hY)⟩⟩
        · refine .inl ⟨by kernel_rfl, fun L a1 w1 n h => ⟨.int .u32 Y, rfl, ?_⟩⟩
          have e0 : a1.eval (.tmp 25) = _ := h.dep n 11 25 (by kernel_rfl) rfl
          unfold execOp
          simp only [e0]
          go_simp
          rw [IntWalk.u32_in _ (by omega)]
        · exact .inl ⟨by kernel_rfl, fun L a1 w1 n h => ⟨_, rfl, run_move (.tmp 4) rfl (h.var n 4 (by kernel_rfl))⟩⟩
        · refine .inl ⟨by kernel_rfl, fun L a1 w1 n h => ⟨.int .i64 ((i % 4 : Nat) : Int), rfl, ?_⟩⟩
          have e0 : a1.eval (.tmp 27) = _ := h.dep n 13 27 (by kernel_rfl) rfl
          unfold execOp
          simp only [e0]
          go_simp
          rw [Int.tmod_eq_emod_of_nonneg (by omega)]
        · refine .inl ⟨by kernel_rfl, fun L a1 w1 n h => ⟨.int .i64 ((8 * (i % 4) : Nat) : Int), rfl, ?_⟩⟩
          have e0 : a1.eval (.tmp 28) = _ := h.dep n 14 28 (by kernel_rfl) rfl
          unfold execOp
          simp only [e0]
          go_simp
          rw [IntWalk.i64_in _ (by omega)]
        · refine .inl ⟨by kernel_rfl, fun L a1 w1 n h => ⟨.int .u32 Z, rfl, ?_⟩⟩
          have e0 : a1.eval (.tmp 26) = _ := h.dep n 12 26 (by kernel_rfl) rfl
          have e1 : a1.eval (.tmp 29) = _ := h.dep n 15 29 (by kernel_rfl) rfl
          unfold execOp
          simp only [e0, e1]
          go_simp
          rw [show (8 * ((i : Int) % 4)).toNat = 8 * (i % 4) from by omega, hZe, IntWalk.u32_in _ (by omega)]
        · refine .inl ⟨by kernel_rfl, fun L a1 w1 n h => ⟨.int .u32 (X + Z), rfl, ?_⟩⟩
          have e0 : a1.eval (.tmp 21) = _ := h.dep n 7 21 (by kernel_rfl) rfl
          have e1 : a1.eval (.tmp 30) = _ := h.dep n 16 30 (by kernel_rfl) rfl
          unfold execOp
          simp only [e0, e1]
          go_simp
          rw [IntWalk.u32_in _ (by omega)]
        · exact .inl ⟨by kernel_rfl, fun L a1 w1 n h => ⟨_, rfl, run_index0 63 (.tmp 3) (.tmp 16) 16 43 g3 (4 + i / 4) rfl Tryd.underlying63 Tryd.sizeOf43 (h.var n 3 (by kernel_rfl)) (h.dep n 2 16 (by kernel_rfl) rfl) (by omega)⟩⟩
        · refine .inr fun L a1 w1 n h K hK => ?_
          have hold := JS.old_ h.inv n.not_yet
          refine st_store 43 (.tmp 32) (.tmp 31) g3 (4 + i / 4) 63 _ (.int .u32 (X + Z)) rfl (by kernel_rfl) (h.dep n 18 32 (by kernel_rfl) rfl) (h.dep n 17 31 (by kernel_rfl) rfl) hold (by rw [vk_len]; omega) rfl ?_
          intro w3 r3 o3
          rw [vk_set, hnew] at r3
          exact hK undef w3 trivial ⟨r3, h.inv.2.trans (o3.below (Nat.le_refl _))⟩
      case heA =>
        intro V w8 hV hJ
        have hr8 : Row w8 63 g3 (vk .u32 (headL ++ (pw ks 8 (i + 1) ++ List.replicate 4 0))) := hJ.1
        have hb8 : Below g3 w7 w8 := hJ.2
        clear hV hJ
        simp only [putOps, List.setIfInBounds_toArray, List.set_cons_succ, List.set_cons_zero]
        refine hK1 _ _ ?_
        go_wp2
        go_roundw
        case rel => exact ⟨i + 1, by omega, by go_num, hr8, hb8⟩
        case measure => simp [intOf]; omega
    · have rx' : Row wr 63 g3 (vk .u32 (headL ++ (words ks 8 ++ List.replicate 4 0))) := by
        rw [show i = 4 * 8 from by omega, pw_full] at rx; exact rx
      have R1' := R1.below bx g13
      have hlen8 := hide (show (vk .u32 (headL ++ (words ks 8 ++ List.replicate 4 0))).length = 16 by simp [vk_len, headL, words_len])
      clear rx
      go_wp2_with (first
        | (with_reducible refine wl_load rfl 43 (.tmp 33) g1 32 45 _ (.int .u32 (c : Int)) rfl Tryd.isAgg43 rfl R1' (atCtr h32.out) ?_)
        | (with_reducible refine wl_store rfl 43 (.tmp 35) (.tmp 34) g3 12 63 _ (.int .u32 (c : Int)) rfl (by kernel_rfl) rfl rfl rx' (by rw [hlen8.out]; decide) rfl ?_; intro w8 r8 o8))
      have R8 : Row w8 63 g3 (vk .u32 ((headL ++ words ks 8 ++ [(c : Int)]) ++ (pw ns 3 0 ++ []))) := by
        rw [vk_set] at r8
        have e : (headL ++ (words ks 8 ++ List.replicate 4 0)).set 12 (c : Int) = (headL ++ words ks 8 ++ [(c : Int)]) ++ (pw ns 3 0 ++ []) := by
          rw [List.set_append_right _ _ (by simp [headL]), show 12 - headL.length = 8 from rfl, List.set_append_right _ _ (by rw [words_len]; omega), words_len, pw_zero]
          simp [List.replicate_succ]
        rw [← e]; exact r8
      have hi32' : i = 32 := by omega
      generalize Value.int .i64 (i : Int) = s4
      generalize hs11 : Value.bool (decide ((i : Int) < 32)) = s11
      have R18 := R1'.only o8 (by omega)
      have B8 := bx.trans (o8.below (Nat.le_refl g3))
      clear r8 rx' R1' o8 bx hs11 hi hi32 hi32'
      go_loopw [5] (fun iv wr => ∃ i : Nat, i ≤ 12 ∧ iv = .int .i64 i ∧ Row wr 63 g3 (vk .u32 ((headL ++ words ks 8 ++ [(c : Int)]) ++ (pw ns 3 i ++ []))) ∧ Below g3 w8 wr) (fun iv _ => 12 - (intOf iv).toNat)
      case atStart => exact ⟨0, by omega, rfl, R8, Below.refl _ _⟩
      case round =>
        clear R8
        obtain ⟨i, hi32, rfl, rx, bx⟩ := hrel
        by_cases hi : i < 12
        · go_wp2_with fail
          obtain ⟨hX0, hXZ, hZ0⟩ := pw_bound hn' i
          have hYb := getD_byte hn' i
          have hg : g1 < g3 := g13
          have lh : (headL ++ words ks 8 ++ [(c : Int)]).length = 13 := by simp [headL, words_len]
          have hX : (vk .u32 ((headL ++ words ks 8 ++ [(c : Int)]) ++ (pw ns 3 i ++ [])))[13 + i / 4]? = some (.int .u32 (leV ns (4 * (i / 4)) (i % 4))) := by
            rw [vk_get (by rw [List.length_append, lh]; simp [pw_len]; omega), List.getD, List.getElem?_append_right (by omega), lh, show 13 + i / 4 - 13 = i / 4 from by omega, List.append_nil, ← pw_at (xs := ns) (m := 3) (i := i) (by omega)]
            rfl
          have hY : (atL ks c ns)[33 + i]? = some (.int .u8 (ns.getD i 0)) := at_ns Hk.out (by rw [Hn.out]; exact hi)
          have hnew : ((headL ++ words ks 8 ++ [(c : Int)]) ++ (pw ns 3 i ++ [])).set (13 + i / 4) (leV ns (4 * (i / 4)) (i % 4) + ns.getD i 0 * 2 ^ (8 * (i % 4))) = (headL ++ words ks 8 ++ [(c : Int)]) ++ (pw ns 3 (i + 1) ++ []) := by
            rw [List.set_append_right _ _ (by omega), lh, show 13 + i / 4 - 13 = i / 4 from by omega, List.append_nil, pw_step (by omega), List.append_nil]
          have hlen : ((headL ++ words ks 8 ++ [(c : Int)]) ++ (pw ns 3 i ++ [])).length = 16 := by rw [List.length_append, lh]; simp [pw_len]
          have HX := hide hX
          have HY := hide hY
          have HN := hide hnew
          have HL := hide hlen
          clear hX hY hnew hlen lh
          generalize leV ns (4 * (i / 4)) (i % 4) = X at *
          generalize hYe : ns.getD i 0 = Y at *
          generalize hZe : Y * 2 ^ (8 * (i % 4)) = Z at *
          have HYe := hide hYe
          have HZe := hide hZe
          clear hYe hZe
          rename_i Q1 K1 hK1
          refine wp_region_vals [19] (SBb g1 g3 i X Y Z) (JS w8 63 g3 ((headL ++ words ks 8 ++ [(c : Int)]) ++ (pw ns 3 i ++ [])) ((headL ++ words ks 8 ++ [(c : Int)]) ++ (pw ns 3 (i + 1) ++ []))) (by kernel_rfl) (by kernel_rfl) (by kernel_rfl) (by kernel_rfl) (by kernel_rfl) ⟨rx, bx.drew⟩ ?obsB ?heB
          case obsB =>
            have hX := HX.out
            have hY := HY.out
            have hnew := HN.out
            have hlen := HL.out
            have r1 := R18
            have hZe := HZe.out
            refine ⟨?_, ?_, ?_, ?_, ?_, ?_, ?_, ?_, ?_, ?_, ?_, ?_, ?_, ?_, ?_, ?_, ?_, ?_, ?_, ?_, trivial⟩
            · exact .inl ⟨by kernel_rfl, fun L a1 w1 n h => ⟨_, rfl, run_move (.tmp 5) rfl (h.var n 5 (by kernel_rfl))⟩⟩
            · refine .inl ⟨by kernel_rfl, fun L a1 w1 n h => ⟨.int .i64 ((i / 4 : Nat) : Int), rfl, ?_⟩⟩
              have e0 : a1.eval (.tmp 40) = _ := h.dep n 0 40 (by kernel_rfl) rfl
              unfold execOp
              simp only [e0]
              go_simp
              rw [IntWalk.i64_in _ (by omega)]
            · refine .inl ⟨by kernel_rfl, fun L a1 w1 n h => ⟨.int .i64 ((13 + i / 4 : Nat) : Int), rfl, ?_⟩⟩
              have e0 : a1.eval (.tmp 41) = _ := h.dep n 1 41 (by kernel_rfl) rfl
              unfold execOp
              simp only [e0]
              go_simp
              rw [IntWalk.i64_in _ (by omega)]
            · exact .inl ⟨by kernel_rfl, fun L a1 w1 n h => ⟨_, rfl, run_move (.tmp 5) rfl (h.var n 5 (by kernel_rfl))⟩⟩
            · refine .inl ⟨by kernel_rfl, fun L a1 w1 n h => ⟨.int .i64 ((i / 4 : Nat) : Int), rfl, ?_⟩⟩
              have e0 : a1.eval (.tmp 43) = _ := h.dep n 3 43 (by kernel_rfl) rfl
              unfold execOp
              simp only [e0]
              go_simp
              rw [IntWalk.i64_in _ (by omega)]
            · refine .inl ⟨by kernel_rfl, fun L a1 w1 n h => ⟨.int .i64 ((13 + i / 4 : Nat) : Int), rfl, ?_⟩⟩
              have e0 : a1.eval (.tmp 44) = _ := h.dep n 4 44 (by kernel_rfl) rfl
              unfold execOp
              simp only [e0]
              go_simp
              rw [IntWalk.i64_in _ (by omega)]
            · exact .inl ⟨by kernel_rfl, fun L a1 w1 n h => ⟨_, rfl, run_index0 63 (.tmp 3) (.tmp 45) 16 43 g3 (13 + i / 4) rfl Tryd.underlying63 Tryd.sizeOf43 (h.var n 3 (by kernel_rfl)) (h.dep n 5 45 (by kernel_rfl) rfl) (by omega)⟩⟩
            · exact .inl ⟨by kernel_rfl, fun L a1 w1 n h => ⟨_, rfl, run_loadA 43 (.tmp 46) ⟨g3, (13 + i / 4), none⟩ rfl Tryd.isAgg43 (h.dep n 6 46 (by kernel_rfl) rfl) ((JS.old_ h.inv (n.later (j := 19) (by kernel_rfl))).cell hX)⟩⟩
            · exact .inl ⟨by kernel_rfl, fun L a1 w1 n h => ⟨_, rfl, run_move (.tmp 5) rfl (h.var n 5 (by kernel_rfl))⟩⟩
            · refine .inl ⟨by kernel_rfl, fun L a1 w1 n h => ⟨.pointer (some ⟨g1, 33, none⟩), rfl, ?_⟩⟩
              have e0 : a1.eval (.tmp 1) = _ := h.var n 1 (by kernel_rfl)
              unfold execOp
              simp only [e0]
              go_simp
            · exact .inl ⟨by kernel_rfl, fun L a1 w1 n h => ⟨_, rfl, run_indexA 23 (.tmp 49) (.tmp 48) 12 5 g1 33 i rfl Tryd.underlying23 Tryd.sizeOf5 (h.dep n 9 49 (by kernel_rfl) rfl) (h.dep n 8 48 (by kernel_rfl) rfl) hi⟩⟩
            · exact .inl ⟨by kernel_rfl, fun L a1 w1 n h => ⟨_, rfl, run_loadA 5 (.tmp 50) ⟨g1, 33 + i, none⟩ rfl Tryd.isAgg5 (h.dep n 10 50 (by kernel_rfl) rfl) ((r1.below h.inv.2 hg).cell hY)⟩⟩
            · refine .inl ⟨by kernel_rfl, fun L a1 w1 n h => ⟨.int .u32 Y, rfl, ?_⟩⟩
              have e0 : a1.eval (.tmp 51) = _ := h.dep n 11 51 (by kernel_rfl) rfl
              unfold execOp
              simp only [e0]
              go_simp
              rw [IntWalk.u32_in _ (by omega)]
            · exact .inl ⟨by kernel_rfl, fun L a1 w1 n h => ⟨_, rfl, run_move (.tmp 5) rfl (h.var n 5 (by kernel_rfl))⟩⟩
            · refine .inl ⟨by kernel_rfl, fun L a1 w1 n h => ⟨.int .i64 ((i % 4 : Nat) : Int), rfl, ?_⟩⟩
              have e0 : a1.eval (.tmp 53) = _ := h.dep n 13 53 (by kernel_rfl) rfl
              unfold execOp
              simp only [e0]
              go_simp
              rw [Int.tmod_eq_emod_of_nonneg (by omega)]
            · refine .inl ⟨by kernel_rfl, fun L a1 w1 n h => ⟨.int .i64 ((8 * (i % 4) : Nat) : Int), rfl, ?_⟩⟩
              have e0 : a1.eval (.tmp 54) = _ := h.dep n 14 54 (by kernel_rfl) rfl
              unfold execOp
              simp only [e0]
              go_simp
              rw [IntWalk.i64_in _ (by omega)]
            · refine .inl ⟨by kernel_rfl, fun L a1 w1 n h => ⟨.int .u32 Z, rfl, ?_⟩⟩
              have e0 : a1.eval (.tmp 52) = _ := h.dep n 12 52 (by kernel_rfl) rfl
              have e1 : a1.eval (.tmp 55) = _ := h.dep n 15 55 (by kernel_rfl) rfl
              unfold execOp
              simp only [e0, e1]
              go_simp
              rw [show (8 * ((i : Int) % 4)).toNat = 8 * (i % 4) from by omega, hZe, IntWalk.u32_in _ (by omega)]
            · refine .inl ⟨by kernel_rfl, fun L a1 w1 n h => ⟨.int .u32 (X + Z), rfl, ?_⟩⟩
              have e0 : a1.eval (.tmp 47) = _ := h.dep n 7 47 (by kernel_rfl) rfl
              have e1 : a1.eval (.tmp 56) = _ := h.dep n 16 56 (by kernel_rfl) rfl
              unfold execOp
              simp only [e0, e1]
              go_simp
              rw [IntWalk.u32_in _ (by omega)]
            · exact .inl ⟨by kernel_rfl, fun L a1 w1 n h => ⟨_, rfl, run_index0 63 (.tmp 3) (.tmp 42) 16 43 g3 (13 + i / 4) rfl Tryd.underlying63 Tryd.sizeOf43 (h.var n 3 (by kernel_rfl)) (h.dep n 2 42 (by kernel_rfl) rfl) (by omega)⟩⟩
            · refine .inr fun L a1 w1 n h K hK => ?_
              have hold := JS.old_ h.inv n.not_yet
              refine st_store 43 (.tmp 58) (.tmp 57) g3 (13 + i / 4) 63 _ (.int .u32 (X + Z)) rfl (by kernel_rfl) (h.dep n 18 58 (by kernel_rfl) rfl) (h.dep n 17 57 (by kernel_rfl) rfl) hold (by rw [vk_len]; omega) rfl ?_
              intro w3 r3 o3
              rw [vk_set, hnew] at r3
              exact hK undef w3 trivial ⟨r3, h.inv.2.trans (o3.below (Nat.le_refl _))⟩
          case heB =>
            intro V w9 hV hJ
            have hr9 : Row w9 63 g3 (vk .u32 ((headL ++ words ks 8 ++ [(c : Int)]) ++ (pw ns 3 (i + 1) ++ []))) := hJ.1
            have hb9 : Below g3 w8 w9 := hJ.2
            clear hV hJ
            simp only [putOps, List.setIfInBounds_toArray, List.set_cons_succ, List.set_cons_zero]
            refine hK1 _ _ ?_
            go_wp2
            go_roundw
            case rel => exact ⟨i + 1, by omega, by go_num, hr9, hb9⟩
            case measure => simp [intOf]; omega
        · have rL : Row wr 63 g3 (vk .u32 (begL ks c ns)) := by
            rw [show i = 4 * 3 from by omega, pw_full] at rx
            have e : (headL ++ words ks 8 ++ [(c : Int)]) ++ (words ns 3 ++ []) = begL ks c ns := by simp [begL]
            rw [← e]; exact rx
          have z16 := hide (size_k (P := Tryd.prog) (T := 63) (kd := .u32) (n := 16) (by kernel_rfl) (begL_len ks c ns))
          have l16 := hide (show (vk .u32 (List.replicate 16 0)).length = (vk .u32 (begL ks c ns)).length by rw [vk_len, vk_len, begL_len]; rfl)
          have R29 := (R2.below B8 g23).below bx g23
          clear rx
          go_wp2_with (first
            | (with_reducible refine wl_load_row rfl 63 (.tmp 3) g3 63 _ _ rfl rfl rL Tryd.underlying63 rfl z16.out ?_)
            | (with_reducible refine wl_store_row rfl 63 (.tmp 2) (.tmp 59) g2 63 _ _ rfl rfl rfl R29 z16.out l16.out (vk_one' _ _) ?_; intro w9 r9 o9))
          refine bodyPost_ret (v := .agg (vk .u32 (begL ks c ns)).toArray) ?_ rfl ⟨rfl, ?_⟩
          · exact results_cell_row Tryd.results47 _ _ g2 63 _ (0, 0) _ rfl r9 Tryd.underlying63 rfl (by simpa using z16.out)
          · exact ((B7.trans (B8.mono a3')).trans (bx.mono a3')).trans (o9.below (by omega))
end Go.Proofs.YtpnlgmkkikmglabDoor

/-
  The document's block: a contract. Own work.
-/
namespace Go.Proofs.YtpnlgmkkikmglabDoor
open Go.RowKit
theorem at_len' {ks ns : List Int} {c : Int} (hk : ks.length = 32) (hn : ns.length = 12) : (atL ks c ns).length = 45 := by simp [atL, bv_len, hk, hn]
def IsSl (n : Nat) (v : Value) : Prop := ∃ A c, v = .slice A n c
theorem own_later {w w' : World} {base e n : Nat} {v : Value} {xs : List Value} (h : w.ownsRow base e 1 v n xs) (hb : Below w.heap.size w w') : w'.ownsRow base e 1 v n xs := by
  refine ⟨h.1, ?_⟩
  rcases h.2 with h2 | ⟨g, cap, cur, hv, hg, hh, r⟩
  · exact .inl h2
  · exact .inr ⟨g, cap, cur, hv, hg, (hb.block g (Array.getElem?_eq_some_iff.1 hh).1).trans hh, r⟩
/-- What is appended to a row of the call's own, by a call ahead. -/
def JL (w0 : World) (v0 : Value) (n m : Nat) (old new ys : List Int) (bs : List Bool) (vs : List Value) (w : World) : Prop :=
  Below w0.heap.size w0 w ∧ (bs.getD 1 false = false → w.ownsRow w0.heap.size 5 1 v0 n (bv old)) ∧ (bs.getD 1 false = true → w.ownsRow w0.heap.size 5 1 (vs.getD 1 undef) m (bv new)) ∧
    (bs.getD 0 false = true → bs.getD 1 false = false → ∃ A c, vs.getD 0 undef = .slice A ys.length c ∧ Bs w w.heap.size A ys.length ys) ∧ (bs.getD 2 false = true → vs.getD 2 undef = vs.getD 1 undef)
theorem JL.mk {w0 : World} {v0 : Value} {n m : Nat} {old new ys : List Int} {bs : List Bool} {vs : List Value} {w : World} (h1 : Below w0.heap.size w0 w) (h2 : bs.getD 1 false = false → w.ownsRow w0.heap.size 5 1 v0 n (bv old)) (h3 : bs.getD 1 false = true → w.ownsRow w0.heap.size 5 1 (vs.getD 1 undef) m (bv new))
    (h4 : bs.getD 0 false = true → bs.getD 1 false = false → ∃ A c, vs.getD 0 undef = .slice A ys.length c ∧ Bs w w.heap.size A ys.length ys) (h5 : bs.getD 2 false = true → vs.getD 2 undef = vs.getD 1 undef) : JL w0 v0 n m old new ys bs vs w := ⟨h1, h2, h3, h4, h5⟩
def SRb (g3 g8 i : Nat) (v0 : Value) (X Y N : Int) (opn : Nat) (v : Value) : Prop :=
  match opn with
  | 0 => v = v0
  | 1 | 4 => v = .int .i64 (i : Int)
  | 2 => v = .pointer (some ⟨g3, i, none⟩)
  | 3 => v = .int .u32 X
  | 5 => v = .pointer (some ⟨g8, i, none⟩)
  | 6 => v = .int .u32 Y
  | 7 => v = .int .u32 N
  | 8 => v = .int .u64 N
  | 9 => IsSl 4 v
  | _ => True
set_option maxRecDepth 100000 in
set_option maxHeartbeats 4000000 in
theorem refBlock_any (ks ns : List Int) (c : Nat) (w : World) (hk : ks.length = 32) (hn : ns.length = 12) (hk' : IsBy ks) (hn' : IsBy ns) (hc : c < 4294967296) :
    Calls Tryd.prog 29 #[.agg (atL ks c ns).toArray] w (RetBs (blockL ks c ns) w) := by
  obtain ⟨i0, hi, hz, hsz, hbys⟩ := u8_info
  have hlen : Hid ((begL ks c ns).length = 16) := begL_len ks c ns
  have hbw : IsW (begL ks c ns) := begL_w hk' hn' ⟨by omega, by omega⟩
  have zA := hide (show (Tryd.prog.info? 45).map (·.size) = some (atL ks c ns).length by rw [at_len' hk hn]; kernel_rfl)
  have zb := hide (size_k (P := Tryd.prog) (T := 63) (kd := .u32) (n := 16) (by kernel_rfl) hlen.out)
  have z0 := hide (show (vk .u32 (List.replicate 16 0)).length = (vk .u32 (begL ks c ns)).length by rw [vk_len, vk_len, hlen.out]; rfl)
  have hB := fun w => begin_any ks ns c w hk hn hk' hn' hc
  have Hi := hide hi
  have Hz := hide hz
  have Hs := hide hsz
  have Hb := hide hbys
  clear hk hn hi hz hsz hbys
  go_enter Tryd.func29, Tryd.ntmps29
  go_wp2_with (first
    | (with_reducible refine wl_box rfl 45 (.tmp 0) _ (atL ks c ns) rfl rfl rfl ?_; intro g1 w1 r1 a1 l1 b1)
    | (with_reducible refine wl_load_row rfl 45 (.tmp 1) g1 45 _ _ rfl rfl r1 Tryd.underlying45 rfl zA.out ?_))
  refine (hB _).mono ?_
  rintro e w2 ⟨rfl, b2⟩
  have B2 := b1.trans (b2.mono b1.size)
  have r2 := r1.later b2
  clear r1 b1
  go_wp2_with (first
    | (with_reducible refine wl_alloc rfl 63 _ (vk .u32 (List.replicate 16 0)) rfl zero16' rfl ?_; intro g3 w3 r3 a3 l3 b3)
    | (with_reducible refine wl_store_row rfl 63 (.tmp 3) (.tmp 11) g3 63 _ (vk .u32 (begL ks c ns)) rfl rfl rfl r3 zb.out z0.out (vk_one' _ _) ?_; intro w4 r4 o4))
  have q4 : w4.heap.size = w3.heap.size := o4.size
  have g13 : g1 < g3 := by have := r2.lt; omega
  have R1 := (r2.later b3).only o4 (by omega)
  have A3 : w.heap.size ≤ g3 := by have := B2.size; omega
  have B4 := (B2.trans (b3.mono B2.size)).trans (o4.below A3)
  clear r2 r3 b3 o4 b2 B2
  go_loopw [4] (fun iv wr => ∃ k : Nat, k ≤ 10 ∧ iv = .int .i64 k ∧ Row wr 63 g3 (vk .u32 (rounds (begL ks c ns) k)) ∧ Below g3 w4 wr) (fun iv _ => 10 - (intOf iv).toNat)
  case atStart => exact ⟨0, by omega, rfl, r4, Below.refl _ _⟩
  case round =>
    clear r4
    obtain ⟨k, hk, rfl, rx, bx⟩ := hrel
    by_cases hlt : k < 10
    · have hd10 : decide ((k : Int) < 10) = true := by simp; omega
      go_wp2_with fail
      go_loopw [5] (fun iv wr => ∃ m : Nat, m ≤ 4 ∧ iv = .int .i64 m ∧ Row wr 63 g3 (vk .u32 (quarts (rounds (begL ks c ns) k) m)) ∧ Below g3 w4 wr) (fun iv _ => 4 - (intOf iv).toNat)
      case atStart => exact ⟨0, by omega, rfl, rx, bx⟩
      case round =>
        clear rx bx
        obtain ⟨m, hm, rfl, rx, bx⟩ := hrel
        have lq := hide (show (quarts (rounds (begL ks c ns) k) m).length = 16 by rw [quarts_len, rounds_len]; exact hlen.out)
        have hw : IsW (quarts (rounds (begL ks c ns) k) m) := quarts_w (rounds_w hbw _) _
        by_cases hlm : m < 4
        · have zq := hide (size_k (P := Tryd.prog) (T := 63) (kd := .u32) (n := 16) (by kernel_rfl) lq.out)
          have hAt := fun w => refAt_any (quarts (rounds (begL ks c ns) k) m) m (4 + m) (8 + m) (12 + m) w lq.out hw (by omega) (by omega) (by omega) (by omega)
          have hst : qat (quarts (rounds (begL ks c ns) k) m) m (4 + m) (8 + m) (12 + m) = quarts (rounds (begL ks c ns) k) (m + 1) := by
            have : m = 0 ∨ m = 1 ∨ m = 2 ∨ m = 3 := by omega
            rcases this with rfl | rfl | rfl | rfl <;> rfl
          rw [show ((4 + m : Nat) : Int) = 4 + (m : Int) from by omega, show ((8 + m : Nat) : Int) = 8 + (m : Int) from by omega, show ((12 + m : Nat) : Int) = 12 + (m : Int) from by omega] at hAt
          simp only [hst] at hAt
          have zs := hide (size_k (P := Tryd.prog) (T := 63) (kd := .u32) (n := 16) (by kernel_rfl) (show (quarts (rounds (begL ks c ns) k) (m + 1)).length = 16 by rw [quarts_len, rounds_len]; exact hlen.out))
          have ls := hide (show (vk .u32 (quarts (rounds (begL ks c ns) k) m)).length = (vk .u32 (quarts (rounds (begL ks c ns) k) (m + 1))).length by rw [vk_len, vk_len, quarts_len, quarts_len])
          have HAt := hide hAt
          clear hAt hst
          go_wp2_with (first
            | (with_reducible refine wl_load_row rfl 63 (.tmp 3) g3 63 _ _ rfl rfl rx Tryd.underlying63 rfl zq.out ?_))
          refine (HAt.out _).mono ?_
          rintro e w5 ⟨rfl, b5⟩
          have rx5 := rx.later b5
          have bx5 := bx.trans (b5.mono (by have := rx.lt; omega))
          clear HAt rx b5
          go_wp2_with (first
            | (with_reducible refine wl_store_row rfl 63 (.tmp 3) (.tmp 28) g3 63 _ _ rfl rfl rfl rx5 zs.out ls.out (vk_one' _ _) ?_; intro w6 r6 o6))
          have bx6 := bx5.trans (o6.below (Nat.le_refl _))
          go_roundw
          case rel => first | exact ⟨m + 1, by omega, by go_num, r6, bx6⟩ | ((repeat apply Exists.intro); refine ⟨?_, rfl⟩; exact ⟨m + 1, by omega, by go_num, r6, bx6⟩)
          case measure => simp [intOf]; omega
        · have r4' : Row wr 63 g3 (vk .u32 (quarts (rounds (begL ks c ns) k) (4 + 0))) := by rw [show m = 4 + 0 from by omega] at rx; exact rx
          clear rx lq hw
          go_wp2_with fail
          generalize Value.int .i64 (m : Int) = s5
          generalize Value.bool (decide ((m : Int) < 4)) = s17
          clear hlm hm
          go_loopw [6] (fun iv wr => ∃ m : Nat, m ≤ 4 ∧ iv = .int .i64 m ∧ Row wr 63 g3 (vk .u32 (quarts (rounds (begL ks c ns) k) (4 + m))) ∧ Below g3 w4 wr) (fun iv _ => 4 - (intOf iv).toNat)
          case atStart => exact ⟨0, by omega, rfl, r4', bx⟩
          case round =>
            clear r4' bx
            obtain ⟨m, hm, rfl, rx, bx⟩ := hrel
            have lq := hide (show (quarts (rounds (begL ks c ns) k) (4 + m)).length = 16 by rw [quarts_len, rounds_len]; exact hlen.out)
            have hw : IsW (quarts (rounds (begL ks c ns) k) (4 + m)) := quarts_w (rounds_w hbw _) _
            by_cases hlm : m < 4
            · have zq := hide (size_k (P := Tryd.prog) (T := 63) (kd := .u32) (n := 16) (by kernel_rfl) lq.out)
              have hAt := fun w => refAt_any (quarts (rounds (begL ks c ns) k) (4 + m)) m (4 + (m + 1) % 4) (8 + (m + 2) % 4) (12 + (m + 3) % 4) w lq.out hw (by omega) (by omega) (by omega) (by omega)
              have hst : qat (quarts (rounds (begL ks c ns) k) (4 + m)) m (4 + (m + 1) % 4) (8 + (m + 2) % 4) (12 + (m + 3) % 4) = quarts (rounds (begL ks c ns) k) (4 + (m + 1)) := by
                have : m = 0 ∨ m = 1 ∨ m = 2 ∨ m = 3 := by omega
                rcases this with rfl | rfl | rfl | rfl <;> rfl
              rw [show ((4 + (m + 1) % 4 : Nat) : Int) = 4 + ((m : Int) + 1) % 4 from by omega, show ((8 + (m + 2) % 4 : Nat) : Int) = 8 + ((m : Int) + 2) % 4 from by omega, show ((12 + (m + 3) % 4 : Nat) : Int) = 12 + ((m : Int) + 3) % 4 from by omega] at hAt
              simp only [hst] at hAt
              have zs := hide (size_k (P := Tryd.prog) (T := 63) (kd := .u32) (n := 16) (by kernel_rfl) (show (quarts (rounds (begL ks c ns) k) (4 + (m + 1))).length = 16 by rw [quarts_len, rounds_len]; exact hlen.out))
              have ls := hide (show (vk .u32 (quarts (rounds (begL ks c ns) k) (4 + m))).length = (vk .u32 (quarts (rounds (begL ks c ns) k) (4 + (m + 1)))).length by rw [vk_len, vk_len, quarts_len, quarts_len])
              have HAt := hide hAt
              clear hAt hst
              go_wp2_with (first
                | (with_reducible refine wl_load_row rfl 63 (.tmp 3) g3 63 _ _ rfl rfl rx Tryd.underlying63 rfl zq.out ?_))
              refine (HAt.out _).mono ?_
              rintro e w5 ⟨rfl, b5⟩
              have rx5 := rx.later b5
              have bx5 := bx.trans (b5.mono (by have := rx.lt; omega))
              clear HAt rx b5
              go_wp2_with (first
                | (with_reducible refine wl_store_row rfl 63 (.tmp 3) (.tmp 47) g3 63 _ _ rfl rfl rfl rx5 zs.out ls.out (vk_one' _ _) ?_; intro w6 r6 o6))
              have bx6 := bx5.trans (o6.below (Nat.le_refl _))
              go_roundw
              case rel => first | exact ⟨m + 1, by omega, by go_num, r6, bx6⟩ | ((repeat apply Exists.intro); refine ⟨?_, rfl⟩; exact ⟨m + 1, by omega, by go_num, r6, bx6⟩)
              case measure => simp [intOf]; omega
            · have r8' : Row wr 63 g3 (vk .u32 (rounds (begL ks c ns) (k + 1))) := by rw [show m = 4 from by omega] at rx; exact rx
              clear rx lq hw
              go_wp2
              go_roundw
              case rel => exact ⟨k + 1, by omega, by go_num, r8', bx⟩
              case measure => simp [intOf]; omega
    · have rx' : Row wr 63 g3 (vk .u32 (rounds (begL ks c ns) 10)) := by rw [show k = 10 from by omega] at rx; exact rx
      have R1' := R1.below bx g13
      clear rx
      go_wp2_with (first
        | (with_reducible refine wl_load_row rfl 45 (.tmp 1) g1 45 _ _ rfl rfl R1' Tryd.underlying45 rfl zA.out ?_))
      refine (hB _).mono ?_
      rintro e w5 ⟨rfl, b5⟩
      have rx5 := rx'.later b5
      have sx := bx.size
      have s5 := b5.size
      have B5 := (B4.trans (bx.mono A3)).trans (b5.mono (by have := B4.size; omega))
      generalize Value.int .i64 (k : Int) = s4
      generalize Value.bool (decide ((k : Int) < 10)) = s13
      clear hlt hk rx' R1' bx b5 B4 R1
      go_wp2_with (first
        | (with_reducible refine wl_alloc rfl 63 _ (vk .u32 (List.replicate 16 0)) rfl zero16' rfl ?_; intro g8 w6 r6 a6 l6 b6)
        | (with_reducible refine wl_store_row rfl 63 (.tmp 8) (.tmp 49) g8 63 _ (vk .u32 (begL ks c ns)) rfl rfl rfl r6 zb.out z0.out (vk_one' _ _) ?_; intro w7 r7 o7))
      have q7 : w7.heap.size = w6.heap.size := o7.size
      have rx7 := (rx5.later b6).only o7 (by have := rx5.lt; omega)
      have B7 := (B5.trans (b6.mono B5.size)).trans (o7.below (by have := B5.size; omega))
      clear rx5 r6 b6 o7 B5
      go_loopw [7, 9] (fun ov iv wr => ∃ i : Nat, i ≤ 16 ∧ iv = .int .i64 i ∧ wr.ownsRow w7.heap.size 5 1 ov (4 * i) (bv (blockP ks c ns i)) ∧ Below w7.heap.size w7 wr) (fun _ iv _ => 16 - (intOf iv).toNat)
      case atStart => exact ⟨0, by omega, rfl, World.ownsRow_nil _ _ _ _, Below.refl _ _⟩
      case round =>
        obtain ⟨i, hi16, rfl, hown, bx⟩ := hrel
        by_cases hi : i < 16
        · go_wp2_with fail
          have hX : w32 ((rounds (begL ks c ns) 10).getD i 0) := (rounds_w hbw _).getD i
          have hY : w32 ((begL ks c ns).getD i 0) := hbw.getD i
          have hN := hide (show ((rounds (begL ks c ns) 10).getD i 0 + (begL ks c ns).getD i 0) % 4294967296 = blockN ks c ns i from rfl)
          have cX := hide (vk_get (kd := .u32) (xs := rounds (begL ks c ns) 10) (j := i) (by rw [rounds_len, hlen.out]; omega))
          have cY := hide (vk_get (kd := .u32) (xs := begL ks c ns) (j := i) (by rw [hlen.out]; omega))
          have hP := hide (show bv (blockP ks c ns i ++ lowB (blockN ks c ns i) 4) = bv (blockP ks c ns (i + 1)) by rw [blockP_succ])
          have n0 : 0 ≤ blockN ks c ns i ∧ blockN ks c ns i < 4294967296 := by unfold blockN; omega
          obtain ⟨n0, n1⟩ := n0
          generalize (rounds (begL ks c ns) 10).getD i 0 = X at *
          generalize (begL ks c ns).getD i 0 = Y at *
          generalize blockN ks c ns i = N at *
          rename_i Q1 K1 hK1
          refine wp_region_vals [9, 10, 11] (SRb g3 g8 i u7 X Y N) (JL w7 u7 (4 * i) (4 * (i + 1)) (blockP ks c ns i) (blockP ks c ns (i + 1)) (lowB N 4)) (by kernel_rfl) (by kernel_rfl) (by kernel_rfl) (by kernel_rfl) (by kernel_rfl) (JL.mk bx.drew (fun _ => hown) (fun h => absurd h (by decide)) (fun h => absurd h (by decide)) (fun h => absurd h (by decide))) ?obs ?he
          case obs =>
            have hi0 := Hi.out
            have hz := Hz.out
            have hsz := Hs.out
            have hbys := Hb.out
            have rX := rx7
            have rY := r7
            have cX := cX.out
            have cY := cY.out
            have hN := hN.out
            have hP := hP.out
            refine ⟨?_, ?_, ?_, ?_, ?_, ?_, ?_, ?_, ?_, ?_, ?_, ?_, trivial⟩
            · exact .inl ⟨by kernel_rfl, fun L a1 w1 n h => ⟨_, rfl, run_move (.tmp 7) rfl (h.var n 7 (by kernel_rfl))⟩⟩
            · exact .inl ⟨by kernel_rfl, fun L a1 w1 n h => ⟨_, rfl, run_move (.tmp 9) rfl (h.var n 9 (by kernel_rfl))⟩⟩
            · exact .inl ⟨by kernel_rfl, fun L a1 w1 n h => ⟨_, rfl, run_index0 63 (.tmp 3) (.tmp 55) 16 43 g3 i rfl Tryd.underlying63 Tryd.sizeOf43 (h.var n 3 (by kernel_rfl)) (h.dep n 1 55 (by kernel_rfl) rfl) hi⟩⟩
            · exact .inl ⟨by kernel_rfl, fun L a1 w1 n h => ⟨_, rfl, run_loadA 43 (.tmp 56) ⟨g3, i, none⟩ rfl Tryd.isAgg43 (h.dep n 2 56 (by kernel_rfl) rfl) ((rX.later h.inv.1).cell cX)⟩⟩
            · exact .inl ⟨by kernel_rfl, fun L a1 w1 n h => ⟨_, rfl, run_move (.tmp 9) rfl (h.var n 9 (by kernel_rfl))⟩⟩
            · exact .inl ⟨by kernel_rfl, fun L a1 w1 n h => ⟨_, rfl, run_index0 63 (.tmp 8) (.tmp 58) 16 43 g8 i rfl Tryd.underlying63 Tryd.sizeOf43 (h.var n 8 (by kernel_rfl)) (h.dep n 4 58 (by kernel_rfl) rfl) hi⟩⟩
            · exact .inl ⟨by kernel_rfl, fun L a1 w1 n h => ⟨_, rfl, run_loadA 43 (.tmp 59) ⟨g8, i, none⟩ rfl Tryd.isAgg43 (h.dep n 5 59 (by kernel_rfl) rfl) ((rY.later h.inv.1).cell cY)⟩⟩
            · refine .inl ⟨by kernel_rfl, fun L a1 w1 n h => ⟨.int .u32 N, rfl, ?_⟩⟩
              have e0 : a1.eval (.tmp 57) = _ := h.dep n 3 57 (by kernel_rfl) rfl
              have e1 : a1.eval (.tmp 60) = _ := h.dep n 6 60 (by kernel_rfl) rfl
              unfold execOp
              simp only [e0, e1]
              go_simp
              rw [IntKind.wrap_u32', hN]
            · refine .inl ⟨by kernel_rfl, fun L a1 w1 n h => ⟨.int .u64 N, rfl, ?_⟩⟩
              have e0 : a1.eval (.tmp 61) = _ := h.dep n 7 61 (by kernel_rfl) rfl
              unfold execOp
              simp only [e0]
              go_simp
              rw [IntWalk.u64_in _ (by omega)]
            · refine .inr fun L a1 w1 n h K hK => ?_
              have e : a1.eval (.tmp 62) = _ := h.dep n 8 62 (by kernel_rfl) rfl
              have no : L.getD 10 false = false := n.later (by kernel_rfl)
              have no' : L.getD 11 false = false := n.later (by kernel_rfl)
              have hl := low_any N 4 w1 (by omega) (by omega) (by omega)
              refine st_call 31 _ _ #[.int .u64 N, .int .i64 ((4 : Nat) : Int)] rfl Tryd.call31 ?_ hl ?_
              · simp only [List.map_toArray, List.map_cons, List.map_nil, e]; rfl
              · rintro e2 w3 ⟨A, n2, c2, rfl, hbs, hn2, hc2, hb2⟩
                have h4 : n2 = 4 := by rw [← hbs.1]; simp [lowB_length]
                subst h4
                have hown := h.inv.2.1 no
                refine ⟨_, rfl, hK _ _ ⟨A, c2, rfl⟩ (JL.mk (h.inv.1.trans (hb2.mono h.inv.1.size)) (fun _ => own_later hown hb2) (fun h1 => ?_) (fun _ _ => ⟨A, c2, by rw [lowB_length]; rfl, by rw [lowB_length]; exact hbs⟩) (fun h5 => absurd ((show L.getD 11 false = true from h5).symm.trans no') (by decide)))⟩
                have h1' : L.getD 10 false = true := h1
                rw [no] at h1'
                cases h1'
            · refine .inr fun L a1 w1 n h K hK => ?_
              have yes : L.getD 9 false = true := n.dep (by kernel_rfl)
              have no : L.getD 10 false = false := n.not_yet
              have no' : L.getD 11 false = false := n.later (by kernel_rfl)
              obtain ⟨A, c2, hA, hbs⟩ := h.inv.2.2.2.1 yes no
              have hown := h.inv.2.1 no
              rw [lowB_length] at hA hbs
              refine st_append_bs (.tmp 54) (.tmp 63) 24 rfl w7.heap.size 5 i0 Tryd.underlying24 hi0 hz hsz hbys u7 (4 * i) _ (h.dep n 0 54 (by kernel_rfl) rfl) hown w1.heap.size A 4 c2 _ hA hbs (by omega) h.inv.1.size ?_
              intro v' w3 o3 gr3
              rw [show 4 * i + 4 = 4 * (i + 1) from by omega, hP] at o3
              exact hK _ _ trivial (JL.mk (grown_below h.inv.1 hown (Nat.le_refl _) gr3) (fun h1 => absurd (show true = false from h1) (by decide)) (fun _ => o3) (fun _ h1 => absurd (show true = false from h1) (by decide)) (fun h5 => absurd ((show L.getD 11 false = true from h5).symm.trans no') (by decide)))
            · refine .inr fun L a1 w1 n h K hK => ?_
              refine st_assign (.tmp 64) _ rfl rfl ?_
              exact hK _ _ trivial (JL.mk h.inv.1 h.inv.2.1 h.inv.2.2.1 h.inv.2.2.2.1 (fun _ => rfl))
          case he =>
            intro V w8 hV hJ
            have ho8 : w8.ownsRow w7.heap.size 5 1 (V 10) (4 * (i + 1)) (bv (blockP ks c ns (i + 1))) := hJ.2.2.1 rfl
            have hb8 : Below w7.heap.size w7 w8 := hJ.1
            have h11 : V 11 = V 10 := hJ.2.2.2.2 rfl
            clear hJ hV
            simp only [putOps, List.setIfInBounds_toArray, List.set_cons_succ, List.set_cons_zero]
            rw [h11]
            refine hK1 _ _ ?_
            go_wp2
            go_roundw
            case rel => exact ⟨i + 1, by omega, by go_num, ho8, hb8⟩
            case measure => simp [intOf]; omega
        · go_wp2_with fail
          have hi' : i = 16 := by omega
          subst hi'
          go_ret
          exact (ret_owns hown bx rfl).trans B7
end Go.Proofs.YtpnlgmkkikmglabDoor

/-
  The document's stream: contracts. Own work.
-/
namespace Go.Proofs.YtpnlgmkkikmglabDoor
open Go.RowKit
theorem at_set' {ks ns : List Int} {c m : Int} (hk : (bv ks).length = 32) : (atL ks c ns).set 32 (.int .u32 m) = atL ks m ns := by
  unfold atL
  rw [List.set_append_right _ _ (by omega), hk]
  rfl
theorem zeroAt : (Tryd.prog.info? 45).map (fun i => i.zero) = some (some (.agg (atL (List.replicate 32 0) 0 (List.replicate 12 0)).toArray)) := by kernel_rfl
theorem ksl_next (ks ns : List Int) (c i : Nat) : ksl ks ns (64 * c) (64 * i) ++ blockL ks ((c + i : Nat) : Int) ns = ksl ks ns (64 * c) (64 * (i + 1)) := by
  have h := ksl_block (ks := ks) (ns := ns) (p := 64 * c + 64 * i) (n := 64) (by omega)
  rw [show (64 * c + 64 * i) % 64 = 0 from by omega, show (64 * c + 64 * i) / 64 = c + i from by omega, List.drop_zero, List.take_of_length_le (by rw [blockL_len]; omega)] at h
  rw [show 64 * (i + 1) = 64 * i + 64 from by omega, ksl_add, h]
theorem ksl_take (ks ns : List Int) (p n m : Nat) (h : m ≤ n) : (ksl ks ns p n).take m = ksl ks ns p m := by
  obtain ⟨k, rfl⟩ : ∃ k, n = m + k := ⟨n - m, by omega⟩
  rw [ksl_add, List.take_append_of_le_length (by rw [ksl_len]; exact Nat.le_refl _), List.take_of_length_le (by rw [ksl_len]; exact Nat.le_refl _)]
/-- What Bytes hands back where the stream is long enough. -/
def RetKs (ks ns : List Int) (c n : Nat) (w : World) (e : Ending) (w' : World) : Prop :=
  ∃ A cp, e = .returned (.tuple #[.slice A n cp, .bool true]) ∧ Bs w' w'.heap.size A n (ksl ks ns (64 * c) n) ∧ Below w.heap.size w w'
set_option maxRecDepth 100000 in
set_option maxHeartbeats 2000000 in
theorem refBytes_any (ks ns : List Int) (c n : Nat) (w : World) (hk : ks.length = 32) (hn : ns.length = 12) (hk' : IsBy ks) (hn' : IsBy ns) (hc : c < 4294967296) (hm : n ≤ 1000000) (hfit : (n + 63) / 64 ≤ 4294967296 - c) :
    Calls Tryd.prog 35 #[.agg (atL ks c ns).toArray, .int .i64 n] w (RetKs ks ns c n w) := by
  obtain ⟨i0, hi, hz, hsz, hbys⟩ := u8_info
  have zA := fun c : Int => hide (show (Tryd.prog.info? 45).map (·.size) = some (atL ks c ns).length by rw [at_len' hk hn]; kernel_rfl)
  have lz := hide (show (atL (List.replicate 32 0) 0 (List.replicate 12 0)).length = (atL ks c ns).length by rw [at_len' hk hn, at_len' (by simp) (by simp)])
  have lA := hide (show 32 < (atL ks c ns).length by rw [at_len' hk hn]; omega)
  have oA := hide (show ∀ u ∈ atL ks c ns, u.oneCell' = true by
    intro u hu
    simp only [atL, List.mem_append, List.mem_singleton] at hu
    rcases hu with hu | rfl | hu
    · exact bv_one _ _ hu
    · rfl
    · exact bv_one _ _ hu)
  have h32 := hide (show (bv ks).length = 32 by rw [bv_len, hk])
  obtain ⟨N, hN⟩ : ∃ N : Nat, N = (n + 63) / 64 := ⟨_, rfl⟩
  have eN := hide (show ((n : Int) + 63) / 64 = (N : Int) by omega)
  have hN1 : N ≤ 20000 := by omega
  have hN2 : n ≤ 64 * N := by omega
  have hN3 : c + N ≤ 4294967296 := by omega
  have Hk := hide hk
  have Hn := hide hn
  have Hi := hide hi
  have Hz := hide hz
  have Hs := hide hsz
  have Hb := hide hbys
  clear hk hn hi hz hsz hbys hfit hN
  go_enter Tryd.func35, Tryd.ntmps35
  go_wp2_with (first
    | (with_reducible refine wl_box rfl 45 (.tmp 0) _ (atL ks c ns) rfl rfl rfl ?_; intro g2 w2 r2 a2 l2 b2)
    | (with_reducible refine wl_load rfl 43 (.tmp 15) g2 32 45 _ (.int .u32 (c : Int)) rfl Tryd.isAgg43 rfl r2 (atCtr h32.out) ?_))
  rw [eN.out]
  go_loopw [7, 8] (fun ov iv wr => ∃ i : Nat, i ≤ N ∧ iv = .int .i64 i ∧ wr.ownsRow w2.heap.size 5 1 ov (64 * i) (bv (ksl ks ns (64 * c) (64 * i))) ∧ Below w2.heap.size w2 wr) (fun _ iv _ => N - (intOf iv).toNat)
  case atStart => exact ⟨0, by omega, rfl, World.ownsRow_nil _ _ _ _, Below.refl _ _⟩
  case round =>
    obtain ⟨i, hi16, rfl, hown, bx⟩ := hrel
    have R2 := r2.later bx
    by_cases hi : i < N
    · have hd : decide ((i : Int) < (N : Int)) = true := by simp; omega
      go_wp2_with (first
        | (with_reducible refine wl_load_row rfl 45 (.tmp 2) g2 45 _ _ rfl rfl R2 Tryd.underlying45 rfl (zA _).out ?_)
        | (with_reducible refine wl_alloc rfl 45 _ (atL (List.replicate 32 0) 0 (List.replicate 12 0)) rfl zeroAt rfl ?_; intro g9 w9 r9 a9 l9 b9)
        | (with_reducible refine wl_store_row rfl 45 (.tmp 9) (.tmp 25) g9 45 _ (atL ks c ns) rfl rfl rfl r9 (zA _).out lz.out oA.out ?_; intro w10 r10 o10; have R10 := (R2.later b9).only o10 (Nat.ne_of_lt (Nat.lt_of_lt_of_le R2.lt a9)))
        | (with_reducible refine wl_load rfl 43 (.tmp 26) g2 32 45 _ (.int .u32 (c : Int)) rfl Tryd.isAgg43 rfl R10 (atCtr h32.out) ?_)
        | (with_reducible refine wl_store rfl 43 (.tmp 31) (.tmp 30) g9 32 45 _ (.int .u32 ((c : Int) + (i : Int))) rfl (by kernel_rfl) rfl rfl r10 lA.out rfl ?_; intro w11 r11 o11; rw [at_set' h32.out] at r11)
        | (with_reducible refine wl_load_row rfl 45 (.tmp 9) g9 45 _ _ rfl rfl r11 Tryd.underlying45 rfl (zA _).out ?_))
      have B11 := (b9.trans (o10.below a9)).trans (o11.below a9)
      rw [show (c : Int) + (i : Int) = ((c + i : Nat) : Int) from by omega]
      refine (refBlock_any ks ns (c + i) w11 Hk.out Hn.out hk' hn' (by omega)).mono ?_
      rintro e w12 ⟨A, n2, c2, rfl, hbs, hn2, hc2, hb12⟩
      have h4 : n2 = 64 := by rw [← hbs.1, blockL_len]
      subst h4
      have B12 := B11.trans (hb12.mono B11.size)
      have ho12 := own_later hown B12
      have hsz12 : w2.heap.size ≤ w12.heap.size := Nat.le_trans bx.size B12.size
      have HP := hide (congrArg bv (ksl_next ks ns c i))
      have h80 : 64 * i + 64 ≤ 140737488355328 := by omega
      have bx12 := bx.trans (B12.mono bx.size)
      clear B11 B12 hb12 o11 r11 r10 R10 o10 r9 b9 R2 hown
      go_wp2_with (at_builtin; refine wpList_append_bs rfl (.tmp 32) (.tmp 34) _ rfl w2.heap.size 5 i0 Tryd.underlying24 Hi.out Hz.out Hs.out Hb.out _ (64 * i) _ rfl ho12 w12.heap.size A 64 c2 _ rfl hbs h80 hsz12 ?_; intro v' w13 o13 gr13)
      rw [show 64 * i + 64 = 64 * (i + 1) from by omega, HP.out] at o13
      have bx13 := grown_below bx12 ho12 (Nat.le_refl _) gr13
      clear ho12 gr13 bx12 hbs HP
      go_roundw
      case rel => exact ⟨i + 1, by omega, by go_num, o13, bx13⟩
      case measure => simp [intOf]; omega
    · have hiN : i = N := by omega
      subst hiN
      obtain ⟨A, cp, rfl, hbs, h1, h2⟩ := ownsRow_bs hown
      have hS := fun w => run_sliceTo (P := Tryd.prog) w 24 5 1 Tryd.underlying24 Tryd.sizeOf5 A (64 * i) cp .i64 (n : Int) n rfl (by omega)
      go_wp2_with fail
      go_ret2
      exact ⟨A, cp, rfl, by have := hbs.take hN2; rwa [ksl_take _ _ _ _ _ hN2] at this, b2.trans (bx.mono b2.size)⟩
set_option maxRecDepth 100000 in
set_option maxHeartbeats 1000000 in
theorem refBytes_no (ks ns : List Int) (c n : Nat) (w : World) (hk : ks.length = 32) (hn : ns.length = 12) (hc : c < 4294967296) (hm : n ≤ 1000000) (hlong : 4294967296 - c < (n + 63) / 64) :
    Calls Tryd.prog 35 #[.agg (atL ks c ns).toArray, .int .i64 n] w (RetNo w) := by
  have h32 := hide (show (bv ks).length = 32 by rw [bv_len, hk])
  obtain ⟨N, hN⟩ : ∃ N : Nat, N = (n + 63) / 64 := ⟨_, rfl⟩
  have eN := hide (show ((n : Int) + 63) / 64 = (N : Int) by omega)
  have hd : 4294967296 - (c : Int) < ((n : Int) + 63) / 64 := by omega
  clear hk hn
  go_enter Tryd.func35, Tryd.ntmps35
  go_wp2_with (first
    | (with_reducible refine wl_box rfl 45 (.tmp 0) _ (atL ks c ns) rfl rfl rfl ?_; intro g2 w2 r2 a2 l2 b2)
    | (with_reducible refine wl_load rfl 43 (.tmp 15) g2 32 45 _ (.int .u32 (c : Int)) rfl Tryd.isAgg43 rfl r2 (atCtr h32.out) ?_))
  go_ret2
  exact ⟨rfl, b2⟩
end Go.Proofs.YtpnlgmkkikmglabDoor

/-
  The document's xor with the stream: contracts. Own work.
-/
namespace Go.Proofs.YtpnlgmkkikmglabDoor
open Go.RowKit
theorem run_indexS {P : Program} {w : World} {a : Act} {o : Oper} (t : TypeId) (x y : Operand) (e : TypeId) (b off len cap i : Nat)
    (ho : o.op = .indexAddr t x y) (hu : P.underlying t = some (.slice e)) (hs : ∀ w, (sizeOf e).run P w = .ok 1 w) (hx : a.eval x = .slice (some ⟨b, off, none⟩) len cap) (hy : a.eval y = .int .i64 i) (hi : i < len) :
    (execOp a.eval o).run P w = .ok (.value (.pointer (some ⟨b, off + i, none⟩))) w := by
  unfold execOp
  simp only [ho, hx, hy]
  go_simp
theorem fill_set (L : List Int) (k n : Nat) (hL : L.length = k) (hk : k < n) (v : Int) : (L ++ List.replicate (n - k) 0).set k v = (L ++ [v]) ++ List.replicate (n - (k + 1)) 0 := by
  rw [List.set_append_right _ _ (by omega), hL, Nat.sub_self, show n - k = (n - (k + 1)) + 1 from by omega, List.replicate_succ, List.set_cons_zero]
  simp
def JXr (w0 : World) (g : Nat) (cur new : List Int) (bs : List Bool) (vs : List Value) (w : World) : Prop :=
  (bs.getD 0 false = false → Row w 5 g (bv cur)) ∧ (bs.getD 0 false = true → Row w 5 g (bv new)) ∧ But g w0 w
def SXr (b o bk ok g m cp ck i : Nat) (X Y : Int) (opn : Nat) (v : Value) : Prop :=
  match opn with
  | 0 => v = .slice (some ⟨g, 0, none⟩) m m
  | 1 | 3 | 7 => v = .int .i64 (i : Int)
  | 2 => v = .slice (some ⟨b, o, none⟩) m cp
  | 4 => v = .pointer (some ⟨b, o + i, none⟩)
  | 5 => v = .int .u8 X
  | 6 => v = .slice (some ⟨bk, ok, none⟩) m ck
  | 8 => v = .pointer (some ⟨bk, ok + i, none⟩)
  | 9 => v = .int .u8 Y
  | 10 => v = .int .u8 (bits .xor .u8 X Y)
  | 11 => v = .pointer (some ⟨g, 0 + i, none⟩)
  | _ => True
set_option maxRecDepth 100000 in
set_option maxHeartbeats 2000000 in
theorem refXor_any (ks ns xs : List Int) (c m cp : Nat) (A : Option Addr) (w : World) (hk : ks.length = 32) (hn : ns.length = 12) (hk' : IsBy ks) (hn' : IsBy ns) (hc : c < 4294967296) (hm : m ≤ 1000000)
    (hx : Bs w w.heap.size A m xs) (hby : IsBy xs) (hfit : (m + 63) / 64 ≤ 4294967296 - c) :
    Calls Tryd.prog 21 #[.agg (atL ks c ns).toArray, .slice A m cp] w (RetXorF ks ns c xs w) := by
  obtain ⟨i0, hi, hz, hsz, hbys⟩ := u8_info
  have zA := fun c : Int => hide (show (Tryd.prog.info? 45).map (·.size) = some (atL ks c ns).length by rw [at_len' hk hn]; kernel_rfl)
  have Hy := fun w => refBytes_any ks ns c m w hk hn hk' hn' hc hm hfit
  have Hi := hide hi
  have Hz := hide hz
  have Hs := hide hsz
  have Hb := hide hbys
  have Hx := hide hx.1
  clear hk hn hi hz hsz hfit
  go_enter Tryd.func21, Tryd.ntmps21
  go_wp2_with (first
    | (with_reducible refine wl_box rfl 45 (.tmp 0) _ (atL ks c ns) rfl rfl rfl ?_; intro g2 w2 r2 a2 l2 b2)
    | (with_reducible refine wl_load_row rfl 45 (.tmp 2) g2 45 _ _ rfl rfl r2 Tryd.underlying45 rfl (zA _).out ?_))
  refine (Hy _).mono ?_
  rintro e w3 ⟨Ak, ck, rfl, hks, b3⟩
  have B3 := b2.trans (b3.mono b2.size)
  have hx3 := (hx.below B3).up B3.size
  have hl1 : i0.bytes * m ≤ 281474976710656 := by rw [hbys]; omega
  have hl2 : m ≤ 9223372036854775807 := by omega
  clear Hy hbys b2 b3 r2
  go_wp2_with (first
    | (with_reducible refine wl_make rfl 24 (.tmp 20) (.tmp 20) rfl 5 i0 (.int .u8 0) Tryd.underlying24 Hi.out Hz.out Hs.out rfl .i64 .i64 m m _ _ rfl rfl rfl rfl (Nat.le_refl m) hl1 hl2 ?_; intro g w4 r4 a4 l4 b4))
  have B4 := B3.trans (b4.mono B3.size)
  have hx4 := hx3.below b4
  have hk4 := hks.below b4
  have r4' : Row w4 5 g (bv (outP ks ns (64 * c) xs 0 ++ List.replicate (m - 0) 0)) := by simpa [outP, bv] using r4
  clear r4 hx3 hks hl1 hl2
  go_loopw [9] (fun iv wr => ∃ i : Nat, i ≤ m ∧ iv = .int .i64 i ∧ Row wr 5 g (bv (outP ks ns (64 * c) xs i ++ List.replicate (m - i) 0)) ∧ But g w4 wr) (fun iv _ => m - (intOf iv).toNat)
  case atStart => exact ⟨0, by omega, rfl, r4', But.refl _ _⟩
  case round =>
    clear r4'
    obtain ⟨i, hi16, rfl, rr, bx⟩ := hrel
    have hB4 := b4.size
    by_cases hi : i < m
    · go_wp2_with fail
      obtain ⟨b, o, rfl, lX, cX⟩ := (hx4.below (bx.below a4 hB4)).2 (by omega)
      obtain ⟨bk, ok, rfl, lY, cY⟩ := (hk4.below (bx.below a4 hB4)).2 (by omega)
      replace cX := cX i hi
      replace cY := cY i hi
      rw [ksl_get hi] at cY
      have hcl : i < (bv (outP ks ns (64 * c) xs i ++ List.replicate (m - i) 0)).length := by rw [bv_len, List.length_append, outP_len, List.length_replicate]; omega
      have hset := fill_set (outP ks ns (64 * c) xs i) i m (outP_len ..) hi (bits .xor .u8 (xs.getD i 0) (kbyte ks ns (64 * c + i)))
      rw [← outP_succ] at hset
      generalize xs.getD i 0 = X at *
      generalize kbyte ks ns (64 * c + i) = Y at *
      generalize outP ks ns (64 * c) xs i ++ List.replicate (m - i) 0 = cur at *
      have hB := a4
      have hW : w3.heap.size ≤ wr.heap.size := Nat.le_trans hB4 bx.size
      rename_i Q1 K1 hK1
      refine wp_region_vals [12] (SXr b o bk ok g m cp ck i X Y) (JXr wr g cur (outP ks ns (64 * c) xs (i + 1) ++ List.replicate (m - (i + 1)) 0)) (by kernel_rfl) (by kernel_rfl) (by kernel_rfl) (by kernel_rfl) (by kernel_rfl) ⟨fun _ => rr, fun h => absurd h (by decide), (But.refl _ _).drew⟩ ?obs ?he
      case obs =>
        refine ⟨?_, ?_, ?_, ?_, ?_, ?_, ?_, ?_, ?_, ?_, ?_, ?_, ?_, trivial⟩
        · exact .inl ⟨by kernel_rfl, fun L a1 w1 n h => ⟨_, rfl, run_move (.tmp 8) rfl (h.var n 8 (by kernel_rfl))⟩⟩
        · exact .inl ⟨by kernel_rfl, fun L a1 w1 n h => ⟨_, rfl, run_move (.tmp 9) rfl (h.var n 9 (by kernel_rfl))⟩⟩
        · exact .inl ⟨by kernel_rfl, fun L a1 w1 n h => ⟨_, rfl, run_move (.tmp 1) rfl (h.var n 1 (by kernel_rfl))⟩⟩
        · exact .inl ⟨by kernel_rfl, fun L a1 w1 n h => ⟨_, rfl, run_move (.tmp 9) rfl (h.var n 9 (by kernel_rfl))⟩⟩
        · exact .inl ⟨by kernel_rfl, fun L a1 w1 n h => ⟨_, rfl, run_indexS 24 (.tmp 30) (.tmp 31) 5 b o m cp i rfl Tryd.underlying24 Tryd.sizeOf5 (h.dep n 2 30 (by kernel_rfl) rfl) (h.dep n 3 31 (by kernel_rfl) rfl) hi⟩⟩
        · exact .inl ⟨by kernel_rfl, fun L a1 w1 n h => ⟨_, rfl, run_loadA 5 (.tmp 32) ⟨b, o + i, none⟩ rfl Tryd.isAgg5 (h.dep n 4 32 (by kernel_rfl) rfl) (((h.inv.2.2.below hB hW).cell lX).trans cX)⟩⟩
        · exact .inl ⟨by kernel_rfl, fun L a1 w1 n h => ⟨_, rfl, run_move (.tmp 6) rfl (h.var n 6 (by kernel_rfl))⟩⟩
        · exact .inl ⟨by kernel_rfl, fun L a1 w1 n h => ⟨_, rfl, run_move (.tmp 9) rfl (h.var n 9 (by kernel_rfl))⟩⟩
        · exact .inl ⟨by kernel_rfl, fun L a1 w1 n h => ⟨_, rfl, run_indexS 24 (.tmp 34) (.tmp 35) 5 bk ok m ck i rfl Tryd.underlying24 Tryd.sizeOf5 (h.dep n 6 34 (by kernel_rfl) rfl) (h.dep n 7 35 (by kernel_rfl) rfl) hi⟩⟩
        · exact .inl ⟨by kernel_rfl, fun L a1 w1 n h => ⟨_, rfl, run_loadA 5 (.tmp 36) ⟨bk, ok + i, none⟩ rfl Tryd.isAgg5 (h.dep n 8 36 (by kernel_rfl) rfl) (((h.inv.2.2.below hB hW).cell lY).trans cY)⟩⟩
        · refine .inl ⟨by kernel_rfl, fun L a1 w1 n h => ⟨.int .u8 (bits .xor .u8 X Y), rfl, ?_⟩⟩
          have e0 : a1.eval (.tmp 33) = _ := h.dep n 5 33 (by kernel_rfl) rfl
          have e1 : a1.eval (.tmp 37) = _ := h.dep n 9 37 (by kernel_rfl) rfl
          unfold execOp
          simp only [e0, e1]
          go_simp
        · exact .inl ⟨by kernel_rfl, fun L a1 w1 n h => ⟨_, rfl, run_indexS 24 (.tmp 28) (.tmp 29) 5 g 0 m m i rfl Tryd.underlying24 Tryd.sizeOf5 (h.dep n 0 28 (by kernel_rfl) rfl) (h.dep n 1 29 (by kernel_rfl) rfl) hi⟩⟩
        · refine .inr fun L a1 w1 n h K hK => ?_
          have no : L.getD 12 false = false := n.not_yet
          have e1 : a1.eval (.tmp 39) = .pointer (some ⟨g, i, none⟩) := by
            have : a1.eval (.tmp 39) = .pointer (some ⟨g, 0 + i, none⟩) := h.dep n 11 39 (by kernel_rfl) rfl
            rwa [Nat.zero_add] at this
          have e2 : a1.eval (.tmp 38) = _ := h.dep n 10 38 (by kernel_rfl) rfl
          refine st_store 5 (.tmp 39) (.tmp 38) g i 5 (bv cur) _ rfl (by kernel_rfl) e1 e2 (h.inv.1 no) hcl rfl ?_
          intro w3 r3 o3
          rw [bv_set, hset] at r3
          exact hK undef w3 trivial ⟨fun h1 => absurd (show true = false from h1) (by decide), fun _ => r3, h.inv.2.2.trans (But.only o3)⟩
      case he =>
        intro V w5 hV hJ
        have r5 := hJ.2.1 rfl
        have bx5 := bx.trans hJ.2.2
        clear hV hJ
        simp only [putOps, List.setIfInBounds_toArray, List.set_cons_succ, List.set_cons_zero]
        refine hK1 _ _ ?_
        go_wp2
        go_roundw
        case rel => exact ⟨i + 1, by omega, by go_num, r5, bx5⟩
        case measure => simp [intOf]; omega
    · have hin : i = m := by omega
      subst hin
      go_wp2_with fail
      go_ret2
      refine ⟨some ⟨g, 0, none⟩, i, by rw [Hx.out]; rfl, ?_, B4.trans ((bx.below a4 hB4).mono B3.size), by rw [Hx.out]; exact Nat.le_refl _, by unfold maxLen; omega⟩
      rw [Hx.out]
      refine bs_mid (q := 0) rr ?_ (by simp [outP_len])
      rw [List.drop_zero, Nat.sub_self, List.replicate_zero, List.append_nil, List.take_of_length_le (by rw [outP_len]; exact Nat.le_refl _), ← outP_all, Hx.out]
set_option maxRecDepth 100000 in
set_option maxHeartbeats 1000000 in
theorem refXor_no (ks ns : List Int) (c n cp : Nat) (A : Option Addr) (w : World) (hk : ks.length = 32) (hn : ns.length = 12) (hc : c < 4294967296) (hm : n ≤ 1000000) (hlong : 4294967296 - c < (n + 63) / 64) :
    Calls Tryd.prog 21 #[.agg (atL ks c ns).toArray, .slice A n cp] w (RetNo w) := by
  have zA := hide (show (Tryd.prog.info? 45).map (·.size) = some (atL ks c ns).length by rw [at_len' hk hn]; kernel_rfl)
  have Hy := fun w => refBytes_no ks ns c n w hk hn hc hm hlong
  clear hk hn hlong
  go_enter Tryd.func21, Tryd.ntmps21
  go_wp2_with (first
    | (with_reducible refine wl_box rfl 45 (.tmp 0) _ (atL ks c ns) rfl rfl rfl ?_; intro g2 w2 r2 a2 l2 b2)
    | (with_reducible refine wl_load_row rfl 45 (.tmp 2) g2 45 _ _ rfl rfl r2 Tryd.underlying45 rfl zA.out ?_))
  refine (Hy _).mono ?_
  rintro e w3 ⟨rfl, b3⟩
  go_wp2_with fail
  go_ret2
  exact ⟨rfl, b2.trans (b3.mono b2.size)⟩
end Go.Proofs.YtpnlgmkkikmglabDoor

/-
  From the cards' premise to the program's two tables; from a reading of where a stream begins to its cells. Own work.
-/
namespace Go.Proofs.YtpnlgmkkikmglabDoor
open Go.RowKit Go.ChangeShapes Go.WideShapes
theorem gHead : Tryd.prog.globalNamed "intaglio/chacha.head" = some 1 := by kernel_rfl
theorem gQuarters : Tryd.prog.globalNamed "intaglio/chacha.quarters" = some 0 := by kernel_rfl
theorem tHead : (Tryd.prog.globals[1]?).map (·.type) = some 93 := by kernel_rfl
theorem tQuarters : (Tryd.prog.globals[0]?).map (·.type) = some 66 := by kernel_rfl
def laid2 : List (String × DataW Unit) := [("intaglio/chacha.head", Rows.laid_intaglio_chacha_head), ("intaglio/chacha.quarters", Rows.laid_intaglio_chacha_quarters)]
theorem cells8 {α : Type} (cs : List α) (h : cs.length = 32) (r : Nat → List α) (hr : ∀ i, i < 8 → (cs.drop (i * 4)).take 4 = r i) : cs = r 0 ++ (r 1 ++ (r 2 ++ (r 3 ++ (r 4 ++ (r 5 ++ (r 6 ++ r 7)))))) := by
  rw [← hr 0 (by omega), ← hr 1 (by omega), ← hr 2 (by omega), ← hr 3 (by omega), ← hr 4 (by omega), ← hr 5 (by omega), ← hr 6 (by omega), ← hr 7 (by omega)]
  have e7 : (cs.drop (7 * 4)).take 4 = cs.drop 28 := List.take_of_length_le (by simp; omega)
  have st : ∀ k, (cs.drop k).take 4 ++ cs.drop (k + 4) = cs.drop k := fun k => by rw [← List.drop_drop, List.take_append_drop]
  rw [e7]
  simp only [show 6 * 4 = 24 from rfl, show 5 * 4 = 20 from rfl, show 4 * 4 = 16 from rfl, show 3 * 4 = 12 from rfl, show 2 * 4 = 8 from rfl, show 1 * 4 = 4 from rfl, show 0 * 4 = 0 from rfl]
  rw [st 24, st 20, st 16, st 12, st 8, st 4, st 0, List.drop_zero]
set_option maxRecDepth 100000 in
theorem tabs_of_laid {W : World} (h : laidMetH Tryd.prog laid2 W) : Tabs W := by
  rw [MakeChecks.laidMetH_plain _ _ _ (by kernel_rfl)] at h
  obtain ⟨ps, ⟨g0, t0, cs0, f0, p0, q0, hg0, ht0, hv0, hd0, ⟨g1, t1, cs1, f1, p1, q1, hg1, ht1, hv1, hd1, _, _⟩, _⟩, _, _⟩ := h
  obtain rfl := Option.some.inj (gHead.symm.trans hg0)
  obtain rfl := Option.some.inj (gQuarters.symm.trans hg1)
  obtain rfl := Option.some.inj (tHead.symm.trans ht0)
  obtain rfl := Option.some.inj (tQuarters.symm.trans ht1)
  have c4 : Tryd.prog.cellsOf 65 = 4 := by kernel_rfl
  have c1 : Tryd.prog.cellsOf 3 = 1 := by kernel_rfl
  have c32 : Tryd.prog.cellsOf 66 = 32 := by kernel_rfl
  have e0 : cs0.toList = headL.map fun z => Value.int .u32 z := Lib.cells_of_tab (zs := headL) (k := .u32) Tryd.underlying93 Tryd.underlying43 (by kernel_rfl) (by kernel_rfl) hd0
  have e1 : cs1.toList = quartersL.map fun z => Value.int .i64 z := by
    obtain ⟨xs, m1, rfl, hx1, hlen, hn, hel⟩ := DataW.trod_array Tryd.underlying66 hd1
    rw [c32] at hlen
    rw [c4] at hel
    have hxs : xs.map (·.1) = (List.range 8).map fun i => (Lib.tabData .i64 (plL i) : DataW Unit) := by
      have := congrArg Prod.fst hx1
      simp only [Rows.laid_intaglio_chacha_quarters] at this
      injection this with this
      exact this.symm
    have hrow : ∀ i, i < 8 → (cs1.toList.drop (i * 4)).take 4 = (plL i).map fun z => Value.int .i64 z := by
      intro i hi
      have h1 := hel i hi
      rw [List.getElem?_eq_getElem (show i < xs.length by omega)] at h1
      have h2 : (xs[i]'(by omega)).1 = (Lib.tabData .i64 (plL i) : DataW Unit) := by
        have := congrArg (·[i]?) hxs
        simpa [hi, List.getElem?_eq_getElem (show i < xs.length by omega)] using this
      have h3 : xs[i]'(by omega) = ((Lib.tabData .i64 (plL i) : DataW Unit), (xs[i]'(by omega)).2) := by rw [← h2]
      rw [h3] at h1
      exact Lib.cells_of_tab (zs := plL i) (k := .i64) Tryd.underlying65 Tryd.underlying3 c1 c4 h1
    rw [cells8 cs1.toList hlen _ hrow]
    rfl
  have b0 : 1 < W.heap.size := block_lt_of_cell (v := .int .u32 (headL.getD 0 0)) (by rw [World.var?_cell hg0 hv0 0, ← Array.getElem?_toList, e0]; rfl)
  have b1 : 0 < W.heap.size := block_lt_of_cell (v := .int .i64 (quartersL.getD 0 0)) (by rw [World.var?_cell hg1 hv1 0, ← Array.getElem?_toList, e1]; rfl)
  refine ⟨by omega, fun j hj => ?_, fun j hj => ?_⟩
  · rw [World.var?_cell hg0 hv0 j, ← Array.getElem?_toList, e0]
    simp [List.getD, show j < headL.length from hj]
  · rw [World.var?_cell hg1 hv1 j, ← Array.getElem?_toList, e1]
    simp [List.getD, show j < quartersL.length from hj]
/-- Where a stream begins, as it was read. -/
theorem open_at {H : Type} {enc : TypeId × Value → H} {w : World} {spare : Nat → Bool} {held : Bool} {base : Nat} {fuel : Nat} {cs : List Value} {x : DataW H × List MemPlace}
    (h : DataW.trod enc Tryd.prog w base spare held fuel 45 cs = some x) : ∃ (ks : List Int) (c : Nat) (ns : List Int), cs = atL ks c ns ∧ ks.length = 32 ∧ ns.length = 12 ∧ IsBy ks ∧ IsBy ns ∧ c < 4294967296 := by
  have ce : Tryd.prog.cellsOf 5 = 1 := by kernel_rfl
  have c32 : Tryd.prog.cellsOf 22 = 32 := by kernel_rfl
  have c12 : Tryd.prog.cellsOf 23 = 12 := by kernel_rfl
  have cu : Tryd.prog.cellsOf 43 = 1 := by kernel_rfl
  have cT : Tryd.prog.cellsOf 45 = 45 := by kernel_rfl
  obtain ⟨y0, y1, y2, n, _, hl, h0, h1, h2⟩ := Go.Deep.trod_struct3 Tryd.underlying45 h
  rw [cT] at hl
  obtain ⟨ks, e0, lk, bk⟩ := trod_bytes Tryd.underlying22 Tryd.underlying5 ce c32 h0
  obtain ⟨ns, e2, ln, bn⟩ := trod_bytes Tryd.underlying23 Tryd.underlying5 ce c12 h2
  obtain ⟨z, e1, _, hw⟩ := DataW.trod_int Tryd.underlying43 h1
  simp only [c32, c12, cu] at e0 e1 e2
  obtain ⟨z0, z1⟩ := wf_u32 hw
  refine ⟨ks, z.toNat, ns, ?_, lk, ln, bk, bn, by omega⟩
  rw [Int.toNat_of_nonneg z0]
  unfold atL
  rw [← e0, ← e1, ← e2]
  simp only [List.drop_zero]
  have t12 : (cs.drop 33).take 12 = cs.drop 33 := List.take_of_length_le (by simp; omega)
  rw [t12]
  have s1 : (cs.drop 32).take 1 ++ cs.drop 33 = cs.drop 32 := by rw [show 33 = 32 + 1 from rfl, ← List.drop_drop, List.take_append_drop]
  rw [s1, List.take_append_drop]
end Go.Proofs.YtpnlgmkkikmglabDoor

/-
  Several own texts in one: PackD, Quarter, Chacha, ChaMath, BlockR, Block, KeyMath, Stream, Stream2, Stream3, Xor, OutL, PolyM, PolyA, AeadA, AeadF. Own work.
-/
import Derived.Test.YtooooncmjhcdbaaGreatDoorRows
import Derived.WalkKit
import Derived.Lib.EndianBits
import Derived.Laws.BitsAllLaws
import Derived.Deep.QuietTactic
import Derived.BigQuiet
import Derived.IntWalk
import Derived.OwnWalk
import Derived.Test.YtooooncmjhcdbaaGreatDoorGA
set_option linter.unusedVariables false
set_option linter.unusedSimpArgs false
/-
  Of pack and of its document's answers, what the cipher calls: a contract each. Own work.
-/
namespace Go.Proofs.YtooooncmjhcdbaaGreatDoor
open Go.RowKit
set_option maxRecDepth 100000 in
set_option maxHeartbeats 400000 in
theorem dlen64_32 (w : World) : Calls Tryz.prog 78 #[.int .u64 4294967295] w fun e w' => e = .returned (.int .i64 32) ∧ w = w' := by
  go_enter Tryz.func78, Tryz.ntmps78
  go_wp2
  go_ret
  exact ⟨by kernel_rfl, rfl⟩
set_option maxRecDepth 100000 in
theorem dwidth32_any (w : World) : Calls Tryz.prog 80 #[] w fun e w' => e = .returned (.int .i64 4) ∧ w = w' := by
  go_enter Tryz.func80, Tryz.ntmps80
  go_wp2_with (go_at_call 78; refine (dlen64_32 _).mono ?_; rintro e w' ⟨rfl, rfl⟩)
  go_ret
  exact ⟨rfl, rfl⟩
set_option maxRecDepth 100000 in
set_option maxHeartbeats 400000 in
theorem lay32_low (A : Option Addr) (m c : Nat) (xs : List Int) (x : Int) (w : World) (h : Bs w w.heap.size A m xs) (hm : m ≤ 1000000) (h0 : 0 ≤ x) (h1 : x < 2 ^ 32) :
    Calls Tryz.prog 70 #[.slice A m c, .int .u32 x, .bool true] w (RetBs (xs ++ lowB x 4) w) := by
  obtain ⟨i0, hi, hz, hsz, hby⟩ := u8_info
  go_enter Tryz.func70, Tryz.ntmps70
  go_wp2_with (first
    | (go_at_call 80; refine (dwidth32_any _).mono ?_; rintro e w' ⟨rfl, rfl⟩)
    | (refine wpList_make_bs rfl _ _ _ rfl 5 i0 Tryz.underlying25 hi hz hsz hby (m + 4) rfl rfl (by omega) ?_; intro w1 hown hs1 hb1)
    | (refine wpList_copy_bs rfl (.tmp 17) (.tmp 18) _ _ rfl 5 Tryz.underlying25 u8_size w.heap.size 0 _ _ m c A rfl rfl _ xs 5 w.heap.size hown (h.below hb1) (by omega) (by rw [List.length_replicate]; omega) w.heap.size w hb1 (Nat.le_refl _) ?_; intro w2 hown2 hb2))
  go_loopw [21] (fun i wr => ∃ k : Nat, k ≤ 4 ∧ i = .int .i64 k ∧ Own wr 5 w.heap.size (xs ++ (lowB x k ++ List.replicate (4 - k) 0)) ∧ Below w.heap.size w wr) (fun i _ => 4 - (intOf i).toNat)
  case atStart => exact ⟨0, Nat.zero_le _, rfl, by simpa [lowB, h.1] using hown2, hb2⟩
  case round =>
    obtain ⟨k, hk, rfl, hown, hb⟩ := hrel
    by_cases hlt : k < 4
    · have hc := hown.cell (j := m + k) (by simp [lowB_length, h.1]; omega)
      have hf := hown.frozen (m + k)
      have hs := hown.set (m + k) (x / 2 ^ (8 * k) % 256)
      have he := set_low hlt (lowB x k) (lowB_length x k) (x / 2 ^ (8 * k) % 256) xs
      rw [h.1] at he
      rw [he, ← pow256_two, ← lowB_snoc, pow256_two] at hs
      have HS := hide hs
      clear hs he
      go_wp2
      go_roundw
      case rel => exact ⟨k + 1, by omega, by go_num, HS.out, hb.setCell (Nat.le_refl _) _⟩
      case measure => simp [intOf]; omega
    · go_wp2
      go_ret
      obtain rfl : k = 4 := by omega
      exact ret_own hown hb (by simp) (by simp [lowB_length, h.1]) (Nat.le_refl _) (by simp only [maxLen]; omega)
theorem putLe32_any (A : Option Addr) (m c : Nat) (xs : List Int) (x : Int) (w : World) (h : Bs w w.heap.size A m xs) (hm : m ≤ 1000000) (h0 : 0 ≤ x) (h1 : x < 2 ^ 32) :
    Calls Tryz.prog 56 #[.slice A m c, .int .u32 x] w (RetBs (xs ++ lowB x 4) w) := by
  go_enter Tryz.func56, Tryz.ntmps56
  go_wp2_with (go_at_call 70; refine (lay32_low A m c xs x _ h hm h0 h1).mono ?_; rintro e w1 ⟨A1, n1, c1, rfl, hb, hn, hc, hl⟩)
  go_ret
  exact ⟨A1, n1, c1, rfl, hb, hn, hc, hl⟩
set_option maxRecDepth 100000 in
set_option maxHeartbeats 400000 in
theorem fromLow32_any (A : Option Addr) (m c p : Nat) (xs : List Int) (w : World) (h : Bs w w.heap.size A m xs) (hx : IsBy xs) (hm : m ≤ 1000000) (hp : p ≤ 1000000) :
    Calls Tryz.prog 79 #[.slice A m c, .int .i64 (p : Int)] w fun e w' => e = .returned (.int .u32 (leV xs p 4)) ∧ w = w' := by
  go_enter Tryz.func79, Tryz.ntmps79
  go_wp2_with (go_at_call 80; refine (dwidth32_any _).mono ?_; rintro e w' ⟨rfl, rfl⟩)
  go_loop [5, 9] (fun v i => ∃ k : Nat, k ≤ 4 ∧ i = .int .i64 k ∧ v = .int .u32 (leV xs p k)) (fun _ i => 4 - (intOf i).toNat)
  case atStart => exact ⟨0, Nat.zero_le _, rfl, rfl⟩
  case round =>
    obtain ⟨k, hk, rfl, rfl⟩ := hrel
    obtain ⟨q0, q1⟩ := leV_bound hx p k
    by_cases hlt : k < 4
    · by_cases hin : p + k < m
      · obtain ⟨b, o, rfl, hb, hc⟩ := h.at_ hin
        obtain ⟨b0, b1⟩ := getD_byte hx (p + k)
        have HO := hide (or_next32 k hlt q0 q1 b0 b1)
        go_wp2
        go_round
        case rel => exact ⟨k + 1, by omega, by go_num, congrArg (Value.int .u32) (by have := HO.out; simpa [leV, List.getD] using this)⟩
        case measure => simp [intOf]; omega
      · have hz : xs.getD (p + k) 0 = 0 := by
          have := h.1
          simp [List.getD, List.getElem?_eq_none (show xs.length ≤ p + k by omega)]
        have HZ := hide hz
        clear hz
        go_wp2
        go_round
        case rel => exact ⟨k + 1, by omega, by go_num, congrArg (Value.int .u32) (by rw [leV, HZ.out]; omega)⟩
        case measure => simp [intOf]; omega
    · go_wp2
      go_ret
      obtain rfl : k = 4 := by omega
      exact ⟨rfl, rfl⟩
theorem le32_any (A : Option Addr) (m c p : Nat) (xs : List Int) (w : World) (h : Bs w w.heap.size A m xs) (hx : IsBy xs) (hm : m ≤ 1000000) (hp : p ≤ 1000000) :
    Calls Tryz.prog 68 #[.slice A m c, .int .i64 (p : Int)] w fun e w' => e = .returned (.int .u32 (leV xs p 4)) ∧ w = w' := by
  go_enter Tryz.func68, Tryz.ntmps68
  go_wp2_with (go_at_call 79; refine (fromLow32_any A m c p xs _ h hx hm hp).mono ?_; rintro e w' ⟨rfl, rfl⟩)
  go_ret
  exact ⟨rfl, rfl⟩
end Go.Proofs.YtooooncmjhcdbaaGreatDoor

/-
  The quarter round: a contract each. Own work.
-/
namespace Go.Proofs.YtooooncmjhcdbaaGreatDoor
open Go.RowKit

theorem hideq {p : Prop} (h : p) : Hid p := h
def w32 (x : Int) : Prop := 0 ≤ x ∧ x < 4294967296
/-- Turned left: p is 2 to the places, q 2 to the others. -/
def rot (p q x : Int) : Int := bits .or .u32 (x * p % 4294967296) (x / q)

theorem below_drewn {B : Nat} {w w' : World} (h : Below B w w') (n : Nat) : Below B w (w'.drewN n) := ⟨h.os, h.tape, h.output, h.size, h.block⟩
theorem or_w32 {x y : Int} (hx : w32 x) (hy : w32 y) : w32 (bits .or .u32 x y) := by
  rw [u32_or x y hx.1 hx.2 hy.1 hy.2]
  have h1 := hx.1
  have h2 := hx.2
  have h3 := hy.1
  have h4 := hy.2
  have := Nat.or_lt_two_pow (x := x.toNat) (y := y.toNat) (n := 32) (by omega) (by omega)
  exact ⟨by omega, by omega⟩
theorem xor_w32 {x y : Int} (hx : w32 x) (hy : w32 y) : w32 (bits .xor .u32 x y) := by
  rw [u32_xor x y hx.1 hx.2 hy.1 hy.2]
  have h1 := hx.1
  have h2 := hx.2
  have h3 := hy.1
  have h4 := hy.2
  have := Nat.xor_lt_two_pow (x := x.toNat) (y := y.toNat) (n := 32) (by omega) (by omega)
  exact ⟨by omega, by omega⟩
theorem mod_w32 (x : Int) : w32 (x % 4294967296) := ⟨by omega, by omega⟩
theorem rot16_w32 {x : Int} (h : w32 x) : w32 (rot 65536 65536 x) := by
  have h1 := h.1
  have h2 := h.2
  exact or_w32 (mod_w32 _) ⟨by omega, by omega⟩
set_option maxHeartbeats 400000 in
theorem rotl16_any (x : Int) (w : World) (h : w32 x) : Calls Tryz.prog 69 #[.int .u32 x, .int .i64 16] w fun e w' => ∃ v, e = .returned (.int .u32 v) ∧ Hid (v = rot 65536 65536 x) ∧ w32 v ∧ w = w' := by
  have hw := rot16_w32 h
  obtain ⟨h0, h1⟩ := h
  have hb : bits .and .u64 16 31 = 16 := by decide +kernel
  go_enter Tryz.func69, Tryz.ntmps69
  go_wp2
  go_ret
  exact ⟨rot 65536 65536 x, rfl, rfl, hw, rfl⟩
theorem rot12_w32 {x : Int} (h : w32 x) : w32 (rot 4096 1048576 x) := by
  have h1 := h.1
  have h2 := h.2
  exact or_w32 (mod_w32 _) ⟨by omega, by omega⟩
set_option maxHeartbeats 400000 in
theorem rotl12_any (x : Int) (w : World) (h : w32 x) : Calls Tryz.prog 69 #[.int .u32 x, .int .i64 12] w fun e w' => ∃ v, e = .returned (.int .u32 v) ∧ Hid (v = rot 4096 1048576 x) ∧ w32 v ∧ w = w' := by
  have hw := rot12_w32 h
  obtain ⟨h0, h1⟩ := h
  have hb : bits .and .u64 12 31 = 12 := by decide +kernel
  go_enter Tryz.func69, Tryz.ntmps69
  go_wp2
  go_ret
  exact ⟨rot 4096 1048576 x, rfl, rfl, hw, rfl⟩
theorem rot8_w32 {x : Int} (h : w32 x) : w32 (rot 256 16777216 x) := by
  have h1 := h.1
  have h2 := h.2
  exact or_w32 (mod_w32 _) ⟨by omega, by omega⟩
set_option maxHeartbeats 400000 in
theorem rotl8_any (x : Int) (w : World) (h : w32 x) : Calls Tryz.prog 69 #[.int .u32 x, .int .i64 8] w fun e w' => ∃ v, e = .returned (.int .u32 v) ∧ Hid (v = rot 256 16777216 x) ∧ w32 v ∧ w = w' := by
  have hw := rot8_w32 h
  obtain ⟨h0, h1⟩ := h
  have hb : bits .and .u64 8 31 = 8 := by decide +kernel
  go_enter Tryz.func69, Tryz.ntmps69
  go_wp2
  go_ret
  exact ⟨rot 256 16777216 x, rfl, rfl, hw, rfl⟩
theorem rot7_w32 {x : Int} (h : w32 x) : w32 (rot 128 33554432 x) := by
  have h1 := h.1
  have h2 := h.2
  exact or_w32 (mod_w32 _) ⟨by omega, by omega⟩
set_option maxHeartbeats 400000 in
theorem rotl7_any (x : Int) (w : World) (h : w32 x) : Calls Tryz.prog 69 #[.int .u32 x, .int .i64 7] w fun e w' => ∃ v, e = .returned (.int .u32 v) ∧ Hid (v = rot 128 33554432 x) ∧ w32 v ∧ w = w' := by
  have hw := rot7_w32 h
  obtain ⟨h0, h1⟩ := h
  have hb : bits .and .u64 7 31 = 7 := by decide +kernel
  go_enter Tryz.func69, Tryz.ntmps69
  go_wp2
  go_ret
  exact ⟨rot 128 33554432 x, rfl, rfl, hw, rfl⟩
/-- A quarter round. -/
def qr (a b c d : Int) : Int × Int × Int × Int :=
  let a1 := (a + b) % 4294967296
  let d1 := rot 65536 65536 (bits .xor .u32 d a1)
  let c1 := (c + d1) % 4294967296
  let b1 := rot 4096 1048576 (bits .xor .u32 b c1)
  let a2 := (a + b + b1) % 4294967296
  let d2 := rot 256 16777216 (bits .xor .u32 d1 a2)
  let c2 := (c + d1 + d2) % 4294967296
  let b2 := rot 128 33554432 (bits .xor .u32 b1 c2)
  (a2, b2, c2, d2)

set_option maxHeartbeats 1000000 in
theorem quarter_any (a b c d : Int) (w : World) (ha : w32 a) (hb : w32 b) (hc : w32 c) (hd : w32 d) :
    Calls Tryz.prog 55 #[.int .u32 a, .int .u32 b, .int .u32 c, .int .u32 d] w fun e w' => ∃ x y z t, e = .returned (.tuple #[.int .u32 x, .int .u32 y, .int .u32 z, .int .u32 t]) ∧ Hid ((x, y, z, t) = qr a b c d) ∧ w32 x ∧ w32 y ∧ w32 z ∧ w32 t ∧ w = w' := by
  go_enter Tryz.func55, Tryz.ntmps55
  go_wp2_with fail
  refine (rotl16_any _ _ (xor_w32 hd (mod_w32 _))).mono ?_
  rintro e w1 ⟨d1, rfl, hd1, kd1, rfl⟩
  go_wp2_with fail
  refine (rotl12_any _ _ (xor_w32 hb (mod_w32 _))).mono ?_
  rintro e w1 ⟨b1, rfl, hb1, kb1, rfl⟩
  go_wp2_with fail
  refine (rotl8_any _ _ (xor_w32 kd1 (mod_w32 _))).mono ?_
  rintro e w1 ⟨d2, rfl, hd2, kd2, rfl⟩
  go_wp2_with fail
  refine (rotl7_any _ _ (xor_w32 kb1 (mod_w32 _))).mono ?_
  rintro e w1 ⟨b2, rfl, hb2, kb2, rfl⟩
  go_wp2
  refine bodyPost_ret (v := .tuple #[.int .u32 ((a + b + b1) % 4294967296), .int .u32 b2, .int .u32 ((c + d1 + d2) % 4294967296), .int .u32 d2]) (by simp [results, Tryz.results55, go_sem]) rfl ?_
  refine ⟨_, _, _, _, rfl, ?_, mod_w32 _, kb2, mod_w32 _, kd2, rfl⟩
  unfold Hid qr
  simp only
  rw [← hd1.out, ← hb1.out, ← hd2.out, ← hb2.out]

end Go.Proofs.YtooooncmjhcdbaaGreatDoor

/-
  The block of the stream: a contract each. Own work.
-/
namespace Go.Proofs.YtooooncmjhcdbaaGreatDoor
open Go.RowKit
def headL : List Int := [1634760805, 857760878, 2036477234, 1797285236]
def quartersL : List Int := [0, 4, 8, 12, 1, 5, 9, 13, 2, 6, 10, 14, 3, 7, 11, 15, 0, 5, 10, 15, 1, 6, 11, 12, 2, 7, 8, 13, 3, 4, 9, 14]
/-- The program's two tables. -/
def Tabs (w : World) : Prop := max 2 1 + 1 ≤ w.heap.size ∧ (∀ j, j < 4 → w.cell? ⟨2, j, none⟩ = some (.int .u32 (headL.getD j 0))) ∧ ∀ j, j < 32 → w.cell? ⟨1, j, none⟩ = some (.int .i64 (quartersL.getD j 0))
theorem Tabs.below {w w' : World} {B : Nat} (h : Tabs w) (hb : Below B w w') (h2 : max 2 1 + 1 ≤ B) : Tabs w' := by
  refine ⟨Nat.le_trans h.1 hb.size, fun j hj => ?_, fun j hj => ?_⟩
  · rw [hb.cell (by show 2 < B; omega)]; exact h.2.1 j hj
  · rw [hb.cell (by show 1 < B; omega)]; exact h.2.2 j hj
theorem Tabs.later {w w' : World} (h : Tabs w) (hb : Below w.heap.size w w') : Tabs w' := h.below hb h.1
/-- Numbers out of bytes, the lowest byte first. -/
def words (ks : List Int) (k : Nat) : List Int := (List.range k).map fun i => leV ks (4 * i) 4
theorem words_len (ks : List Int) (k : Nat) : (words ks k).length = k := by simp [words]
theorem words_succ (ks : List Int) (k : Nat) : words ks (k + 1) = words ks k ++ [leV ks (4 * k) 4] := by simp [words, List.range_succ]
/-- A block's numbers at first. -/
def begL (ks : List Int) (c : Int) (ns : List Int) : List Int := headL ++ (words ks 8 ++ (c :: words ns 3))
theorem take_succ_getD (l : List Int) (k : Nat) (h : k < l.length) : l.take (k + 1) = l.take k ++ [l.getD k 0] := by
  rw [List.take_add_one]; simp [List.getD, List.getElem?_eq_getElem h]
set_option maxRecDepth 100000 in
set_option maxHeartbeats 1000000 in
theorem first_any (ks ns : List Int) (c : Int) (w : World) (hT : Tabs w) (hk : ks.length = 32) (hn : ns.length = 12) (hk' : IsBy ks) (hn' : IsBy ns) (hc : w32 c) :
    Calls Tryz.prog 54 #[.agg (bv ks).toArray, .int .u32 c, .agg (bv ns).toArray] w fun e w' => e = .returned (.agg (vk .u32 (begL ks c ns)).toArray) ∧ Below w.heap.size w w' := by
  have h32 := hide hk
  have h12 := hide hn
  clear hk hn
  go_enter Tryz.func54, Tryz.ntmps54
  go_wp2_with fail
  generalize hw2 : (w.alloc (Obj.cells (bv ks).toArray 42)).alloc (Obj.cells (bv ns).toArray 45) = w2
  have s2 : w2.heap.size = w.heap.size + 1 + 1 := by rw [← hw2]; simp
  have b2 : Below w.heap.size w w2 := by rw [← hw2]; exact ((Below.refl _ _).alloc (Nat.le_refl _) _).alloc (by simp) _
  have hK : Bs w2 (w.heap.size + 1 + 1) (some ⟨w.heap.size, 0, none⟩) 32 ks := by
    have h1 := (Bs.lit w 42 (0, 0) ks).below ((Below.refl _ _).alloc (by simp) (Obj.cells (bv ns).toArray 45))
    rw [hw2, h32.out] at h1
    exact h1.up (by omega)
  have hN : Bs w2 (w.heap.size + 1 + 1) (some ⟨w.heap.size + 1, 0, none⟩) 12 ns := by
    have h1 := Bs.lit (w.alloc (Obj.cells (bv ks).toArray 42)) 45 (0, 0) ns
    rw [hw2, h12.out] at h1
    simpa using h1
  have hT2 := hT.later b2
  clear hw2
  go_loopw [13] (fun i wr => ∃ k : Nat, k ≤ 4 ∧ i = .int .i64 k ∧ OwnK .u32 wr 112 (w.heap.size + 1 + 1 + 1) ([] ++ (headL.take k ++ (List.replicate (4 - k) 0 ++ (List.replicate 8 0 ++ c :: List.replicate 3 0)))) ∧ OwnK .u32 wr 112 (w.heap.size + 1 + 1) (List.replicate 16 0) ∧ Below (w.heap.size + 1 + 1) w2 wr) (fun i _ => 4 - (intOf i).toNat)
  case atStart => 
    refine ⟨0, by omega, rfl, ?_, ?_, ?_⟩
    · have := OwnK.new (kd := .u32) (w2.alloc (Obj.cells (vk .u32 (List.replicate 16 0)).toArray 112)) _ 112 ([] ++ (headL.take 0 ++ (List.replicate (4 - 0) 0 ++ (List.replicate 8 0 ++ c :: List.replicate 3 0)))) rfl
      have hs : (w2.alloc (Obj.cells (vk .u32 (List.replicate 16 0)).toArray 112)).heap.size = w.heap.size + 1 + 1 + 1 := by simp [s2]
      rw [hs] at this
      exact this
    · have := (OwnK.new (kd := .u32) w2 _ 112 (List.replicate 16 0) rfl).later ((Below.refl _ _).alloc (Nat.le_refl _) (Obj.cells (vk .u32 ([] ++ (headL.take 0 ++ (List.replicate (4 - 0) 0 ++ (List.replicate 8 0 ++ c :: List.replicate 3 0))))).toArray 112))
      rw [s2] at this
      exact this
    · exact ((Below.refl _ _).alloc (by omega) _).alloc (by simp; omega) _
  case round =>
    obtain ⟨k, hk, rfl, hX, hZ, hb⟩ := hrel
    by_cases hlt : k < 4
    · have hh := (hT2.below hb (by have := hT.1; omega)).2.1 k hlt
      have hcell := hX.cell (j := k) (by simp [headL]; omega)
      have hf := hX.frozen k
      have hs := hX.set k (headL.getD k 0)
      have he := set_mid hlt [] (headL.take k) (List.replicate 8 0 ++ c :: List.replicate 3 0) (by simp [headL]; omega) (headL.getD k 0)
      rw [List.length_nil, Nat.zero_add] at he
      rw [he, ← take_succ_getD headL k (by simp [headL]; omega)] at hs
      have HS := hide hs
      clear hs he
      go_wp2
      go_roundw
      case rel => exact ⟨k + 1, by omega, by go_num, HS.out, hZ.other _ _ (by omega), hb.setCell (by simp) _⟩
      case measure => simp [intOf]; omega
    · go_wp2_with fail
      have hk4 : k = 4 := by omega
      rw [hk4] at hX
      generalize Value.int .i64 (k : Int) = s13
      generalize Value.bool (decide ((k : Int) < 4)) = s14
      clear hlt hk hk4
      have hX1 : OwnK .u32 wr 112 (w.heap.size + 1 + 1 + 1) (headL ++ (words ks 0 ++ (List.replicate (8 - 0) 0 ++ c :: List.replicate 3 0))) := hX
      clear hX
      go_loopw [22] (fun i wr => ∃ k : Nat, k ≤ 8 ∧ i = .int .i64 k ∧ OwnK .u32 wr 112 (w.heap.size + 1 + 1 + 1) (headL ++ (words ks k ++ (List.replicate (8 - k) 0 ++ c :: List.replicate 3 0))) ∧ OwnK .u32 wr 112 (w.heap.size + 1 + 1) (List.replicate 16 0) ∧ Below (w.heap.size + 1 + 1) w2 wr) (fun i _ => 8 - (intOf i).toNat)
      case atStart => exact ⟨0, by omega, rfl, hX1, hZ, hb⟩
      case round =>
        clear hX1 hZ hb
        obtain ⟨k, hk, rfl, hX, hZ, hb⟩ := hrel
        by_cases hlt : k < 8
        · have hcell := hX.cell (j := 4 + k) (by simp [headL, words_len]; omega)
          have hf := hX.frozen (4 + k)
          have hs := hX.set (4 + k) (leV ks (4 * k) 4)
          have he := set_mid hlt headL (words ks k) (c :: List.replicate 3 0) (words_len _ _) (leV ks (4 * k) 4)
          rw [show headL.length + k = 4 + k from rfl] at he
          rw [he, ← words_succ] at hs
          have HS := hide hs
          clear hs he
          have hK2 := (hK.below hb).up (show w.heap.size + 1 + 1 ≤ wr.heap.size from by have := hX.lt; omega)
          have hL := le32_any (some ⟨w.heap.size, 0, none⟩) 32 32 (4 * k) ks wr hK2 hk' (by omega) (by omega)
          rw [show ((4 * k : Nat) : Int) = 4 * (k : Int) from by omega] at hL
          go_wp2_with fail
          refine hL.mono ?_
          rintro e w' ⟨rfl, rfl⟩
          go_wp2
          go_roundw
          case rel => exact ⟨k + 1, by omega, by go_num, HS.out, hZ.other _ _ (by omega), hb.setCell (by simp) _⟩
          case measure => simp [intOf]; omega
        · go_wp2_with fail
          have hk8 : k = 8 := by omega
          rw [hk8] at hX
          generalize Value.int .i64 (k : Int) = s22
          generalize Value.bool (decide ((k : Int) < 8)) = s23
          clear hlt hk hk8
          have hX1 : OwnK .u32 wr 112 (w.heap.size + 1 + 1 + 1) ((headL ++ words ks 8 ++ [c]) ++ (words ns 0 ++ (List.replicate (3 - 0) 0 ++ []))) := by
            have e : headL ++ (words ks 8 ++ (List.replicate (8 - 8) 0 ++ c :: List.replicate 3 0)) = (headL ++ words ks 8 ++ [c]) ++ (words ns 0 ++ (List.replicate (3 - 0) 0 ++ [])) := by simp [words]
            rw [← e]; exact hX
          clear hX
          go_loopw [33] (fun i wr => ∃ k : Nat, k ≤ 3 ∧ i = .int .i64 k ∧ OwnK .u32 wr 112 (w.heap.size + 1 + 1 + 1) ((headL ++ words ks 8 ++ [c]) ++ (words ns k ++ (List.replicate (3 - k) 0 ++ []))) ∧ OwnK .u32 wr 112 (w.heap.size + 1 + 1) (List.replicate 16 0) ∧ Below (w.heap.size + 1 + 1) w2 wr) (fun i _ => 3 - (intOf i).toNat)
          case atStart => exact ⟨0, by omega, rfl, hX1, hZ, hb⟩
          case round =>
            clear hX1 hZ hb
            obtain ⟨k, hk, rfl, hX, hZ, hb⟩ := hrel
            by_cases hlt : k < 3
            · have hcell := hX.cell (j := 13 + k) (by simp [headL, words_len]; omega)
              have hf := hX.frozen (13 + k)
              have hs := hX.set (13 + k) (leV ns (4 * k) 4)
              have he := set_mid hlt (headL ++ words ks 8 ++ [c]) (words ns k) [] (words_len _ _) (leV ns (4 * k) 4)
              rw [show (headL ++ words ks 8 ++ [c]).length + k = 13 + k from by simp [headL, words_len]] at he
              rw [he, ← words_succ] at hs
              have HS := hide hs
              clear hs he
              have hN2 := (hN.below hb).up (show w.heap.size + 1 + 1 ≤ wr.heap.size from by have := hX.lt; omega)
              have hL := le32_any (some ⟨w.heap.size + 1, 0, none⟩) 12 12 (4 * k) ns wr hN2 hn' (by omega) (by omega)
              rw [show ((4 * k : Nat) : Int) = 4 * (k : Int) from by omega] at hL
              go_wp2_with fail
              refine hL.mono ?_
              rintro e w' ⟨rfl, rfl⟩
              go_wp2
              go_roundw
              case rel => exact ⟨k + 1, by omega, by go_num, HS.out, hZ.other _ _ (by omega), hb.setCell (by simp) _⟩
              case measure => simp [intOf]; omega
            · have hk3 : k = 3 := by omega
              rw [hk3] at hX
              have heq : (headL ++ words ks 8 ++ [c]) ++ (words ns 3 ++ (List.replicate (3 - 3) 0 ++ [])) = begL ks c ns := by simp [begL]
              rw [heq] at hX
              have hlen : (begL ks c ns).length = 16 := by simp [begL, headL, words_len]
              have hsz : (Tryz.prog.info? 112).map (·.size) = some (vk .u32 (begL ks c ns)).toArray.size := by
                rw [List.size_toArray, vk_len, hlen]; kernel_rfl
              have hzz : (vk .u32 (List.replicate 16 0)).toArray.size = (vk .u32 (begL ks c ns)).toArray.size := by simp [vk_len, hlen]
              clear hk3 heq
              go_wp2_with (first
                | refine wpList_load_row rfl 112 (.tmp 7) rfl (w.heap.size + 1 + 1 + 1) rfl 112 _ (0, 0) _ hX Tryz.underlying112 rfl hsz ?_
                | refine wpList_store_row rfl 112 (.tmp 6) (.tmp 44) rfl (w.heap.size + 1 + 1) _ rfl rfl 112 _ hZ hsz hzz (vk_one _ _) ?_)
              refine bodyPost_ret (v := .agg (vk .u32 (begL ks c ns)).toArray) ?_ rfl ⟨rfl, ?_⟩
              · exact results_cell_row Tryz.results54 _ _ (w.heap.size + 1 + 1) 112 _ (0, 0) _ rfl (setRow_heap _ _ _ _ _ _ hZ) Tryz.underlying112 rfl hsz
              · exact b2.trans (below_setRow (hb.mono (by omega)) (by omega) _)
end Go.Proofs.YtooooncmjhcdbaaGreatDoor

/-
  The stream's block, as lists of numbers: plain mathematics. Own work.
-/
namespace Go.Proofs.YtooooncmjhcdbaaGreatDoor
open Go.RowKit
def IsW (xs : List Int) : Prop := ∀ x, x ∈ xs → w32 x
theorem IsW.getD {xs : List Int} (h : IsW xs) (i : Nat) : w32 (xs.getD i 0) := by
  by_cases hi : i < xs.length
  · simp only [List.getD, List.getElem?_eq_getElem hi, Option.getD_some]; exact h _ (List.getElem_mem hi)
  · simp only [List.getD, List.getElem?_eq_none (show xs.length ≤ i by omega), Option.getD_none]; exact ⟨by omega, by omega⟩
theorem IsW.set {xs : List Int} (h : IsW xs) {v : Int} (hv : w32 v) (i : Nat) : IsW (xs.set i v) := by
  intro x hx
  rcases List.mem_or_eq_of_mem_set hx with h1 | h1
  · exact h x h1
  · exact h1 ▸ hv
theorem IsW.append {xs ys : List Int} (h : IsW xs) (h' : IsW ys) : IsW (xs ++ ys) := fun x hx => (List.mem_append.1 hx).elim (h x) (h' x)
/-- A quarter round in its places. -/
def qat (xs : List Int) (i j k l : Nat) : List Int :=
  let q := qr (xs.getD i 0) (xs.getD j 0) (xs.getD k 0) (xs.getD l 0)
  (((xs.set i q.1).set j q.2.1).set k q.2.2.1).set l q.2.2.2
theorem qat_len (xs : List Int) (i j k l : Nat) : (qat xs i j k l).length = xs.length := by simp [qat]
theorem qr_w32 {a b c d : Int} (ha : w32 a) (hb : w32 b) (hc : w32 c) (hd : w32 d) : w32 (qr a b c d).1 ∧ w32 (qr a b c d).2.1 ∧ w32 (qr a b c d).2.2.1 ∧ w32 (qr a b c d).2.2.2 := by
  unfold qr
  have d1 := rot16_w32 (xor_w32 hd (mod_w32 (a + b)))
  have b1 := rot12_w32 (xor_w32 hb (mod_w32 (c + rot 65536 65536 (bits .xor .u32 d ((a + b) % 4294967296)))))
  have d2 := rot8_w32 (xor_w32 d1 (mod_w32 (a + b + rot 4096 1048576 (bits .xor .u32 b ((c + rot 65536 65536 (bits .xor .u32 d ((a + b) % 4294967296))) % 4294967296)))))
  exact ⟨mod_w32 _, rot7_w32 (xor_w32 b1 (mod_w32 _)), mod_w32 _, d2⟩
theorem qat_w {xs : List Int} (h : IsW xs) (i j k l : Nat) : IsW (qat xs i j k l) := by
  obtain ⟨h1, h2, h3, h4⟩ := qr_w32 (h.getD i) (h.getD j) (h.getD k) (h.getD l)
  exact (((h.set h1 i).set h2 j).set h3 k).set h4 l
/-- Where the k-th quarter round of a double round has its places. -/
def pl (k : Nat) : Nat × Nat × Nat × Nat :=
  match k with
  | 0 => (0, 4, 8, 12) | 1 => (1, 5, 9, 13) | 2 => (2, 6, 10, 14) | 3 => (3, 7, 11, 15)
  | 4 => (0, 5, 10, 15) | 5 => (1, 6, 11, 12) | 6 => (2, 7, 8, 13) | _ => (3, 4, 9, 14)
def step1 (xs : List Int) (k : Nat) : List Int := qat xs (pl k).1 (pl k).2.1 (pl k).2.2.1 (pl k).2.2.2
/-- The first k quarter rounds of a double round. -/
def quarts (xs : List Int) : Nat → List Int
  | 0 => xs
  | k + 1 => step1 (quarts xs k) k
def rounds (xs : List Int) : Nat → List Int
  | 0 => xs
  | k + 1 => quarts (rounds xs k) 8
theorem quarts_len (xs : List Int) (k : Nat) : (quarts xs k).length = xs.length := by
  induction k with
  | zero => rfl
  | succ k ih => rw [quarts, step1, qat_len, ih]
theorem quarts_w {xs : List Int} (h : IsW xs) (k : Nat) : IsW (quarts xs k) := by
  induction k with
  | zero => exact h
  | succ k ih => exact qat_w ih _ _ _ _
theorem rounds_len (xs : List Int) (k : Nat) : (rounds xs k).length = xs.length := by
  induction k with
  | zero => rfl
  | succ k ih => rw [rounds, quarts_len, ih]
theorem rounds_w {xs : List Int} (h : IsW xs) (k : Nat) : IsW (rounds xs k) := by
  induction k with
  | zero => exact h
  | succ k ih => exact quarts_w ih _
/-- The i-th number of a block. -/
def blockN (ks : List Int) (c : Int) (ns : List Int) (i : Nat) : Int := ((rounds (begL ks c ns) 10).getD i 0 + (begL ks c ns).getD i 0) % 4294967296
/-- The bytes of a block's first k numbers. -/
def blockP (ks : List Int) (c : Int) (ns : List Int) (k : Nat) : List Int := (List.range k).flatMap fun i => lowB (blockN ks c ns i) 4
def blockL (ks : List Int) (c : Int) (ns : List Int) : List Int := blockP ks c ns 16
theorem blockP_succ (ks : List Int) (c : Int) (ns : List Int) (k : Nat) : blockP ks c ns (k + 1) = blockP ks c ns k ++ lowB (blockN ks c ns k) 4 := by
  simp [blockP, List.range_succ, List.flatMap_append]
theorem blockP_len (ks : List Int) (c : Int) (ns : List Int) (k : Nat) : (blockP ks c ns k).length = 4 * k := by
  induction k with
  | zero => rfl
  | succ k ih => rw [blockP_succ, List.length_append, ih, lowB_length]; omega
theorem blockL_len (ks : List Int) (c : Int) (ns : List Int) : (blockL ks c ns).length = 64 := blockP_len ks c ns 16
theorem blockP_by (ks : List Int) (c : Int) (ns : List Int) (k : Nat) : IsBy (blockP ks c ns k) := by
  intro x hx
  simp only [blockP, List.mem_flatMap] at hx
  obtain ⟨i, _, hi⟩ := hx
  exact lowB_byte _ _ _ hi
theorem words_w {ks : List Int} (h : IsBy ks) (k : Nat) : IsW (words ks k) := by
  intro x hx
  simp only [words, List.mem_map] at hx
  obtain ⟨i, _, rfl⟩ := hx
  have := leV_bound h (4 * i) 4
  exact ⟨this.1, by have := this.2; simpa using this⟩
theorem begL_w {ks ns : List Int} {c : Int} (h : IsBy ks) (h' : IsBy ns) (hc : w32 c) : IsW (begL ks c ns) := by
  refine IsW.append ?_ ((words_w h 8).append ?_)
  · intro x hx
    simp only [headL, List.mem_cons, List.not_mem_nil, or_false] at hx
    rcases hx with rfl | rfl | rfl | rfl <;> exact ⟨by omega, by omega⟩
  · intro x hx
    rcases List.mem_cons.1 hx with rfl | hx
    · exact hc
    · exact words_w h' 3 x hx
theorem begL_len (ks : List Int) (c : Int) (ns : List Int) : (begL ks c ns).length = 16 := by simp [begL, headL, words_len]
theorem set_fill {L T : List Int} {v : List Int} (p n : Nat) (hL : L.length = p) (hT : T.length = n) (hv : v.length ≤ n) : (L ++ T).take p ++ v ++ (L ++ T).drop (p + v.length) = (L ++ v) ++ T.drop v.length := by
  subst hL
  simp [List.drop_append]
end Go.Proofs.YtooooncmjhcdbaaGreatDoor

/-
  A quarter round in its places, in the program: the statement whose order is open. Own work.
-/
namespace Go.Proofs.YtooooncmjhcdbaaGreatDoor
open Go.RowKit
def upd4 (xs : List Int) (a b c d : Nat) (q : Int × Int × Int × Int) (b1 b2 b3 b4 : Bool) : List Int :=
  let s1 := bif b1 then xs.set a q.1 else xs
  let s2 := bif b2 then s1.set b q.2.1 else s1
  let s3 := bif b3 then s2.set c q.2.2.1 else s2
  bif b4 then s3.set d q.2.2.2 else s3
theorem upd4_len (xs : List Int) (a b c d : Nat) (q : Int × Int × Int × Int) (b1 b2 b3 b4 : Bool) : (upd4 xs a b c d q b1 b2 b3 b4).length = xs.length := by
  cases b1 <;> cases b2 <;> cases b3 <;> cases b4 <;> simp [upd4]
def qrV (q : Int × Int × Int × Int) : Value := .tuple #[.int .u32 q.1, .int .u32 q.2.1, .int .u32 q.2.2.1, .int .u32 q.2.2.2]
def J8 (gp gx : Nat) (ps : List Value) (xs : List Int) (a b c d : Nat) (w0 : World) (bs : List Bool) (vs : List Value) (w : World) : Prop :=
  Row w 114 gp ps ∧ Row w 112 gx (vk .u32 (upd4 xs a b c d (qr (xs.getD a 0) (xs.getD b 0) (xs.getD c 0) (xs.getD d 0)) (bs.getD 1 false) (bs.getD 2 false) (bs.getD 3 false) (bs.getD 4 false))) ∧ Below gx w0 w
theorem J8.at0 {bs : List Bool} {vs : List Value} {w0 w : World} {gp gx : Nat} {ps : List Value} {xs : List Int} {a b c d : Nat} (h : J8 gp gx ps xs a b c d w0 bs vs w) (h1 : bs.getD 1 false = false) (h2 : bs.getD 2 false = false) (h3 : bs.getD 3 false = false) (h4 : bs.getD 4 false = false) : Row w 112 gx (vk .u32 (upd4 xs a b c d (qr (xs.getD a 0) (xs.getD b 0) (xs.getD c 0) (xs.getD d 0)) false false false false)) ∧ Below gx w0 w := by
  have := h.2.1
  rw [h1, h2, h3, h4] at this
  exact ⟨this, h.2.2⟩
theorem J8.at1 {bs : List Bool} {vs : List Value} {w0 w : World} {gp gx : Nat} {ps : List Value} {xs : List Int} {a b c d : Nat} (h : J8 gp gx ps xs a b c d w0 bs vs w) (h1 : bs.getD 1 false = true) (h2 : bs.getD 2 false = false) (h3 : bs.getD 3 false = false) (h4 : bs.getD 4 false = false) : Row w 112 gx (vk .u32 (upd4 xs a b c d (qr (xs.getD a 0) (xs.getD b 0) (xs.getD c 0) (xs.getD d 0)) true false false false)) ∧ Below gx w0 w := by
  have := h.2.1
  rw [h1, h2, h3, h4] at this
  exact ⟨this, h.2.2⟩
theorem J8.at2 {bs : List Bool} {vs : List Value} {w0 w : World} {gp gx : Nat} {ps : List Value} {xs : List Int} {a b c d : Nat} (h : J8 gp gx ps xs a b c d w0 bs vs w) (h1 : bs.getD 1 false = true) (h2 : bs.getD 2 false = true) (h3 : bs.getD 3 false = false) (h4 : bs.getD 4 false = false) : Row w 112 gx (vk .u32 (upd4 xs a b c d (qr (xs.getD a 0) (xs.getD b 0) (xs.getD c 0) (xs.getD d 0)) true true false false)) ∧ Below gx w0 w := by
  have := h.2.1
  rw [h1, h2, h3, h4] at this
  exact ⟨this, h.2.2⟩
theorem J8.at3 {bs : List Bool} {vs : List Value} {w0 w : World} {gp gx : Nat} {ps : List Value} {xs : List Int} {a b c d : Nat} (h : J8 gp gx ps xs a b c d w0 bs vs w) (h1 : bs.getD 1 false = true) (h2 : bs.getD 2 false = true) (h3 : bs.getD 3 false = true) (h4 : bs.getD 4 false = false) : Row w 112 gx (vk .u32 (upd4 xs a b c d (qr (xs.getD a 0) (xs.getD b 0) (xs.getD c 0) (xs.getD d 0)) true true true false)) ∧ Below gx w0 w := by
  have := h.2.1
  rw [h1, h2, h3, h4] at this
  exact ⟨this, h.2.2⟩
theorem J8.start {bs : List Bool} {vs : List Value} {w0 w : World} {gp gx : Nat} {ps : List Value} {xs : List Int} {a b c d : Nat} (h : J8 gp gx ps xs a b c d w0 bs vs w) (h1 : bs.getD 1 false = false) (h2 : bs.getD 2 false = false) (h3 : bs.getD 3 false = false) (h4 : bs.getD 4 false = false) : Row w 112 gx (vk .u32 xs) := (J8.at0 h h1 h2 h3 h4).1
/-- What each operation leaves. -/
def S8 (gp gx : Nat) (xs : List Int) (a b c d : Nat) (n : Nat) (v : Value) : Prop :=
  match n with
  | 0 | 8 => v = .pointer (some ⟨gp, 0, none⟩) | 2 | 12 => v = .pointer (some ⟨gp, 1, none⟩) | 4 | 16 => v = .pointer (some ⟨gp, 2, none⟩) | 6 | 20 => v = .pointer (some ⟨gp, 3, none⟩)
  | 1 | 9 => v = .int .i64 a | 3 | 13 => v = .int .i64 b | 5 | 17 => v = .int .i64 c | 7 | 21 => v = .int .i64 d
  | 10 | 30 => v = .pointer (some ⟨gx, a, none⟩) | 14 | 32 => v = .pointer (some ⟨gx, b, none⟩) | 18 | 34 => v = .pointer (some ⟨gx, c, none⟩) | 22 | 36 => v = .pointer (some ⟨gx, d, none⟩)
  | 11 => v = .int .u32 (xs.getD a 0) | 15 => v = .int .u32 (xs.getD b 0) | 19 => v = .int .u32 (xs.getD c 0) | 23 => v = .int .u32 (xs.getD d 0)
  | 24 | 25 => v = qrV (qr (xs.getD a 0) (xs.getD b 0) (xs.getD c 0) (xs.getD d 0))
  | 26 => v = .int .u32 (qr (xs.getD a 0) (xs.getD b 0) (xs.getD c 0) (xs.getD d 0)).1
  | 27 => v = .int .u32 (qr (xs.getD a 0) (xs.getD b 0) (xs.getD c 0) (xs.getD d 0)).2.1
  | 28 => v = .int .u32 (qr (xs.getD a 0) (xs.getD b 0) (xs.getD c 0) (xs.getD d 0)).2.2.1
  | 29 => v = .int .u32 (qr (xs.getD a 0) (xs.getD b 0) (xs.getD c 0) (xs.getD d 0)).2.2.2
  | _ => True
def J15 (gr : Nat) (old new : List Value) (ys : List Int) (w0 : World) (bs : List Bool) (vs : List Value) (w : World) : Prop :=
  Row w 98 gr (bif bs.getD 1 false then new else old) ∧ Below gr w0 w ∧ (bs.getD 0 false = true → bs.getD 1 false = false → ∃ A c, vs.getD 0 undef = .slice A 4 c ∧ Bs w w.heap.size A 4 ys)
theorem J15.old_ {gr : Nat} {old new : List Value} {ys : List Int} {w0 : World} {bs : List Bool} {vs : List Value} {w : World} (h : J15 gr old new ys w0 bs vs w) (h1 : bs.getD 1 false = false) : Row w 98 gr old := by
  have := h.1
  rw [h1] at this
  exact this
def S15 (gr gx gs k : Nat) (X Y : Int) (n : Nat) (v : Value) : Prop :=
  match n with
  | 0 | 3 | 6 => v = .int .i64 k | 1 => v = .int .i64 ((4 * k : Nat) : Int) | 2 => v = .slice (some ⟨gr, 4 * k, none⟩) (64 - 4 * k) (64 - 4 * k)
  | 4 => v = .pointer (some ⟨gx, k, none⟩) | 5 => v = .int .u32 X | 7 => v = .pointer (some ⟨gs, k, none⟩) | 8 => v = .int .u32 Y | 9 => v = .int .u32 ((X + Y) % 4294967296)
  | 10 => ∃ A c, v = .slice A 4 c | _ => True
theorem fill4 (P R ys : List Int) (m : Nat) (hP : P.length = m) (hy : ys.length = 4) : (bv (P ++ R)).take m ++ (bv ys ++ (bv (P ++ R)).drop (m + 4)) = bv ((P ++ ys) ++ R.drop 4) := by
  subst hP
  simp [bv, List.drop_append]
end Go.Proofs.YtooooncmjhcdbaaGreatDoor

/-
  The block: a contract. Own work.
-/
namespace Go.Proofs.YtooooncmjhcdbaaGreatDoor
open Go.RowKit
def plL (k : Nat) : List Int := [((pl k).1 : Int), (pl k).2.1, (pl k).2.2.1, (pl k).2.2.2]
theorem quarter_index (k : Nat) (hk : k < 8) (w : World) : (Instr.index 115 (.agg (vk .i64 quartersL).toArray) (.int .i64 k)).run Tryz.prog w = .ok (.agg (vk .i64 (plL k)).toArray) w := by
  rw [run_index_part w 115 114 8 4 (vk .i64 quartersL) k Tryz.underlying115 Tryz.isAgg114 Tryz.sizeOf114 hk]
  rcases k with _ | _ | _ | _ | _ | _ | _ | _ | k
  all_goals first
    | rfl
    | omega
theorem pl_lt (k : Nat) (hk : k < 8) : (pl k).1 < 16 ∧ (pl k).2.1 < 16 ∧ (pl k).2.2.1 < 16 ∧ (pl k).2.2.2 < 16 := by
  rcases k with _ | _ | _ | _ | _ | _ | _ | _ | k
  all_goals first
    | exact ⟨by decide, by decide, by decide, by decide⟩
    | omega
theorem zero64 : (Tryz.prog.info? 98).map (fun i => i.zero) = some (some (.agg (bv (List.replicate 64 0)).toArray)) := by kernel_rfl
theorem zero16 : (Tryz.prog.info? 112).map (fun i => i.zero) = some (some (.agg (vk .u32 (List.replicate 16 0)).toArray)) := by kernel_rfl
theorem zero4 : (Tryz.prog.info? 114).map (fun i => i.zero) = some (some (.agg (vk .i64 (List.replicate 4 0)).toArray)) := by kernel_rfl
theorem Tabs.cells {w : World} (hT : Tabs w) : ∀ (j : Nat) (v : Value), (vk .i64 quartersL)[j]? = some v → w.cell? ⟨1, 0 + j, none⟩ = some v := by
  intro j v hv
  have hj : j < 32 := by
    have := (List.getElem?_eq_some_iff.1 hv).1
    simpa [vk_len, quartersL] using this
  rw [Nat.zero_add, hT.2.2 j hj, ← hv, vk_get (by simp [quartersL]; omega)]
set_option maxRecDepth 100000 in
set_option maxHeartbeats 4000000 in
theorem block_any (ks ns : List Int) (c : Int) (w : World) (hT : Tabs w) (hk : ks.length = 32) (hn : ns.length = 12) (hk' : IsBy ks) (hn' : IsBy ns) (hc : w32 c) :
    Calls Tryz.prog 42 #[.agg (bv ks).toArray, .int .u32 c, .agg (bv ns).toArray] w fun e w' => e = .returned (.agg (bv (blockL ks c ns)).toArray) ∧ Below w.heap.size w w' := by
  have hlen : Hid ((begL ks c ns).length = 16) := begL_len ks c ns
  have hF := fun w hT => first_any ks ns c w hT hk hn hk' hn' hc
  have zk := hide (size_b (P := Tryz.prog) (T := 42) (by kernel_rfl) hk)
  have zn := hide (size_b (P := Tryz.prog) (T := 45) (by kernel_rfl) hn)
  have zb := hide (size_k (P := Tryz.prog) (T := 112) (kd := .u32) (n := 16) (by kernel_rfl) hlen.out)
  have z0 := hide (show (vk .u32 (List.replicate 16 0)).length = (vk .u32 (begL ks c ns)).length by rw [vk_len, vk_len, hlen.out]; rfl)
  clear hk hn
  go_enter Tryz.func42, Tryz.ntmps42
  go_wp2_with (first
    | (with_reducible refine wl_box rfl 42 (.tmp 0) _ (bv ks) rfl rfl rfl ?_; intro g3 w3 r3 a3 l3 b3)
    | (with_reducible refine wl_box rfl 45 (.tmp 2) _ (bv ns) rfl rfl rfl ?_; intro g5 w5 r5 a5 l5 b5)
    | (with_reducible refine wl_alloc rfl 98 _ (bv (List.replicate 64 0)) rfl zero64 rfl ?_; intro g6 w6 r6 a6 l6 b6)
    | (with_reducible refine wl_load_row rfl 42 (.tmp 3) g3 42 (bv ks) _ rfl rfl ((r3.later b5).later b6) Tryz.underlying42 rfl zk.out ?_)
    | (with_reducible refine wl_load_row rfl 45 (.tmp 5) g5 45 (bv ns) _ rfl rfl (r5.later b6) Tryz.underlying45 rfl zn.out ?_))
  have B6 := (b3.trans (b5.mono b3.size)).trans (b6.mono (Nat.le_trans b3.size b5.size))
  have A6 : w.heap.size ≤ g6 := by have := b3.size; have := b5.size; omega
  refine (hF _ (hT.later B6)).mono ?_
  rintro e w7 ⟨rfl, b7⟩
  have B7 := B6.trans (b7.mono B6.size)
  have r6' := r6.later b7
  have s6 : w6.heap.size ≤ w7.heap.size := b7.size
  clear hF b3 b5 b6 b7 r3 r5 r6
  go_wp2_with (first
    | (with_reducible refine wl_alloc (o := ⟨some 7, _, _, _, _, _⟩) rfl 112 _ (vk .u32 (List.replicate 16 0)) rfl zero16 rfl ?_; intro gs w8 r8 a8 l8 b8)
    | (with_reducible refine wl_alloc (o := ⟨some 8, _, _, _, _, _⟩) rfl 112 _ (vk .u32 (List.replicate 16 0)) rfl zero16 rfl ?_; intro gx w10 r10 a10 l10 b10)
    | (with_reducible refine wl_store_row rfl 112 (.tmp 7) (.tmp 16) _ 112 _ (vk .u32 (begL ks c ns)) rfl rfl rfl r8 zb.out z0.out (vk_one' _ _) ?_; intro w9 r9 o9)
    | (with_reducible refine wl_load_row rfl 112 (.tmp 7) _ 112 (vk .u32 (begL ks c ns)) _ rfl rfl r9 Tryz.underlying112 rfl zb.out ?_)
    | (with_reducible refine wl_store_row rfl 112 (.tmp 8) (.tmp 17) _ 112 _ (vk .u32 (begL ks c ns)) rfl rfl rfl r10 zb.out z0.out (vk_one' _ _) ?_; intro w11 r11 o11))
  have q8 : w8.heap.size = w9.heap.size := o9.size.symm
  have q10 : w10.heap.size = w11.heap.size := o11.size.symm
  have B8 := B7.trans (b8.mono B7.size)
  have B9 := B8.trans (o9.below (show w.heap.size ≤ gs by have := B7.size; omega))
  have B10 := B9.trans (b10.mono B9.size)
  have B11 := B10.trans (o11.below (show w.heap.size ≤ gx by have := B9.size; omega))
  have ls : gs < gx := by omega
  have l6' : g6 < gs := by omega
  have rs := (r9.later b10).only o11 (by omega)
  have r6 := (((r6'.later b8).only o9 (by omega)).later b10).only o11 (by omega)
  have hT11 := hT.later B11
  have h2 : max 2 1 + 1 ≤ gx := by have := hT.1; omega
  have lx : gx < w11.heap.size := by omega
  clear r8 r9 r10 b8 b10 o9 o11 B6 B7 B8 B9 B10 r6' q8 q10
  go_loopw [18] (fun i wr => ∃ k : Nat, k ≤ 10 ∧ i = .int .i64 k ∧ Row wr 112 gx (vk .u32 (rounds (begL ks c ns) k)) ∧ Below gx w11 wr) (fun i _ => 10 - (intOf i).toNat)
  case atStart => exact ⟨0, by omega, rfl, r11, Below.refl _ _⟩
  case round =>
    clear r11
    obtain ⟨k, hk, rfl, rx, bx⟩ := hrel
    by_cases hlt : k < 10
    · have hcl := (hT11.below bx h2).cells
      go_wp2_with (first
        | (with_reducible refine wl_load_cells rfl 115 (.global 1) _ 0 (vk .i64 quartersL) _ rfl rfl hcl Tryz.underlying115 rfl (by kernel_rfl) ?_))
      clear hcl
      go_loopw [21] (fun i wr => ∃ m : Nat, m ≤ 8 ∧ i = .int .i64 m ∧ Row wr 112 gx (vk .u32 (quarts (rounds (begL ks c ns) k) m)) ∧ Below gx w11 wr) (fun i _ => 8 - (intOf i).toNat)
      case atStart => exact ⟨0, by omega, rfl, rx, bx⟩
      case round =>
        clear rx bx
        obtain ⟨m, hm, rfl, rx, bx⟩ := hrel
        by_cases hlm : m < 8
        · have hqi := quarter_index m hlm
          obtain ⟨ha, hb, hc', hd⟩ := pl_lt m hlm
          go_wp2_with (first
            | (with_reducible refine wl_alloc rfl 114 _ (vk .i64 (List.replicate 4 0)) rfl zero4 rfl ?_; intro gp w1 r1 a1 l1 b1)
            | (with_reducible refine wl_store_row rfl 114 (.tmp 10) (.tmp 23) _ 114 _ (vk .i64 (plL m)) rfl rfl rfl r1 (by kernel_rfl) rfl (vk_one' _ _) ?_; intro w2 r2 o2))
          have q1 : w1.heap.size = w2.heap.size := o2.size.symm
          have hgp : gx < gp := by have := bx.size; omega
          have hne : gp ≠ gx := by omega
          have rx2 := (rx.later b1).only o2 (by omega)
          have bx2 := (bx.trans (b1.mono (by have := bx.size; omega))).trans (o2.below (show gx ≤ gp by omega))
          have lq : (quarts (rounds (begL ks c ns) k) m).length = 16 := by rw [quarts_len, rounds_len]; exact hlen.out
          have hw : IsW (quarts (rounds (begL ks c ns) k) m) := quarts_w (rounds_w (begL_w hk' hn' hc) _) _
          have hstep : Hid (quarts (rounds (begL ks c ns) k) (m + 1) = qat (quarts (rounds (begL ks c ns) k) m) (pl m).1 (pl m).2.1 (pl m).2.2.1 (pl m).2.2.2) := rfl
          clear rx bx b1 o2 r1 hqi q1
          generalize quarts (rounds (begL ks c ns) k) m = xs at *
          have Hq := hide lq
          rename_i Q1 K1 hK1
          refine wp_region_vals [24, 31, 33, 35, 37] (S8 gp gx xs (pl m).1 (pl m).2.1 (pl m).2.2.1 (pl m).2.2.2) (J8 gp gx (vk .i64 (plL m)) xs (pl m).1 (pl m).2.1 (pl m).2.2.1 (pl m).2.2.2 w11) (by kernel_rfl) (by kernel_rfl) (by kernel_rfl) (by kernel_rfl) (by kernel_rfl) ⟨r2, rx2, bx2.drew⟩ ?obs ?he
          case obs =>
            have plm : plL m = [((pl m).1 : Int), (pl m).2.1, (pl m).2.2.1, (pl m).2.2.2] := rfl
            rw [plm]
            generalize (pl m).1 = a at *
            generalize (pl m).2.1 = b at *
            generalize (pl m).2.2.1 = c at *
            generalize (pl m).2.2.2 = d at *
            refine ⟨?_, ?_, ?_, ?_, ?_, ?_, ?_, ?_, ?_, ?_, ?_, ?_, ?_, ?_, ?_, ?_, ?_, ?_, ?_, ?_, ?_, ?_, ?_, ?_, ?_, ?_, ?_, ?_, ?_, ?_, ?_, ?_, ?_, ?_, ?_, ?_, ?_, ?_, trivial⟩
            · exact .inl ⟨by kernel_rfl, fun L a1 w1 n h => ⟨_, rfl, run_index0 114 (.tmp 10) (.const (.int .i64 0)) 4 3 gp 0 rfl Tryz.underlying114 Tryz.sizeOf3 (h.var n 10 (by kernel_rfl)) rfl (by decide)⟩⟩
            · exact .inl ⟨by kernel_rfl, fun L a1 w1 n h => ⟨_, rfl, run_loadA 3 (.tmp 25) ⟨gp, 0, none⟩ rfl Tryz.isAgg3 (h.dep n 0 25 (by kernel_rfl) rfl) (h.inv.1.cell rfl)⟩⟩
            · exact .inl ⟨by kernel_rfl, fun L a1 w1 n h => ⟨_, rfl, run_index0 114 (.tmp 10) (.const (.int .i64 1)) 4 3 gp 1 rfl Tryz.underlying114 Tryz.sizeOf3 (h.var n 10 (by kernel_rfl)) rfl (by decide)⟩⟩
            · exact .inl ⟨by kernel_rfl, fun L a1 w1 n h => ⟨_, rfl, run_loadA 3 (.tmp 27) ⟨gp, 1, none⟩ rfl Tryz.isAgg3 (h.dep n 2 27 (by kernel_rfl) rfl) (h.inv.1.cell rfl)⟩⟩
            · exact .inl ⟨by kernel_rfl, fun L a1 w1 n h => ⟨_, rfl, run_index0 114 (.tmp 10) (.const (.int .i64 2)) 4 3 gp 2 rfl Tryz.underlying114 Tryz.sizeOf3 (h.var n 10 (by kernel_rfl)) rfl (by decide)⟩⟩
            · exact .inl ⟨by kernel_rfl, fun L a1 w1 n h => ⟨_, rfl, run_loadA 3 (.tmp 29) ⟨gp, 2, none⟩ rfl Tryz.isAgg3 (h.dep n 4 29 (by kernel_rfl) rfl) (h.inv.1.cell rfl)⟩⟩
            · exact .inl ⟨by kernel_rfl, fun L a1 w1 n h => ⟨_, rfl, run_index0 114 (.tmp 10) (.const (.int .i64 3)) 4 3 gp 3 rfl Tryz.underlying114 Tryz.sizeOf3 (h.var n 10 (by kernel_rfl)) rfl (by decide)⟩⟩
            · exact .inl ⟨by kernel_rfl, fun L a1 w1 n h => ⟨_, rfl, run_loadA 3 (.tmp 31) ⟨gp, 3, none⟩ rfl Tryz.isAgg3 (h.dep n 6 31 (by kernel_rfl) rfl) (h.inv.1.cell rfl)⟩⟩
            · exact .inl ⟨by kernel_rfl, fun L a1 w1 n h => ⟨_, rfl, run_index0 114 (.tmp 10) (.const (.int .i64 0)) 4 3 gp 0 rfl Tryz.underlying114 Tryz.sizeOf3 (h.var n 10 (by kernel_rfl)) rfl (by decide)⟩⟩
            · exact .inl ⟨by kernel_rfl, fun L a1 w1 n h => ⟨_, rfl, run_loadA 3 (.tmp 33) ⟨gp, 0, none⟩ rfl Tryz.isAgg3 (h.dep n 8 33 (by kernel_rfl) rfl) (h.inv.1.cell rfl)⟩⟩
            · exact .inl ⟨by kernel_rfl, fun L a1 w1 n h => ⟨_, rfl, run_index0 112 (.tmp 8) (.tmp 34) 16 97 gx a rfl Tryz.underlying112 Tryz.sizeOf97 (h.var n 8 (by kernel_rfl)) (h.dep n 9 34 (by kernel_rfl) rfl) ha⟩⟩
            · exact .inl ⟨by kernel_rfl, fun L a1 w1 n h => ⟨_, rfl, run_loadA 97 (.tmp 35) ⟨gx, a, none⟩ rfl Tryz.isAgg97 (h.dep n 10 35 (by kernel_rfl) rfl) ((J8.start h.inv (n.later (j := 31) (by kernel_rfl)) (n.later (j := 33) (by kernel_rfl)) (n.later (j := 35) (by kernel_rfl)) (n.later (j := 37) (by kernel_rfl))).cell (vk_get (by omega)))⟩⟩
            · exact .inl ⟨by kernel_rfl, fun L a1 w1 n h => ⟨_, rfl, run_index0 114 (.tmp 10) (.const (.int .i64 1)) 4 3 gp 1 rfl Tryz.underlying114 Tryz.sizeOf3 (h.var n 10 (by kernel_rfl)) rfl (by decide)⟩⟩
            · exact .inl ⟨by kernel_rfl, fun L a1 w1 n h => ⟨_, rfl, run_loadA 3 (.tmp 37) ⟨gp, 1, none⟩ rfl Tryz.isAgg3 (h.dep n 12 37 (by kernel_rfl) rfl) (h.inv.1.cell rfl)⟩⟩
            · exact .inl ⟨by kernel_rfl, fun L a1 w1 n h => ⟨_, rfl, run_index0 112 (.tmp 8) (.tmp 38) 16 97 gx b rfl Tryz.underlying112 Tryz.sizeOf97 (h.var n 8 (by kernel_rfl)) (h.dep n 13 38 (by kernel_rfl) rfl) hb⟩⟩
            · exact .inl ⟨by kernel_rfl, fun L a1 w1 n h => ⟨_, rfl, run_loadA 97 (.tmp 39) ⟨gx, b, none⟩ rfl Tryz.isAgg97 (h.dep n 14 39 (by kernel_rfl) rfl) ((J8.start h.inv (n.later (j := 31) (by kernel_rfl)) (n.later (j := 33) (by kernel_rfl)) (n.later (j := 35) (by kernel_rfl)) (n.later (j := 37) (by kernel_rfl))).cell (vk_get (by omega)))⟩⟩
            · exact .inl ⟨by kernel_rfl, fun L a1 w1 n h => ⟨_, rfl, run_index0 114 (.tmp 10) (.const (.int .i64 2)) 4 3 gp 2 rfl Tryz.underlying114 Tryz.sizeOf3 (h.var n 10 (by kernel_rfl)) rfl (by decide)⟩⟩
            · exact .inl ⟨by kernel_rfl, fun L a1 w1 n h => ⟨_, rfl, run_loadA 3 (.tmp 41) ⟨gp, 2, none⟩ rfl Tryz.isAgg3 (h.dep n 16 41 (by kernel_rfl) rfl) (h.inv.1.cell rfl)⟩⟩
            · exact .inl ⟨by kernel_rfl, fun L a1 w1 n h => ⟨_, rfl, run_index0 112 (.tmp 8) (.tmp 42) 16 97 gx c rfl Tryz.underlying112 Tryz.sizeOf97 (h.var n 8 (by kernel_rfl)) (h.dep n 17 42 (by kernel_rfl) rfl) hc'⟩⟩
            · exact .inl ⟨by kernel_rfl, fun L a1 w1 n h => ⟨_, rfl, run_loadA 97 (.tmp 43) ⟨gx, c, none⟩ rfl Tryz.isAgg97 (h.dep n 18 43 (by kernel_rfl) rfl) ((J8.start h.inv (n.later (j := 31) (by kernel_rfl)) (n.later (j := 33) (by kernel_rfl)) (n.later (j := 35) (by kernel_rfl)) (n.later (j := 37) (by kernel_rfl))).cell (vk_get (by omega)))⟩⟩
            · exact .inl ⟨by kernel_rfl, fun L a1 w1 n h => ⟨_, rfl, run_index0 114 (.tmp 10) (.const (.int .i64 3)) 4 3 gp 3 rfl Tryz.underlying114 Tryz.sizeOf3 (h.var n 10 (by kernel_rfl)) rfl (by decide)⟩⟩
            · exact .inl ⟨by kernel_rfl, fun L a1 w1 n h => ⟨_, rfl, run_loadA 3 (.tmp 45) ⟨gp, 3, none⟩ rfl Tryz.isAgg3 (h.dep n 20 45 (by kernel_rfl) rfl) (h.inv.1.cell rfl)⟩⟩
            · exact .inl ⟨by kernel_rfl, fun L a1 w1 n h => ⟨_, rfl, run_index0 112 (.tmp 8) (.tmp 46) 16 97 gx d rfl Tryz.underlying112 Tryz.sizeOf97 (h.var n 8 (by kernel_rfl)) (h.dep n 21 46 (by kernel_rfl) rfl) hd⟩⟩
            · exact .inl ⟨by kernel_rfl, fun L a1 w1 n h => ⟨_, rfl, run_loadA 97 (.tmp 47) ⟨gx, d, none⟩ rfl Tryz.isAgg97 (h.dep n 22 47 (by kernel_rfl) rfl) ((J8.start h.inv (n.later (j := 31) (by kernel_rfl)) (n.later (j := 33) (by kernel_rfl)) (n.later (j := 35) (by kernel_rfl)) (n.later (j := 37) (by kernel_rfl))).cell (vk_get (by omega)))⟩⟩
            · refine .inr fun L a1 w1 n h K hK => ?_
              refine st_call 55 _ _ #[.int .u32 (xs.getD a 0), .int .u32 (xs.getD b 0), .int .u32 (xs.getD c 0), .int .u32 (xs.getD d 0)] rfl Tryz.call55 ?_ (quarter_any (xs.getD a 0) (xs.getD b 0) (xs.getD c 0) (xs.getD d 0) w1 (hw.getD _) (hw.getD _) (hw.getD _) (hw.getD _)) ?_
              · have e1 : a1.eval (.tmp 36) = _ := h.dep n 11 36 (by kernel_rfl) rfl
                have e2 : a1.eval (.tmp 40) = _ := h.dep n 15 40 (by kernel_rfl) rfl
                have e3 : a1.eval (.tmp 44) = _ := h.dep n 19 44 (by kernel_rfl) rfl
                have e4 : a1.eval (.tmp 48) = _ := h.dep n 23 48 (by kernel_rfl) rfl
                simp only [List.map_toArray, List.map_cons, List.map_nil, e1, e2, e3, e4]
              · rintro e w3 ⟨x, y, z, t, rfl, hq, kx, ky, kz, kt, rfl⟩
                refine ⟨_, rfl, hK _ _ ?_ ?_⟩
                · show _ = qrV _
                  rw [← hq.out]; rfl
                · exact h.inv
            · exact .inl ⟨by kernel_rfl, fun L a1 w1 n h => ⟨_, rfl, run_move (.tmp 49) rfl (h.dep n 24 49 (by kernel_rfl) rfl)⟩⟩
            · exact .inl ⟨by kernel_rfl, fun L a1 w1 n h => ⟨_, rfl, run_extractA (.tmp 24) 0 _ rfl (h.dep n 25 24 (by kernel_rfl) rfl) rfl⟩⟩
            · exact .inl ⟨by kernel_rfl, fun L a1 w1 n h => ⟨_, rfl, run_extractA (.tmp 24) 1 _ rfl (h.dep n 25 24 (by kernel_rfl) rfl) rfl⟩⟩
            · exact .inl ⟨by kernel_rfl, fun L a1 w1 n h => ⟨_, rfl, run_extractA (.tmp 24) 2 _ rfl (h.dep n 25 24 (by kernel_rfl) rfl) rfl⟩⟩
            · exact .inl ⟨by kernel_rfl, fun L a1 w1 n h => ⟨_, rfl, run_extractA (.tmp 24) 3 _ rfl (h.dep n 25 24 (by kernel_rfl) rfl) rfl⟩⟩
            · exact .inl ⟨by kernel_rfl, fun L a1 w1 n h => ⟨_, rfl, run_index0 112 (.tmp 8) (.tmp 26) 16 97 gx a rfl Tryz.underlying112 Tryz.sizeOf97 (h.var n 8 (by kernel_rfl)) (h.dep n 1 26 (by kernel_rfl) rfl) ha⟩⟩
            · refine .inr fun L a1 w1 n h K hK => ?_
              obtain ⟨hr, hb⟩ := J8.at0 h.inv n.not_yet (n.later (j := 33) (by kernel_rfl)) (n.later (j := 35) (by kernel_rfl)) (n.later (j := 37) (by kernel_rfl))
              refine st_store 97 (.tmp 54) (.tmp 50) gx a 112 _ _ rfl (by kernel_rfl) (h.dep n 30 54 (by kernel_rfl) rfl) (h.dep n 26 50 (by kernel_rfl) rfl) hr (by rw [vk_len, upd4_len]; omega) rfl ?_
              intro w3 r3 o3
              refine hK undef w3 trivial ⟨h.inv.1.only o3 hne, ?_, h.inv.2.2.trans (o3.below (Nat.le_refl _))⟩
              rw [vk_set] at r3
              show Row w3 112 gx (vk .u32 (upd4 xs a b c d _ true (L.getD 33 false) (L.getD 35 false) (L.getD 37 false)))
              rw [n.later (j := 33) (by kernel_rfl), n.later (j := 35) (by kernel_rfl), n.later (j := 37) (by kernel_rfl)]
              exact r3
            · exact .inl ⟨by kernel_rfl, fun L a1 w1 n h => ⟨_, rfl, run_index0 112 (.tmp 8) (.tmp 28) 16 97 gx b rfl Tryz.underlying112 Tryz.sizeOf97 (h.var n 8 (by kernel_rfl)) (h.dep n 3 28 (by kernel_rfl) rfl) hb⟩⟩
            · refine .inr fun L a1 w1 n h K hK => ?_
              obtain ⟨hr, hb⟩ := J8.at1 h.inv (n.dep (j := 31) (by kernel_rfl)) n.not_yet (n.later (j := 35) (by kernel_rfl)) (n.later (j := 37) (by kernel_rfl))
              refine st_store 97 (.tmp 55) (.tmp 51) gx b 112 _ _ rfl (by kernel_rfl) (h.dep n 32 55 (by kernel_rfl) rfl) (h.dep n 27 51 (by kernel_rfl) rfl) hr (by rw [vk_len, upd4_len]; omega) rfl ?_
              intro w3 r3 o3
              refine hK undef w3 trivial ⟨h.inv.1.only o3 hne, ?_, h.inv.2.2.trans (o3.below (Nat.le_refl _))⟩
              rw [vk_set] at r3
              show Row w3 112 gx (vk .u32 (upd4 xs a b c d _ (L.getD 31 false) true (L.getD 35 false) (L.getD 37 false)))
              rw [n.dep (j := 31) (by kernel_rfl), n.later (j := 35) (by kernel_rfl), n.later (j := 37) (by kernel_rfl)]
              exact r3
            · exact .inl ⟨by kernel_rfl, fun L a1 w1 n h => ⟨_, rfl, run_index0 112 (.tmp 8) (.tmp 30) 16 97 gx c rfl Tryz.underlying112 Tryz.sizeOf97 (h.var n 8 (by kernel_rfl)) (h.dep n 5 30 (by kernel_rfl) rfl) hc'⟩⟩
            · refine .inr fun L a1 w1 n h K hK => ?_
              obtain ⟨hr, hb⟩ := J8.at2 h.inv (n.dep (j := 31) (by kernel_rfl)) (n.dep (j := 33) (by kernel_rfl)) n.not_yet (n.later (j := 37) (by kernel_rfl))
              refine st_store 97 (.tmp 56) (.tmp 52) gx c 112 _ _ rfl (by kernel_rfl) (h.dep n 34 56 (by kernel_rfl) rfl) (h.dep n 28 52 (by kernel_rfl) rfl) hr (by rw [vk_len, upd4_len]; omega) rfl ?_
              intro w3 r3 o3
              refine hK undef w3 trivial ⟨h.inv.1.only o3 hne, ?_, h.inv.2.2.trans (o3.below (Nat.le_refl _))⟩
              rw [vk_set] at r3
              show Row w3 112 gx (vk .u32 (upd4 xs a b c d _ (L.getD 31 false) (L.getD 33 false) true (L.getD 37 false)))
              rw [n.dep (j := 31) (by kernel_rfl), n.dep (j := 33) (by kernel_rfl), n.later (j := 37) (by kernel_rfl)]
              exact r3
            · exact .inl ⟨by kernel_rfl, fun L a1 w1 n h => ⟨_, rfl, run_index0 112 (.tmp 8) (.tmp 32) 16 97 gx d rfl Tryz.underlying112 Tryz.sizeOf97 (h.var n 8 (by kernel_rfl)) (h.dep n 7 32 (by kernel_rfl) rfl) hd⟩⟩
            · refine .inr fun L a1 w1 n h K hK => ?_
              obtain ⟨hr, hb⟩ := J8.at3 h.inv (n.dep (j := 31) (by kernel_rfl)) (n.dep (j := 33) (by kernel_rfl)) (n.dep (j := 35) (by kernel_rfl)) n.not_yet
              refine st_store 97 (.tmp 57) (.tmp 53) gx d 112 _ _ rfl (by kernel_rfl) (h.dep n 36 57 (by kernel_rfl) rfl) (h.dep n 29 53 (by kernel_rfl) rfl) hr (by rw [vk_len, upd4_len]; omega) rfl ?_
              intro w3 r3 o3
              refine hK undef w3 trivial ⟨h.inv.1.only o3 hne, ?_, h.inv.2.2.trans (o3.below (Nat.le_refl _))⟩
              rw [vk_set] at r3
              show Row w3 112 gx (vk .u32 (upd4 xs a b c d _ (L.getD 31 false) (L.getD 33 false) (L.getD 35 false) true))
              rw [n.dep (j := 31) (by kernel_rfl), n.dep (j := 33) (by kernel_rfl), n.dep (j := 35) (by kernel_rfl)]
              exact r3
          case he =>
            intro V w3 hV hJ
            have hr3 : Row w3 112 gx (vk .u32 (quarts (rounds (begL ks c ns) k) (m + 1))) := by rw [hstep.out]; exact hJ.2.1
            have hb3 : Below gx w11 w3 := hJ.2.2
            clear hV hJ
            simp only [putOps, List.setIfInBounds_toArray, List.set_cons_succ, List.set_cons_zero]
            refine hK1 _ _ ?_
            go_wp2
            go_roundw
            case rel => exact ⟨m + 1, by omega, by go_num, hr3, hb3⟩
            case measure => simp [intOf]; omega
        · go_wp2_with fail
          have h8 : m = 8 := by omega
          rw [h8] at rx
          clear hlm hm h8
          have rx' : Row wr 112 gx (vk .u32 (rounds (begL ks c ns) (k + 1))) := rx
          clear rx
          go_roundw
          case rel => exact ⟨k + 1, by omega, by go_num, rx', bx⟩
          case measure => simp [intOf]; omega
    · go_wp2_with (first
        | (with_reducible refine wl_alloc rfl 98 _ (bv (List.replicate 64 0)) rfl zero64 rfl ?_; intro gr w12 r12 a12 l12 b12))
      have h10 : k = 10 := by omega
      rw [h10] at rx
      generalize Value.int .i64 (k : Int) = s18
      generalize Value.bool (decide ((k : Int) < 10)) = s19
      clear hlt hk h10
      have hgr : gx < gr := by have := bx.size; omega
      have rx3 := rx.later b12
      have rs3 := (rs.below bx (by omega)).later b12
      have r63 := (r6.below bx (by omega)).later b12
      have B12 : Below gx w11 w12 := bx.trans (b12.mono (by have := bx.size; omega))
      clear rx rs r6 bx b12
      go_loopw [60] (fun i wr => ∃ k : Nat, k ≤ 16 ∧ i = .int .i64 k ∧ Row wr 98 gr (bv (blockP ks c ns k ++ List.replicate (64 - 4 * k) 0)) ∧ Below gr w12 wr) (fun i _ => 16 - (intOf i).toNat)
      case atStart => exact ⟨0, by omega, rfl, r12, Below.refl _ _⟩
      case round =>
        clear r12
        obtain ⟨k, hk, rfl, rr, br⟩ := hrel
        have rx4 := rx3.below br hgr
        have rs4 := rs3.below br (by omega)
        by_cases hlt : k < 16
        · go_wp2_with fail
          have hX : w32 ((rounds (begL ks c ns) 10).getD k 0) := (rounds_w (begL_w hk' hn' hc) _).getD k
          have hY : w32 ((begL ks c ns).getD k 0) := (begL_w hk' hn' hc).getD k
          have hN : Hid (blockN ks c ns k = ((rounds (begL ks c ns) 10).getD k 0 + (begL ks c ns).getD k 0) % 4294967296) := rfl
          have lX : k < (rounds (begL ks c ns) 10).length := by rw [rounds_len, hlen.out]; omega
          have lY : k < (begL ks c ns).length := by rw [hlen.out]; omega
          have cX := hide (vk_get (kd := .u32) lX)
          have cY := hide (vk_get (kd := .u32) lY)
          have hfit := fill4 (blockP ks c ns k) (List.replicate (64 - 4 * k) 0) (lowB (blockN ks c ns k) 4) (4 * k) (blockP_len _ _ _ _) (lowB_length _ _)
          rw [← blockP_succ, List.drop_replicate, show 64 - 4 * k - 4 = 64 - 4 * (k + 1) from by omega] at hfit
          have Hfit := hide hfit
          have lP : (blockP ks c ns k ++ List.replicate (64 - 4 * k) 0).length = 64 := by rw [List.length_append, blockP_len, List.length_replicate]; omega
          have HlP := hide lP
          clear hfit lP
          generalize (rounds (begL ks c ns) 10).getD k 0 = X at *
          generalize (begL ks c ns).getD k 0 = Y at *
          rename_i Q1 K1 hK1
          refine wp_region_vals [10, 11] (S15 gr gx gs k X Y) (J15 gr (bv (blockP ks c ns k ++ List.replicate (64 - 4 * k) 0)) (bv (blockP ks c ns (k + 1) ++ List.replicate (64 - 4 * (k + 1)) 0)) (lowB (blockN ks c ns k) 4) w12) (by kernel_rfl) (by kernel_rfl) (by kernel_rfl) (by kernel_rfl) (by kernel_rfl) ⟨rr, br.drew, fun h => by cases h⟩ ?obs ?he
          case obs =>
            refine ⟨?_, ?_, ?_, ?_, ?_, ?_, ?_, ?_, ?_, ?_, ?_, ?_, trivial⟩
            · exact .inl ⟨by kernel_rfl, fun L a1 w1 n h => ⟨_, rfl, run_move (.tmp 12) rfl (h.var n 12 (by kernel_rfl))⟩⟩
            · refine .inl ⟨by kernel_rfl, fun L a1 w1 n h => ⟨.int .i64 ((4 * k : Nat) : Int), rfl, ?_⟩⟩
              have e : a1.eval (.tmp 63) = _ := h.dep n 0 63 (by kernel_rfl) rfl
              unfold execOp
              simp only [e]
              go_simp
              rw [IntWalk.i64_in _ (by omega)]
            · exact .inl ⟨by kernel_rfl, fun L a1 w1 n h => ⟨_, rfl, run_sliceLo 98 (.tmp 11) (.tmp 64) 64 5 gr (4 * k) rfl Tryz.underlying98 Tryz.sizeOf5 (h.var n 11 (by kernel_rfl)) (h.dep n 1 64 (by kernel_rfl) rfl) (by omega)⟩⟩
            · exact .inl ⟨by kernel_rfl, fun L a1 w1 n h => ⟨_, rfl, run_move (.tmp 12) rfl (h.var n 12 (by kernel_rfl))⟩⟩
            · exact .inl ⟨by kernel_rfl, fun L a1 w1 n h => ⟨_, rfl, run_index0 112 (.tmp 8) (.tmp 66) 16 97 gx k rfl Tryz.underlying112 Tryz.sizeOf97 (h.var n 8 (by kernel_rfl)) (h.dep n 3 66 (by kernel_rfl) rfl) hlt⟩⟩
            · exact .inl ⟨by kernel_rfl, fun L a1 w1 n h => ⟨_, rfl, run_loadA 97 (.tmp 67) ⟨gx, k, none⟩ rfl Tryz.isAgg97 (h.dep n 4 67 (by kernel_rfl) rfl) ((rx3.below h.inv.2.1 hgr).cell cX.out)⟩⟩
            · exact .inl ⟨by kernel_rfl, fun L a1 w1 n h => ⟨_, rfl, run_move (.tmp 12) rfl (h.var n 12 (by kernel_rfl))⟩⟩
            · exact .inl ⟨by kernel_rfl, fun L a1 w1 n h => ⟨_, rfl, run_index0 112 (.tmp 7) (.tmp 69) 16 97 gs k rfl Tryz.underlying112 Tryz.sizeOf97 (h.var n 7 (by kernel_rfl)) (h.dep n 6 69 (by kernel_rfl) rfl) hlt⟩⟩
            · exact .inl ⟨by kernel_rfl, fun L a1 w1 n h => ⟨_, rfl, run_loadA 97 (.tmp 70) ⟨gs, k, none⟩ rfl Tryz.isAgg97 (h.dep n 7 70 (by kernel_rfl) rfl) ((rs3.below h.inv.2.1 (by omega)).cell cY.out)⟩⟩
            · refine .inl ⟨by kernel_rfl, fun L a1 w1 n h => ⟨.int .u32 ((X + Y) % 4294967296), rfl, ?_⟩⟩
              have e : a1.eval (.tmp 68) = _ := h.dep n 5 68 (by kernel_rfl) rfl
              have e' : a1.eval (.tmp 71) = _ := h.dep n 8 71 (by kernel_rfl) rfl
              unfold execOp
              simp only [e, e']
              go_simp
              rw [IntKind.wrap_u32']
            · refine .inr fun L a1 w1 n h K hK => ?_
              have e : a1.eval (.tmp 72) = _ := h.dep n 9 72 (by kernel_rfl) rfl
              have no : L.getD 11 false = false := n.later (by kernel_rfl)
              have hl := putLe32_any none 0 0 [] ((X + Y) % 4294967296) w1 Bs.nil_ (by omega) (by omega) (by omega)
              refine st_call 56 _ _ #[.slice none 0 0, .int .u32 ((X + Y) % 4294967296)] rfl Tryz.call56 ?_ hl ?_
              · simp only [List.map_toArray, List.map_cons, List.map_nil, e]; rfl
              · rintro e2 w3 ⟨A, n2, c2, rfl, hbs, hn2, hc2, hb2⟩
                have h4 : n2 = 4 := by rw [← hbs.1]; simp [lowB_length]
                subst h4
                refine ⟨_, rfl, hK _ _ ⟨A, c2, rfl⟩ ⟨?_, h.inv.2.1.trans (hb2.mono ?_), fun _ _ => ⟨A, c2, rfl, ?_⟩⟩⟩
                · show Row w3 98 gr (bif L.getD 11 false then _ else _)
                  rw [no]
                  exact (J15.old_ h.inv no).later hb2
                · have := (J15.old_ h.inv no).lt; omega
                · rw [hN.out]; exact hbs
            · refine .inr fun L a1 w1 n h K hK => ?_
              have yes : L.getD 10 false = true := n.dep (by kernel_rfl)
              obtain ⟨A, c2, hA, hbs⟩ := h.inv.2.2 yes n.not_yet
              have hold := J15.old_ h.inv n.not_yet
              refine st_copy (.tmp 65) (.tmp 73) 25 25 rfl 5 Tryz.underlying25 (by kernel_rfl) gr (4 * k) (64 - 4 * k) (64 - 4 * k) 4 c2 98 _ A (h.dep n 2 65 (by kernel_rfl) rfl) hA _ (lowB (blockN ks c ns k) 4) hold hbs (by omega) (by omega) (by rw [bv_len, HlP.out]; omega) ?_
              intro w3 r3 o3
              rw [Hfit.out] at r3
              refine hK _ w3 trivial ⟨r3, h.inv.2.1.trans (o3.below (Nat.le_refl _)), fun _ h => by cases h⟩
          case he =>
            intro V w3 hV hJ
            have hr3 : Row w3 98 gr (bv (blockP ks c ns (k + 1) ++ List.replicate (64 - 4 * (k + 1)) 0)) := hJ.1
            have hb3 : Below gr w12 w3 := hJ.2.1
            clear hV hJ
            simp only [putOps, List.setIfInBounds_toArray, List.set_cons_succ, List.set_cons_zero]
            refine hK1 _ _ ?_
            go_wp2
            go_roundw
            case rel => exact ⟨k + 1, by omega, by go_num, hr3, hb3⟩
            case measure => simp [intOf]; omega
        · have rr16 : Hid (k = 16) := (by omega : k = 16)
          have r6' := (r63.below br (by omega))
          have hz := size_b (P := Tryz.prog) (T := 98) (n := 64) (by kernel_rfl) (blockL_len ks c ns)
          have Hz := hide hz
          have l64 := hide (show (bv (List.replicate 64 0)).length = (bv (blockL ks c ns)).length by rw [bv_len, bv_len, blockL_len, List.length_replicate])
          have rL : Row wr 98 gr (bv (blockL ks c ns)) := by rw [rr16.out] at rr; simpa [blockL] using rr
          clear hz rr
          go_wp2_with (first
            | (with_reducible refine wl_load_row rfl 98 (.tmp 11) gr 98 (bv (blockL ks c ns)) _ rfl rfl rL Tryz.underlying98 rfl Hz.out ?_)
            | (with_reducible refine wl_store_row rfl 98 (.tmp 6) (.tmp 76) g6 98 _ (bv (blockL ks c ns)) rfl rfl rfl r6' Hz.out l64.out (bv_one' _) ?_; intro w13 r13 o13))
          refine bodyPost_ret (v := .agg (bv (blockL ks c ns)).toArray) ?_ rfl ⟨rfl, ?_⟩
          · exact results_cell_row Tryz.results42 _ _ g6 98 _ (0, 0) _ rfl r13 Tryz.underlying98 rfl (by simpa using Hz.out)
          · exact (B11.trans (B12.mono (by omega))).trans ((br.mono (by omega)).trans (o13.below (by omega)))
end Go.Proofs.YtooooncmjhcdbaaGreatDoor

/-
  The bytes of a stream, as lists: plain mathematics. Own work.
-/
namespace Go.Proofs.YtooooncmjhcdbaaGreatDoor
open Go.RowKit
/-- The byte of the stream with the key ks and the nonce ns that stands at place p, from counter 0 on. -/
def kbyte (ks ns : List Int) (p : Nat) : Int := (blockL ks ((p / 64 : Nat) : Int) ns).getD (p % 64) 0
/-- The n bytes from place p on. -/
def ksl (ks ns : List Int) (p n : Nat) : List Int := (List.range n).map fun i => kbyte ks ns (p + i)
theorem ksl_len (ks ns : List Int) (p n : Nat) : (ksl ks ns p n).length = n := by simp [ksl]
theorem ksl_get {ks ns : List Int} {p n i : Nat} (h : i < n) : (ksl ks ns p n).getD i 0 = kbyte ks ns (p + i) := by
  simp [ksl, List.getD, h]
theorem blockL_by (ks : List Int) (c : Int) (ns : List Int) : IsBy (blockL ks c ns) := blockP_by ks c ns 16
theorem by_getD (b : List Int) (h : IsBy b) (i : Nat) : 0 ≤ b.getD i 0 ∧ b.getD i 0 < 256 := getD_byte h i
theorem kbyte_by (ks ns : List Int) (p : Nat) : 0 ≤ kbyte ks ns p ∧ kbyte ks ns p < 256 := by
  have h := by_getD (blockL ks ((p / 64 : Nat) : Int) ns) (blockL_by _ _ _) (p % 64)
  rw [kbyte]
  exact h
theorem ksl_add (ks ns : List Int) (p n m : Nat) : ksl ks ns p (n + m) = ksl ks ns p n ++ ksl ks ns (p + n) m := by
  simp only [ksl, List.range_add, List.map_append, List.map_map]
  refine congrArg (fun l => List.map (fun i => kbyte ks ns (p + i)) (List.range n) ++ l) ?_
  refine List.map_congr_left fun i _ => ?_
  simp only [Function.comp_apply, Nat.add_assoc]
/-- Some bytes of one block. -/
theorem ksl_block {ks ns : List Int} {p n : Nat} (h : p % 64 + n ≤ 64) : ksl ks ns p n = ((blockL ks ((p / 64 : Nat) : Int) ns).drop (p % 64)).take n := by
  apply List.ext_getElem
  · rw [ksl_len, List.length_take, List.length_drop, blockL_len]; omega
  · intro i h1 h2
    rw [ksl_len] at h1
    have e1 : (p + i) / 64 = p / 64 := by omega
    have e2 : (p + i) % 64 = p % 64 + i := by omega
    have hl : p % 64 + i < (blockL ks ((p / 64 : Nat) : Int) ns).length := by rw [blockL_len]; omega
    simp only [ksl, List.getElem_map, List.getElem_range, kbyte, e1, e2, List.getElem_take, List.getElem_drop, List.getD, List.getElem?_eq_getElem hl, Option.getD_some]
/-- xs, xored with the bytes of the stream from place p on. -/
def outL (ks ns : List Int) (p : Nat) (xs : List Int) : List Int := (List.range xs.length).map fun i => bits .xor .u8 (xs.getD i 0) (kbyte ks ns (p + i))
theorem outL_len (ks ns : List Int) (p : Nat) (xs : List Int) : (outL ks ns p xs).length = xs.length := by simp [outL]
/-- Its first k bytes. -/
def outP (ks ns : List Int) (p : Nat) (xs : List Int) (k : Nat) : List Int := (List.range k).map fun i => bits .xor .u8 (xs.getD i 0) (kbyte ks ns (p + i))
theorem outP_len (ks ns : List Int) (p : Nat) (xs : List Int) (k : Nat) : (outP ks ns p xs k).length = k := by simp [outP]
theorem outP_succ (ks ns : List Int) (p : Nat) (xs : List Int) (k : Nat) : outP ks ns p xs (k + 1) = outP ks ns p xs k ++ [bits .xor .u8 (xs.getD k 0) (kbyte ks ns (p + k))] := by
  simp [outP, List.range_succ]
theorem outP_all (ks ns : List Int) (p : Nat) (xs : List Int) : outP ks ns p xs xs.length = outL ks ns p xs := rfl

/-- How far a stream with l bytes left has come. -/
def pos (l : Nat) : Nat := 274877906944 - l
theorem pos_div {l : Nat} (h0 : 0 < l) (h : l ≤ 274877906944) : ((pos l / 64 : Nat) : Int) = 4294967296 - ((l : Int) + 63) / 64 := by unfold pos; omega
theorem pos_mod {l : Nat} (h : l ≤ 274877906944) : pos l % 64 = (64 - l % 64) % 64 := by unfold pos; omega
theorem pos_sub {l n : Nat} (h : n ≤ l) (hl : l ≤ 274877906944) : pos (l - n) = pos l + n := by unfold pos; omega
end Go.Proofs.YtooooncmjhcdbaaGreatDoor

/-
  A stream: a contract each. Own work.
-/
namespace Go.Proofs.YtooooncmjhcdbaaGreatDoor
open Go.RowKit
/-- A stream's cells. -/
def strm (ks ns : List Int) (l : Int) : List Value := bv ks ++ (bv ns ++ [.int .u64 l])
theorem strm_len {ks ns : List Int} {l : Int} (hk : ks.length = 32) (hn : ns.length = 12) : (strm ks ns l).length = 45 := by simp [strm, bv_len, hk, hn]
theorem strm_left {ks ns : List Int} {l : Int} (hk : ks.length = 32) (hn : ns.length = 12) : (strm ks ns l)[44]? = some (.int .u64 l) := by
  unfold strm
  rw [List.getElem?_append_right (by rw [bv_len]; omega), bv_len, hk, List.getElem?_append_right (by rw [bv_len]; omega), bv_len, hn]
  rfl
theorem strm_set {ks ns : List Int} {l m : Int} (hk : ks.length = 32) (hn : ns.length = 12) : (strm ks ns l).set 44 (.int .u64 m) = strm ks ns m := by
  unfold strm
  rw [List.set_append_right _ _ (by rw [bv_len]; omega), bv_len, hk, List.set_append_right _ _ (by rw [bv_len]; omega), bv_len, hn]
  rfl
theorem built_strm {ks ns : List Int} {l : Int} (hk : ks.length = 32) (hn : ns.length = 12) : Tryz.prog.built 132 [(0, .agg (bv ks).toArray), (1, .agg (bv ns).toArray), (2, .int .u64 l)] = some (strm ks ns l).toArray := by
  rw [built_struct (P := Tryz.prog) (t := 132) (z := .agg (strm (List.replicate 32 0) (List.replicate 12 0) 0).toArray) (zs := [] ++ (bv (List.replicate 32 0) ++ (bv (List.replicate 12 0) ++ [Value.int .u64 0]))) (places := [(0, 32), (32, 12), (44, 1)]) (by kernel_rfl) rfl Tryz.underlying132 (by kernel_rfl)]
  rw [fill_part (V := bv ks) rfl rfl (by rw [bv_len, hk]) rfl (by simp [bv_len]), List.nil_append, fill_part (V := bv ns) rfl rfl (by rw [bv_len, hn]) (by rw [bv_len, hk]) (by simp [bv_len])]
  rw [show bv ks ++ (bv ns ++ [Value.int .u64 0]) = (bv ks ++ bv ns) ++ ([Value.int .u64 0] ++ []) by simp, fill_part (M := [Value.int .u64 0]) (C := []) (V := [.int .u64 l]) rfl rfl rfl (by simp [bv_len, hk, hn]) rfl]
  unfold Instr.fill strm
  simp
set_option maxRecDepth 100000 in
set_option maxHeartbeats 1000000 in
theorem new_any (ks ns : List Int) (c : Int) (w : World) (hk : ks.length = 32) (hn : ns.length = 12) (hc : w32 c) :
    Calls Tryz.prog 52 #[.agg (bv ks).toArray, .int .u32 c, .agg (bv ns).toArray] w fun e w' =>
      ∃ g, e = .returned (.pointer (some ⟨g, 0, none⟩)) ∧ w.heap.size ≤ g ∧ Row w' 132 g (strm ks ns ((4294967296 - c) * 64)) ∧ Below w.heap.size w w' := by
  obtain ⟨c0, c1⟩ := hc
  have zk := hide (size_b (P := Tryz.prog) (T := 42) (by kernel_rfl) hk)
  have zn := hide (size_b (P := Tryz.prog) (T := 45) (by kernel_rfl) hn)
  have hb := hide (built_strm (ks := ks) (ns := ns) (l := (4294967296 - c) * 64) hk hn)
  clear hk hn
  go_enter Tryz.func52, Tryz.ntmps52
  go_wp2_with (first
    | (with_reducible refine wl_box rfl 42 (.tmp 0) _ (bv ks) rfl rfl rfl ?_; intro g3 w3 r3 a3 l3 b3)
    | (with_reducible refine wl_box rfl 45 (.tmp 2) _ (bv ns) rfl rfl rfl ?_; intro g5 w5 r5 a5 l5 b5)
    | (with_reducible refine wl_load_row rfl 42 (.tmp 3) g3 42 (bv ks) _ rfl rfl (r3.later b5) Tryz.underlying42 rfl zk.out ?_)
    | (with_reducible refine wl_load_row rfl 45 (.tmp 5) g5 45 (bv ns) _ rfl rfl r5 Tryz.underlying45 rfl zn.out ?_)
    | ((with_reducible refine wl_build rfl 132 _ rfl _ ?hv _ hb.out ?hk); case hv => rfl)
    | (with_reducible refine wl_box rfl 132 (.tmp 13) _ (strm ks ns ((4294967296 - c) * 64)) rfl rfl rfl ?_; intro g9 w9 r9 a9 l9 b9))
  go_ret
  exact ⟨g9, rfl, by have := b3.size; have := b5.size; omega, r9, (b3.trans (b5.mono b3.size)).trans (b9.mono (Nat.le_trans b3.size b5.size))⟩
end Go.Proofs.YtooooncmjhcdbaaGreatDoor

/-
  A stream, next part: what is left, the next bytes. Own work.
-/
namespace Go.Proofs.YtooooncmjhcdbaaGreatDoor
open Go.RowKit
theorem sleft_any (ks ns : List Int) (l : Int) (g : Nat) (w : World) (hk : ks.length = 32) (hn : ns.length = 12) (hr : Row w 132 g (strm ks ns l)) :
    Calls Tryz.prog 66 #[.pointer (some ⟨g, 0, none⟩)] w fun e w' => e = .returned (.int .u64 l) ∧ w = w' := by
  have hc := hr.cell (strm_left hk hn)
  clear hk hn
  go_enter Tryz.func66, Tryz.ntmps66
  go_wp2
  go_ret
  exact ⟨rfl, rfl⟩
theorem left_nil (w : World) : Calls Tryz.prog 66 #[.pointer none] w fun e w' => e = .returned (.int .u64 0) ∧ w = w' := by
  go_enter Tryz.func66, Tryz.ntmps66
  go_wp2
  go_ret
  exact ⟨rfl, rfl⟩
/-- Bytes in the middle of a row of bytes. -/
theorem bs_mid {w : World} {t g : Nat} {xs ys : List Int} {q n : Nat} (h : Row w t g (bv xs)) (hy : ys = (xs.drop q).take n) (hl : q + n ≤ xs.length) : Bs w w.heap.size (some ⟨g, q, none⟩) n ys := by
  refine ⟨by rw [hy, List.length_take, List.length_drop]; omega, fun _ => ⟨g, q, rfl, h.lt, fun j hj => ?_⟩⟩
  rw [hy]
  have e : ((xs.drop q).take n).getD j 0 = xs.getD (q + j) 0 := by simp [List.getD, List.getElem?_take, hj, List.getElem?_drop]
  rw [e]
  exact h.cell (vk_get (kd := .u8) (by omega))
/-- What 'next' hands back. -/
def RetNext (ks ns : List Int) (l k g : Nat) (w : World) (e : Ending) (w' : World) : Prop :=
  ∃ b o n c, e = .returned (.slice (some ⟨b, o, none⟩) n c) ∧ w.heap.size ≤ b ∧ n = min k (64 - pos l % 64) ∧ Bs w' w'.heap.size (some ⟨b, o, none⟩) n (ksl ks ns (pos l) n) ∧ Row w' 132 g (strm ks ns ((l - n : Nat) : Int)) ∧ But g w w'
def S3 (g : Nat) (ks ns : List Int) (c : Int) (n : Nat) (v : Value) : Prop :=
  match n with
  | 0 | 1 | 5 | 6 | 2 => v = .pointer (some ⟨g, 0, none⟩) | 7 => v = .pointer (some ⟨g, 32, none⟩)
  | 3 => v = .agg (bv ks).toArray | 8 => v = .agg (bv ns).toArray | 4 => v = .int .u32 c | 9 => v = .agg (bv (blockL ks c ns)).toArray | _ => True
def J3 (w0 : World) (blk : List Value) (bs : List Bool) (vs : List Value) (w : World) : Prop :=
  Below w0.heap.size w0 w ∧ (bs.getD 1 false = true → ∃ g7, vs.getD 1 undef = .pointer (some ⟨g7, 0, none⟩) ∧ w0.heap.size ≤ g7 ∧ Row w 98 g7 (bif bs.getD 2 false then blk else bv (List.replicate 64 0)))
set_option maxRecDepth 100000 in
set_option maxHeartbeats 2000000 in
theorem next_any (ks ns : List Int) (l k g : Nat) (w : World) (hT : Tabs w) (hk : ks.length = 32) (hn : ns.length = 12) (hk' : IsBy ks) (hn' : IsBy ns) (hl0 : 0 < l) (hl : l ≤ 274877906944) (k0 : 0 < k) (hkl : k ≤ l)
    (hr : Row w 132 g (strm ks ns l)) (h2 : max 2 1 + 1 ≤ g) :
    Calls Tryz.prog 67 #[.pointer (some ⟨g, 0, none⟩), .int .i64 k] w (RetNext ks ns l k g w) := by
  have hc := hr.cell (strm_left hk hn)
  have zk := hide (size_b (P := Tryz.prog) (T := 42) (by kernel_rfl) hk)
  have zn := hide (size_b (P := Tryz.prog) (T := 45) (by kernel_rfl) hn)
  have Hk := hide hk
  have Hn := hide hn
  have d1 : (0 : Int) ≤ 4294967296 - ((l : Int) + 64 - 1) / 64 := by omega
  have d2 : 4294967296 - ((l : Int) + 64 - 1) / 64 < 4294967296 := by omega
  have e5 := hide (show 4294967296 - ((l : Int) + 64 - 1) / 64 = ((pos l / 64 : Nat) : Int) by unfold pos; omega)
  have e6 := hide (show (64 - (l : Int) % 64) % 64 = ((pos l % 64 : Nat) : Int) by unfold pos; omega)
  clear hk hn
  go_enter Tryz.func67, Tryz.ntmps67
  go_wp2_with fail
  rw [e5.out, e6.out]
  have zB := hide (size_b (P := Tryz.prog) (T := 98) (n := 64) (by kernel_rfl) (blockL_len ks ((pos l / 64 : Nat) : Int) ns))
  have z6 := hide (show (bv (List.replicate 64 0)).length = (bv (blockL ks ((pos l / 64 : Nat) : Int) ns)).length by rw [bv_len, bv_len, blockL_len, List.length_replicate])
  rename_i K1 hK1
  refine wp_region_vals [9, 10, 11] (S3 g ks ns ((pos l / 64 : Nat) : Int)) (J3 w (bv (blockL ks ((pos l / 64 : Nat) : Int) ns))) (by kernel_rfl) (by kernel_rfl) (by kernel_rfl) (by kernel_rfl) (by kernel_rfl) ⟨(Below.refl _ _).drew, fun h => by cases h⟩ ?obs ?he
  case obs =>
    refine ⟨?_, ?_, ?_, ?_, ?_, ?_, ?_, ?_, ?_, ?_, ?_, ?_, trivial⟩
    · exact .inl ⟨by kernel_rfl, fun L a1 w1 n h => ⟨_, rfl, run_move (.tmp 0) rfl (h.var n 0 (by kernel_rfl))⟩⟩
    · refine .inl ⟨by kernel_rfl, fun L a1 w1 n h => ⟨.pointer (some ⟨g, 0, none⟩), rfl, ?_⟩⟩
      have e0 : a1.eval (.tmp 25) = _ := h.dep n 0 25 (by kernel_rfl) rfl
      unfold execOp
      simp only [e0]
      go_simp
    · refine .inl ⟨by kernel_rfl, fun L a1 w1 n h => ⟨.pointer (some ⟨g, 0, none⟩), rfl, ?_⟩⟩
      have e0 : a1.eval (.tmp 26) = _ := h.dep n 1 26 (by kernel_rfl) rfl
      unfold execOp
      simp only [e0]
      go_simp
    · refine .inl ⟨by kernel_rfl, fun L a1 w1 n h => ⟨_, rfl, ?_⟩⟩
      exact run_loadP 42 (.tmp 27) g 0 132 [] (bv ks) _ _ rfl (h.dep n 2 27 (by kernel_rfl) rfl) (hr.later h.inv.1) rfl Tryz.underlying42 rfl zk.out
    · exact .inl ⟨by kernel_rfl, fun L a1 w1 n h => ⟨_, rfl, run_move (.tmp 5) rfl (h.var n 5 (by kernel_rfl))⟩⟩
    · exact .inl ⟨by kernel_rfl, fun L a1 w1 n h => ⟨_, rfl, run_move (.tmp 0) rfl (h.var n 0 (by kernel_rfl))⟩⟩
    · refine .inl ⟨by kernel_rfl, fun L a1 w1 n h => ⟨.pointer (some ⟨g, 0, none⟩), rfl, ?_⟩⟩
      have e0 : a1.eval (.tmp 30) = _ := h.dep n 5 30 (by kernel_rfl) rfl
      unfold execOp
      simp only [e0]
      go_simp
    · refine .inl ⟨by kernel_rfl, fun L a1 w1 n h => ⟨.pointer (some ⟨g, 32, none⟩), rfl, ?_⟩⟩
      have e0 : a1.eval (.tmp 31) = _ := h.dep n 6 31 (by kernel_rfl) rfl
      unfold execOp
      simp only [e0]
      go_simp
    · refine .inl ⟨by kernel_rfl, fun L a1 w1 n h => ⟨_, rfl, ?_⟩⟩
      exact run_loadP 45 (.tmp 32) g 32 132 (bv ks) (bv ns) _ _ rfl (h.dep n 7 32 (by kernel_rfl) rfl) (hr.later h.inv.1) (by rw [bv_len]; exact Hk.out) Tryz.underlying45 rfl zn.out
    · refine .inr fun L a1 w1 n h K hK => ?_
      have e0 : a1.eval (.tmp 28) = _ := h.dep n 3 28 (by kernel_rfl) rfl
      have e1 : a1.eval (.tmp 29) = _ := h.dep n 4 29 (by kernel_rfl) rfl
      have e2 : a1.eval (.tmp 33) = _ := h.dep n 8 33 (by kernel_rfl) rfl
      refine st_call 42 _ _ #[.agg (bv ks).toArray, .int .u32 ((pos l / 64 : Nat) : Int), .agg (bv ns).toArray] rfl Tryz.call42 ?_ (block_any ks ns _ w1 (hT.later h.inv.1) Hk.out Hn.out hk' hn' ⟨by omega, by unfold pos; omega⟩) ?_
      · simp only [List.map_toArray, List.map_cons, List.map_nil, e0, e1, e2]
      · rintro e2 w3 ⟨rfl, hb⟩
        refine ⟨_, rfl, hK _ _ rfl ⟨h.inv.1.trans (hb.mono h.inv.1.size), fun h10 => ?_⟩⟩
        obtain ⟨g7, p7, n7, r7⟩ := h.inv.2 h10
        exact ⟨g7, p7, n7, r7.later hb⟩
    · refine .inr fun L a1 w1 n h K hK => ?_
      have no : L.getD 11 false = false := n.later (by kernel_rfl)
      refine st_alloc 98 _ (bv (List.replicate 64 0)) rfl zero64 rfl ?_
      intro g7 w3 r7 a7 l7 b7
      refine hK _ _ trivial ⟨h.inv.1.trans (b7.mono h.inv.1.size), fun _ => ⟨g7, rfl, by have := h.inv.1.size; omega, ?_⟩⟩
      show Row w3 98 g7 (bif L.getD 11 false then _ else _)
      rw [no]
      exact r7
    · refine .inr fun L a1 w1 n h K hK => ?_
      have yes : L.getD 10 false = true := n.dep (by kernel_rfl)
      have no : L.getD 11 false = false := n.not_yet
      obtain ⟨g7, p7, n7, r7⟩ := h.inv.2 yes
      have r7' : Row w1 98 g7 (bif L.getD 11 false then bv (blockL ks ((pos l / 64 : Nat) : Int) ns) else bv (List.replicate 64 0)) := r7
      rw [no] at r7'
      refine st_store_row 98 (.tmp 7) (.tmp 34) g7 98 _ (bv (blockL ks ((pos l / 64 : Nat) : Int) ns)) rfl p7 (h.dep n 9 34 (by kernel_rfl) rfl) r7' zB.out z6.out (bv_one' _) ?_
      intro w3 r3 o3
      exact hK undef w3 trivial ⟨h.inv.1.trans (o3.below n7), fun _ => ⟨g7, p7, n7, r3⟩⟩
  case he =>
    intro V w3 hV hJ
    obtain ⟨hb3, hJ2⟩ := hJ
    obtain ⟨g7, p7, n7, r7⟩ := hJ2 rfl
    have r7' : Row w3 98 g7 (bv (blockL ks ((pos l / 64 : Nat) : Int) ns)) := r7
    have hr3 := hr.later hb3
    have hc3 := hr3.cell (strm_left Hk.out Hn.out)
    have hp : V 10 = .pointer (some ⟨g7, 0, none⟩) := p7
    have hl3 : g < w3.heap.size := hr3.lt
    have hg7 : g ≠ g7 := by have := hr.lt; omega
    have hsl := hide (strm_len (l := (l : Int)) Hk.out Hn.out)
    clear hJ2 p7 r7 hV hc d1 d2
    simp only [putOps, List.setIfInBounds_toArray, List.set_cons_succ, List.set_cons_zero]
    rw [hp]
    refine hK1 _ _ ?_
    clear hK1 hp
    have hq : pos l % 64 < 64 := by omega
    have hB := hide (ksl_block (ks := ks) (ns := ns) (p := pos l) (n := min k (64 - pos l % 64)) (by omega))
    generalize hqq : pos l % 64 = q at *
    have Hqq := hide hqq
    clear hqq
    have hS1 := fun w => run_sliceArr (P := Tryz.prog) w 98 64 5 Tryz.underlying98 Tryz.sizeOf5 .u64 g7 q hq
    by_cases hkq : k ≤ 64 - q
    · have hS2 := fun w => run_sliceTo (P := Tryz.prog) w 25 5 1 Tryz.underlying25 Tryz.sizeOf5 (some ⟨g7, q, none⟩) (64 - q) (64 - q) .i64 (k : Int) k rfl hkq
      go_wp2_with (first
        | (with_reducible refine wl_store rfl 95 (.tmp 48) (.tmp 46) g 44 132 _ (.int .u64 ((l : Int) - (k : Int))) rfl (by kernel_rfl) rfl rfl hr3 (by rw [hsl.out]; omega) rfl ?_; intro w4 r4 o4))
      go_ret
      rw [strm_set Hk.out Hn.out, show (l : Int) - (k : Int) = ((l - k : Nat) : Int) from by omega] at r4
      have r8 := r7'.only o4 (by omega)
      refine ⟨_, _, _, _, rfl, n7, by rw [Hqq.out]; omega, ?_, r4, (But.of hb3 g).trans (But.only o4)⟩
      rw [show min k (64 - q) = k from by omega] at hB
      exact bs_mid r8 hB.out (by rw [blockL_len]; omega)
    · have hS2 := fun w => run_sliceTo (P := Tryz.prog) w 25 5 1 Tryz.underlying25 Tryz.sizeOf5 (some ⟨g7, q, none⟩) (64 - q) (64 - q) .i64 (64 - (q : Int)) (64 - q) (by omega) (by omega)
      go_wp2_with (first
        | (with_reducible refine wl_store rfl 95 (.tmp 48) (.tmp 46) g 44 132 _ (.int .u64 ((l : Int) - (64 - (q : Int)))) rfl (by kernel_rfl) rfl rfl hr3 (by rw [hsl.out]; omega) rfl ?_; intro w4 r4 o4))
      go_ret
      rw [strm_set Hk.out Hn.out, show (l : Int) - (64 - (q : Int)) = ((l - (64 - q) : Nat) : Int) from by omega] at r4
      have r8 := r7'.only o4 (by omega)
      refine ⟨_, _, _, _, rfl, n7, by rw [Hqq.out]; omega, ?_, r4, (But.of hb3 g).trans (But.only o4)⟩
      rw [show min k (64 - q) = 64 - q from by omega] at hB
      exact bs_mid r8 hB.out (by rw [blockL_len]; omega)
end Go.Proofs.YtooooncmjhcdbaaGreatDoor

/-
  A stream, last part: xoring. Own work.
-/
namespace Go.Proofs.YtooooncmjhcdbaaGreatDoor
open Go.RowKit
theorem zc0 : (Value.int IntKind.u8 0).cells = #[Value.int IntKind.u8 0] := rfl
theorem zI : (0 : Int) = ((0 : Nat) : Int) := rfl
def lenV : Value → Nat | .slice _ n _ => n | _ => 0
theorem rep_split {α : Type} (n : Nat) (x : α) (h : 0 < n) : List.replicate n x = [x] ++ List.replicate (n - 1) x := by
  obtain ⟨m, rfl⟩ : ∃ m, n = m + 1 := ⟨n - 1, by omega⟩
  simp [List.replicate_succ]
/-- What Xor hands back. -/
def RetXor (ks ns : List Int) (l g : Nat) (xs : List Int) (w : World) (e : Ending) (w' : World) : Prop :=
  ∃ b c, e = .returned (.tuple #[.slice (some ⟨b, 0, none⟩) xs.length c, .bool true]) ∧ w.heap.size ≤ b ∧ Bs w' w'.heap.size (some ⟨b, 0, none⟩) xs.length (outL ks ns (pos l) xs) ∧ Row w' 132 g (strm ks ns ((l - xs.length : Nat) : Int)) ∧ But g w w' ∧ xs.length ≤ c ∧ c ≤ maxLen
set_option maxRecDepth 100000 in
set_option maxHeartbeats 1000000 in
theorem sxor_long (ks ns : List Int) (l g n c : Nat) (A : Option Addr) (w : World) (hk : ks.length = 32) (hn : ns.length = 12) (hl : l ≤ 274877906944) (hr : Row w 132 g (strm ks ns l)) (hlong : l < n) (hm : n ≤ maxLen) :
    Calls Tryz.prog 53 #[.pointer (some ⟨g, 0, none⟩), .slice A n c] w fun e w' => e = .returned (.tuple #[.slice none 0 0, .bool false]) ∧ w = w' := by
  unfold maxLen at hm
  go_enter Tryz.func53, Tryz.ntmps53
  go_wp2_with (go_at_call 66; refine (sleft_any ks ns l g _ hk hn hr).mono ?_; rintro e w' ⟨rfl, rfl⟩)
  go_ret2
  exact ⟨rfl, rfl⟩
theorem sxor_nil (n c : Nat) (A : Option Addr) (w : World) (hn : 0 < n) (hm : n ≤ maxLen) :
    Calls Tryz.prog 53 #[.pointer none, .slice A n c] w fun e w' => e = .returned (.tuple #[.slice none 0 0, .bool false]) ∧ w = w' := by
  unfold maxLen at hm
  go_enter Tryz.func53, Tryz.ntmps53
  go_wp2_with (go_at_call 66; refine (left_nil _).mono ?_; rintro e w' ⟨rfl, rfl⟩)
  go_ret2
  exact ⟨rfl, rfl⟩
theorem But.new {g g' : Nat} {a b c : World} (h : But g a b) (k : Only g' b c) (hg : a.heap.size ≤ g') : But g a c :=
  ⟨k.os.trans h.os, k.tape.trans h.tape, k.output.trans h.output, by rw [k.size]; exact h.size, fun i hi hne => (k.block i (by omega)).trans (h.block i hi hne)⟩
theorem But.later {g : Nat} {a b c : World} (h : But g a b) (k : Below b.heap.size b c) : But g a c := h.trans (But.of k g)
theorem Bs.keepAt {w w' : World} {B b o n : Nat} {xs : List Int} (h : Bs w B (some ⟨b, o, none⟩) n xs) (hk : w'.heap[b]? = w.heap[b]?) : Bs w' B (some ⟨b, o, none⟩) n xs := by
  refine ⟨h.1, fun hn => ?_⟩
  obtain ⟨b', o', e, hb, hc⟩ := h.2 hn
  injection e with e
  injection e with e1 e2 e3
  subst e1
  subst e2
  exact ⟨b, o, rfl, hb, fun j hj => by rw [World.cell?_of_block (w := w) (a := ⟨b, o + j, none⟩) hk]; exact hc j hj⟩
theorem fillStep {ks ns xs : List Int} {p n k : Nat} (hk : k < n) (v : Int) (hv : v = bits .xor .u8 (xs.getD k 0) (kbyte ks ns (p + k))) :
    bv (outP ks ns p xs k) ++ ([Value.int .u8 v] ++ bv (List.replicate (n - k - 1) 0)) = bv (outP ks ns p xs (k + 1) ++ List.replicate (n - (k + 1)) 0) := by
  rw [outP_succ, hv]
  simp [bv, Nat.sub_sub]
theorem fillHead {ks ns xs : List Int} {p n k : Nat} (hk : k < n) :
    bv (outP ks ns p xs k ++ List.replicate (n - k) 0) = bv (outP ks ns p xs k) ++ ([Value.int .u8 0] ++ bv (List.replicate (n - k - 1) 0)) := by
  rw [rep_split (n - k) 0 (by omega)]
  simp [bv]
set_option maxRecDepth 100000 in
set_option maxHeartbeats 1000000 in
theorem sxor_none (ks ns : List Int) (l g c : Nat) (A : Option Addr) (w : World) (hk : ks.length = 32) (hn : ns.length = 12) (hl : l ≤ 274877906944) (hr : Row w 132 g (strm ks ns l)) :
    Calls Tryz.prog 53 #[.pointer (some ⟨g, 0, none⟩), .slice A 0 c] w (RetXor ks ns l g [] w) := by
  obtain ⟨i0, hi, hz, hsz, hbys⟩ := u8_info
  have hln : i0.bytes * 0 ≤ 281474976710656 := by omega
  have h63 : 0 ≤ 9223372036854775807 := by omega
  go_enter Tryz.func53, Tryz.ntmps53
  go_wp2_with (first
    | (go_at_call 66; refine (sleft_any ks ns l g _ hk hn hr).mono ?_; rintro e w' ⟨rfl, rfl⟩)
    | ((with_reducible refine wl_make rfl 25 _ _ rfl 5 i0 (Value.int IntKind.u8 0) Tryz.underlying25 hi hz hsz zc0 IntKind.i64 IntKind.i64 0 0 _ _ rfl rfl zI zI (Nat.zero_le _) hln h63 ?_); intro go w6 r6 a6 l6 b6))
  go_loop [6] (fun o => o = .slice (some ⟨go, 0, none⟩) 0 0) (fun _ => 0)
  case atStart => rfl
  case round =>
    subst hrel
    go_wp2_with fail
    go_ret2
    exact ⟨_, _, rfl, a6, Bs.nil_, by simpa using hr.later b6, But.of b6 g, Nat.le_refl _, by simp [maxLen]⟩
end Go.Proofs.YtooooncmjhcdbaaGreatDoor

/-
  Xoring with a stream from a counter on; the example. Own work.
-/
namespace Go.Proofs.YtooooncmjhcdbaaGreatDoor
open Go.RowKit
/-- What Xor hands back where the stream is long enough. -/
def RetXorF (ks ns : List Int) (c : Nat) (xs : List Int) (w : World) (e : Ending) (w' : World) : Prop :=
  ∃ A n, e = .returned (.tuple #[.slice A xs.length n, .bool true]) ∧ Bs w' w'.heap.size A xs.length (outL ks ns (64 * c) xs) ∧ Below w.heap.size w w' ∧ xs.length ≤ n ∧ n ≤ maxLen
def RetNo (w : World) (e : Ending) (w' : World) : Prop := e = .returned (.tuple #[.slice none 0 0, .bool false]) ∧ Below w.heap.size w w'
theorem left_cast (c : Nat) (h : c < 4294967296) : (4294967296 - (c : Int)) * 64 = (((4294967296 - c) * 64 : Nat) : Int) := by omega
theorem pos_left (c : Nat) (h : c < 4294967296) : pos ((4294967296 - c) * 64) = 64 * c := by unfold pos; omega
set_option maxRecDepth 100000 in
set_option maxHeartbeats 1000000 in
theorem xor_long (ks ns : List Int) (c n cp : Nat) (A : Option Addr) (w : World) (hk : ks.length = 32) (hn : ns.length = 12) (hc : c < 4294967296) (hm : n ≤ maxLen) (hlong : (4294967296 - c) * 64 < n) :
    Calls Tryz.prog 41 #[.agg (bv ks).toArray, .int .u32 (c : Int), .agg (bv ns).toArray, .slice A n cp] w (RetNo w) := by
  have zk := hide (size_b (P := Tryz.prog) (T := 42) (by kernel_rfl) hk)
  have zn := hide (size_b (P := Tryz.prog) (T := 45) (by kernel_rfl) hn)
  have hN := fun w => new_any ks ns c w hk hn ⟨by omega, by omega⟩
  have Hk := hide hk
  have Hn := hide hn
  clear hk hn
  go_enter Tryz.func41, Tryz.ntmps41
  go_wp2_with (first
    | (with_reducible refine wl_box rfl 42 (.tmp 0) _ (bv ks) rfl rfl rfl ?_; intro g3 w3 r3 a3 l3 b3)
    | (with_reducible refine wl_box rfl 45 (.tmp 2) _ (bv ns) rfl rfl rfl ?_; intro g5 w5 r5 a5 l5 b5)
    | (with_reducible refine wl_load_row rfl 42 (.tmp 4) g3 42 (bv ks) _ rfl rfl (r3.later b5) Tryz.underlying42 rfl zk.out ?_)
    | (with_reducible refine wl_load_row rfl 45 (.tmp 6) g5 45 (bv ns) _ rfl rfl r5 Tryz.underlying45 rfl zn.out ?_))
  refine (hN _).mono ?_
  rintro e w6 ⟨g, rfl, hg, hr, b6⟩
  rw [left_cast c hc] at hr
  have B6 := (b3.trans (b5.mono b3.size)).trans (b6.mono (Nat.le_trans b3.size b5.size))
  clear hN r3 r5 b3 b5 b6
  go_wp2_with fail
  refine (sxor_long ks ns ((4294967296 - c) * 64) g n cp A w6 Hk.out Hn.out (by omega) hr hlong hm).mono ?_
  rintro e w' ⟨rfl, rfl⟩
  go_wp2
  go_ret2
  exact ⟨rfl, B6⟩
end Go.Proofs.YtooooncmjhcdbaaGreatDoor

/-
  What is xored with a stream; where one begins: plain words. Own work.
-/
namespace Go.Proofs.YtooooncmjhcdbaaGreatDoor
open Go.RowKit
/-- Where a stream begins: its cells. -/
def atL (ks : List Int) (c : Int) (ns : List Int) : List Value := bv ks ++ ([.int .u32 c] ++ bv ns)
theorem atRowA {w : World} {T g : Nat} {ks ns : List Int} {c : Int} (r : Row w T g (atL ks c ns)) : Row w T g ([] ++ (bv ks ++ ([Value.int .u32 c] ++ bv ns))) := r
theorem atRowC {w : World} {T g : Nat} {ks ns : List Int} {c : Int} (r : Row w T g (atL ks c ns)) : Row w T g ((bv ks ++ [Value.int .u32 c]) ++ (bv ns ++ [])) := by simpa [atL] using r
theorem atCtr {ks ns : List Int} {c : Int} (hk : (bv ks).length = 32) : (atL ks c ns)[32]? = some (.int .u32 c) := by
  unfold atL
  rw [List.getElem?_append_right (by omega), hk]
  rfl
theorem xor_by {x y : Int} (hx : 0 ≤ x ∧ x < 256) (hy : 0 ≤ y ∧ y < 256) : 0 ≤ bits .xor .u8 x y ∧ bits .xor .u8 x y < 256 := by
  rw [u8_xor x y hx.1 hx.2 hy.1 hy.2]
  have := Nat.xor_lt_two_pow (x := x.toNat) (y := y.toNat) (n := 8) (by omega) (by omega)
  omega
theorem xor_back {x y : Int} (hx : 0 ≤ x ∧ x < 256) (hy : 0 ≤ y ∧ y < 256) : bits .xor .u8 (bits .xor .u8 x y) y = x := by
  have h := xor_by hx hy
  rw [u8_xor _ y h.1 h.2 hy.1 hy.2, u8_xor x y hx.1 hx.2 hy.1 hy.2, Int.toNat_natCast, Nat.xor_assoc, Nat.xor_self, Nat.xor_zero]
  omega
theorem outL_by (ks ns xs : List Int) (p : Nat) (h : IsBy xs) : IsBy (outL ks ns p xs) := by
  intro x hx
  simp only [outL, List.mem_map] at hx
  obtain ⟨i, _, rfl⟩ := hx
  exact xor_by (by_getD xs h i) (kbyte_by _ _ _)
theorem outL_twice (ks ns xs : List Int) (p : Nat) (h : IsBy xs) : outL ks ns p (outL ks ns p xs) = xs := by
  apply List.ext_getElem
  · rw [outL_len, outL_len]
  · intro i h1 h2
    have e : (outL ks ns p xs).getD i 0 = bits .xor .u8 (xs.getD i 0) (kbyte ks ns (p + i)) := by simp [outL, List.getD, h2]
    have e2 : (outL ks ns p (outL ks ns p xs))[i] = bits .xor .u8 ((outL ks ns p xs).getD i 0) (kbyte ks ns (p + i)) := by simp only [outL, List.getElem_map, List.getElem_range]
    rw [e2, e, xor_back (by_getD xs h i) (kbyte_by _ _ _)]
    simp [List.getD, h2]
end Go.Proofs.YtooooncmjhcdbaaGreatDoor

/-
  Poly: the numbers of bytes, the steps modulo 2^130 - 5, digits: plain mathematics. Own work.
-/
namespace Go.Proofs.YtooooncmjhcdbaaGreatDoor
open Go.RowKit
/-- The word of X that stands at place p (a power of M). -/
def wd (M p X : Nat) : Nat := X / p % M
/-- The words of a number. -/
def nW (X : Nat) (i : Nat) : Nat := wd 18446744073709551616 (18446744073709551616 ^ i) X
/-- The number of bytes, the lowest first. -/
def leN : List Int → Nat
  | [] => 0
  | x :: xs => x.toNat + 256 * leN xs
theorem leN_append (xs ys : List Int) : leN (xs ++ ys) = leN xs + 256 ^ xs.length * leN ys := by
  induction xs with
  | nil => simp [leN]
  | cons x xs ih =>
    simp only [List.cons_append, leN, ih, List.length_cons, Nat.pow_succ, Nat.mul_add]
    rw [Nat.mul_comm (256 ^ xs.length) 256, Nat.mul_assoc]
    omega
theorem leN_lt {xs : List Int} (h : IsBy xs) : leN xs < 256 ^ xs.length := by
  induction xs with
  | nil => simp [leN]
  | cons x xs ih =>
    have h1 := ih fun y hy => h y (List.mem_cons_of_mem _ hy)
    have h2 := h x (by simp)
    simp only [leN, List.length_cons, Nat.pow_succ]
    omega
theorem IsBy.app {xs ys : List Int} (h : IsBy xs) (k : IsBy ys) : IsBy (xs ++ ys) := fun x hx => by
  rcases List.mem_append.1 hx with hx | hx
  · exact h x hx
  · exact k x hx
theorem leN_split (xs : List Int) (k : Nat) (hk : k ≤ xs.length) : leN xs = leN (xs.take k) + 256 ^ k * leN (xs.drop k) := by
  have := leN_append (xs.take k) (xs.drop k)
  rw [List.take_append_drop, List.length_take, Nat.min_eq_left hk] at this
  exact this
theorem leN_div {xs : List Int} (h : IsBy xs) (k : Nat) : leN xs / 256 ^ k = leN (xs.drop k) := by
  have hp : 0 < 256 ^ k := Nat.pow_pos (by decide)
  rcases Nat.lt_or_ge xs.length k with h1 | h1
  · rw [List.drop_eq_nil_of_le (by omega), Nat.div_eq_of_lt (Nat.lt_of_lt_of_le (leN_lt h) (Nat.pow_le_pow_right (by decide) (by omega)))]
    rfl
  · have h2 := leN_lt (h.take k)
    rw [List.length_take, Nat.min_eq_left h1] at h2
    rw [leN_split xs k h1, Nat.add_mul_div_left _ _ hp, Nat.div_eq_of_lt h2, Nat.zero_add]
theorem leN_mod {xs : List Int} (h : IsBy xs) (k : Nat) : leN xs % 256 ^ k = leN (xs.take k) := by
  have hp : 0 < 256 ^ k := Nat.pow_pos (by decide)
  rcases Nat.lt_or_ge xs.length k with h1 | h1
  · rw [List.take_of_length_le (by omega), Nat.mod_eq_of_lt (Nat.lt_of_lt_of_le (leN_lt h) (Nat.pow_le_pow_right (by decide) (by omega)))]
  · have h2 := leN_lt (h.take k)
    rw [List.length_take, Nat.min_eq_left h1] at h2
    rw [leN_split xs k h1, Nat.add_mul_mod_self_left, Nat.mod_eq_of_lt h2]
theorem leV_leN {xs : List Int} (h : IsBy xs) (p n : Nat) : leV xs p n = (leN ((xs.drop p).take n) : Int) := by
  induction n with
  | zero => simp [leV, leN]
  | succ n ih =>
    simp only [leV, ih]
    by_cases hin : p + n < xs.length
    · have e : (xs.drop p).take (n + 1) = (xs.drop p).take n ++ [xs.getD (p + n) 0] := by
        rw [List.take_succ_eq_append_getElem (by rw [List.length_drop]; omega)]
        simp [List.getD, hin]
      have hb := h (xs.getD (p + n) 0) (by rw [List.getD, List.getElem?_eq_getElem hin]; simp)
      rw [e, leN_append, List.length_take, List.length_drop, Nat.min_eq_left (by omega)]
      generalize xs.getD (p + n) 0 = v at *
      obtain ⟨m, rfl⟩ := Int.eq_ofNat_of_zero_le hb.1
      simp [leN, Int.mul_comm]
    · have e : (xs.drop p).take (n + 1) = (xs.drop p).take n := by
        rw [List.take_of_length_le (by rw [List.length_drop]; omega), List.take_of_length_le (by rw [List.length_drop]; omega)]
      rw [e, show xs.getD (p + n) 0 = 0 by simp [List.getD, List.getElem?_eq_none (show xs.length ≤ p + n by omega)]]
      simp
theorem nW_leN {xs : List Int} (h : IsBy xs) (i : Nat) : (nW (leN xs) i : Int) = leV xs (8 * i) 8 := by
  rw [leV_leN h]
  unfold nW wd
  rw [show (18446744073709551616 : Nat) = 256 ^ 8 from by decide, ← Nat.pow_mul, leN_div h, leN_mod (h.drop _)]
theorem lowB_leN : ∀ {xs : List Int}, IsBy xs → lowB (leN xs) xs.length = xs
  | [], _ => rfl
  | x :: xs, h => by
    have h1 := h x (by simp)
    have h2 := lowB_leN fun y hy => h y (List.mem_cons_of_mem _ hy)
    obtain ⟨m, rfl⟩ := Int.eq_ofNat_of_zero_le h1.1
    simp only [leN, List.length_cons, lowB]
    rw [show ((((m : Int).toNat + 256 * leN xs : Nat) : Int) / 256) = (leN xs : Int) by simp only [Int.toNat_natCast]; omega, h2]
    congr 1
    simp only [Int.toNat_natCast]
    omega
theorem leN_lowB (X n : Nat) : leN (lowB X n) = X % 256 ^ n := by
  induction n generalizing X with
  | zero => simp [lowB, leN, Nat.mod_one]
  | succ n ih =>
    have h1 := ih (X / 256)
    simp only [lowB, leN]
    rw [show ((X : Int) / 256) = ((X / 256 : Nat) : Int) by omega, h1, show ((X : Int) % 256).toNat = X % 256 by omega, Nat.pow_succ, Nat.mul_comm (256 ^ n) 256, Nat.mod_mul]
theorem lowB_mod (X n : Nat) : lowB ((X % 256 ^ n : Nat) : Int) n = lowB X n := by
  induction n generalizing X with
  | zero => rfl
  | succ n ih =>
    simp only [lowB]
    have e1 : ((X % 256 ^ (n + 1) : Nat) : Int) % 256 = (X : Int) % 256 := by
      have : X % 256 ^ (n + 1) % 256 = X % 256 := by rw [Nat.pow_succ, Nat.mul_comm, Nat.mod_mul_right_mod]
      omega
    have e2 : ((X % 256 ^ (n + 1) : Nat) : Int) / 256 = ((X / 256 % 256 ^ n : Nat) : Int) := by
      have : X % 256 ^ (n + 1) / 256 = X / 256 % 256 ^ n := by rw [Nat.pow_succ, Nat.mul_comm, Nat.mod_mul_right_div_self]
      omega
    rw [e1, e2, ih, show ((X : Int) / 256) = ((X / 256 : Nat) : Int) by omega]
def p130 : Nat := 1361129467683753853853498429727072845819
/-- One fold: the lowest 130 bits, and five times what stands above. -/
def fold1 (Z : Nat) : Nat := Z % 1361129467683753853853498429727072845824 + 5 * (Z / 1361129467683753853853498429727072845824)
theorem fold1_mod (Z : Nat) : fold1 Z % p130 = Z % p130 := by
  have : Z = fold1 Z + p130 * (Z / 1361129467683753853853498429727072845824) := by unfold fold1 p130; omega
  conv => rhs; rw [this, Nat.add_mul_mod_self_left]
theorem fold1_lt {Z : Nat} (h : Z < 2 ^ 255) : fold1 Z < 1361129467683753853853498429727072845824 + 340282366920938463463374607431768211456 := by
  unfold fold1; omega
/-- The sum behind a piece. -/
def stepI (R T : Nat) (xs : List Int) : Nat := fold1 ((T + leN (xs ++ [1])) * R)
/-- The sum behind k whole pieces. -/
def totI (R : Nat) (xs : List Int) : Nat → Nat
  | 0 => 0
  | k + 1 => stepI R (totI R xs k) ((xs.drop (16 * k)).take 16)
theorem piece_lt {xs : List Int} (h : IsBy xs) (hl : xs.length ≤ 16) : leN (xs ++ [1]) < 2 * 340282366920938463463374607431768211456 := by
  have h1 := leN_lt h
  have h2 : 256 ^ xs.length ≤ 256 ^ 16 := Nat.pow_le_pow_right (by decide) hl
  rw [leN_append]
  simp [leN]
  rw [show (256 : Nat) ^ 16 = 340282366920938463463374607431768211456 from by decide] at h2
  omega
theorem mul_lt {Z R : Nat} (hz : Z < 2 ^ 131) (hr : R < 2 ^ 124) : Z * R < 2 ^ 255 := by
  have : Z * R ≤ (2 ^ 131 - 1) * (2 ^ 124 - 1) := Nat.mul_le_mul (by omega) (by omega)
  have : (2 ^ 131 - 1) * (2 ^ 124 - 1) < 2 ^ 255 := by decide
  omega
theorem stepI_lt {R T : Nat} {xs : List Int} (hr : R < 2 ^ 124) (ht : T < 1361129467683753853853498429727072845824 + 340282366920938463463374607431768211456) (h : IsBy xs) (hl : xs.length ≤ 16) : stepI R T xs < 1361129467683753853853498429727072845824 + 340282366920938463463374607431768211456 := by
  have := piece_lt h hl
  exact fold1_lt (mul_lt (by omega) hr)
theorem totI_lt {R : Nat} {xs : List Int} (hr : R < 2 ^ 124) (h : IsBy xs) (k : Nat) : totI R xs k < 1361129467683753853853498429727072845824 + 340282366920938463463374607431768211456 := by
  induction k with
  | zero => simp [totI]
  | succ k ih => exact stepI_lt hr ih ((h.drop _).take _) (by rw [List.length_take]; omega)
theorem totI_append (R : Nat) (xs ys : List Int) (k : Nat) (hk : 16 * k ≤ xs.length) : totI R (xs ++ ys) k = totI R xs k := by
  induction k with
  | zero => rfl
  | succ k ih =>
    simp only [totI]
    rw [ih (by omega), List.drop_append_of_le_length (by omega), List.take_append_of_le_length (by rw [List.length_drop]; omega)]
/-- A number below twice the modulus, reduced. -/
def red (X : Nat) : Nat := (X + 5 * ((X + 5) / 1361129467683753853853498429727072845824)) % 1361129467683753853853498429727072845824
theorem red_eq {X : Nat} (h : X < 2 * p130) : red X = X % p130 := by
  unfold red p130 at *
  rcases Nat.lt_or_ge X 1361129467683753853853498429727072845819 with h1 | h1
  · rw [show (X + 5) / 1361129467683753853853498429727072845824 = 0 by omega]; omega
  · rw [show (X + 5) / 1361129467683753853853498429727072845824 = 1 by omega]; omega
/-- The sum of a text, before s is added. -/
def endI (R : Nat) (xs : List Int) : Nat :=
  if xs.length % 16 = 0 then totI R xs (xs.length / 16) else stepI R (totI R xs (xs.length / 16)) (xs.drop (16 * (xs.length / 16)))
theorem endI_lt {R : Nat} {xs : List Int} (hr : R < 2 ^ 124) (h : IsBy xs) : endI R xs < 1361129467683753853853498429727072845824 + 340282366920938463463374607431768211456 := by
  unfold endI
  split
  · exact totI_lt hr h _
  · exact stepI_lt hr (totI_lt hr h _) (h.drop _) (by rw [List.length_drop]; omega)
/-- The sum of a text: sixteen bytes. -/
def polyL (R S : Nat) (xs : List Int) : List Int := lowB ((red (endI R xs) + S : Nat) : Int) 16
/-- The document's words: piece by piece modulo 2^130 - 5. -/
def accN (R : Nat) (xs : List Int) : Nat → Nat
  | 0 => 0
  | k + 1 => (accN R xs k + leN ((xs.drop (16 * k)).take 16 ++ [1])) * R % p130
theorem totI_acc (R : Nat) (xs : List Int) (k : Nat) : totI R xs k % p130 = accN R xs k % p130 := by
  induction k with
  | zero => rfl
  | succ k ih =>
    simp only [totI, stepI, accN, fold1_mod, Nat.mod_mod]
    rw [Nat.mul_mod, Nat.add_mod, ih, ← Nat.add_mod, ← Nat.mul_mod]
theorem accN_lt (R : Nat) (xs : List Int) (k : Nat) : accN R xs k < p130 := by
  cases k with
  | zero => show 0 < p130; decide
  | succ k => exact Nat.mod_lt _ (by decide)
theorem endI_acc {R : Nat} {xs : List Int} (hr : R < 2 ^ 124) (h : IsBy xs) : red (endI R xs) = accN R xs ((xs.length + 15) / 16) := by
  have hlt := endI_lt hr h
  rw [red_eq (by unfold p130; omega)]
  rw [← Nat.mod_eq_of_lt (accN_lt R xs _)]
  unfold endI
  split
  · rename_i h0
    rw [show (xs.length + 15) / 16 = xs.length / 16 by omega, totI_acc]
  · rename_i h0
    rw [show (xs.length + 15) / 16 = xs.length / 16 + 1 by omega, ← totI_acc]
    simp only [totI]
    rw [List.take_of_length_le (by rw [List.length_drop]; omega)]
/-! ### Digits below 256, or greater ones -/
/-- Numbers that are digits, of any size. -/
def IsNn (ds : List Int) : Prop := ∀ x, x ∈ ds → 0 ≤ x
theorem IsBy.nn {ds : List Int} (h : IsBy ds) : IsNn ds := fun x hx => (h x hx).1
theorem lowB_by (x : Int) (n : Nat) : IsBy (lowB x n) := lowB_byte x n
theorem lowB_get {X n i : Nat} (h : i < n) : (lowB X n).getD i 0 = ((X / 256 ^ i % 256 : Nat) : Int) := by
  induction n with
  | zero => omega
  | succ n ih =>
    rw [lowB_snoc]
    by_cases hi : i < n
    · rw [← ih hi]
      simp [List.getD, List.getElem?_append_left (show i < (lowB (X : Int) n).length by rw [lowB_length]; exact hi)]
    · obtain rfl : i = n := by omega
      have e : ((256 : Int) ^ i) = ((256 ^ i : Nat) : Int) := by simp
      simp only [List.getD, List.getElem?_append_right (show (lowB (X : Int) i).length ≤ i by rw [lowB_length]; omega), lowB_length, Nat.sub_self, List.getElem?_cons_zero, Option.getD_some]
      rw [e, ← Int.natCast_ediv]
      omega
theorem leN_take_succ {ds : List Int} {i : Nat} (hi : i < ds.length) : leN (ds.take (i + 1)) = leN (ds.take i) + 256 ^ i * (ds.getD i 0).toNat := by
  rw [List.take_succ_eq_append_getElem hi, leN_append, List.length_take, Nat.min_eq_left (by omega)]
  simp [leN, List.getD, hi]
/-- What carrying has come to. -/
def caC (ds : List Int) (i : Nat) : Nat := leN (ds.take i) / 256 ^ i
theorem caC_0 (ds : List Int) : caC ds 0 = 0 := by simp [caC, leN]
theorem caC_sum {ds : List Int} {i : Nat} (hi : i < ds.length) : leN (ds.take (i + 1)) / 256 ^ i = caC ds i + (ds.getD i 0).toNat := by
  rw [leN_take_succ hi, Nat.add_mul_div_left _ _ (Nat.pow_pos (by decide))]
  rfl
theorem caC_next {ds : List Int} {i : Nat} (hi : i < ds.length) : (caC ds i + (ds.getD i 0).toNat) / 256 = caC ds (i + 1) := by
  rw [← caC_sum hi, caC, Nat.pow_succ, Nat.div_div_eq_div_mul]
theorem caC_digit {ds : List Int} {i : Nat} (hi : i < ds.length) : (caC ds i + (ds.getD i 0).toNat) % 256 = leN ds / 256 ^ i % 256 := by
  have h1 := leN_append (ds.take (i + 1)) (ds.drop (i + 1))
  rw [List.take_append_drop, List.length_take, Nat.min_eq_left (by omega), Nat.pow_succ, Nat.mul_assoc] at h1
  rw [h1, Nat.add_mul_div_left _ _ (Nat.pow_pos (by decide)), caC_sum hi, Nat.add_mul_mod_self_left]
theorem caC_le {ds : List Int} {B : Nat} (hd : ∀ i, i < ds.length → (ds.getD i 0).toNat ≤ 255 * B) (i : Nat) (hi : i ≤ ds.length) : caC ds i ≤ B := by
  induction i with
  | zero => rw [caC_0]; omega
  | succ i ih =>
    rw [← caC_next (by omega)]
    have := ih (by omega)
    have := hd i (by omega)
    omega
/-- Digits, of which the first i have been carried. -/
def caL (ds : List Int) (i : Nat) : List Int := lowB (leN ds) i ++ ds.drop i
theorem caL_0 (ds : List Int) : caL ds 0 = ds := by simp [caL, lowB]
theorem caL_len (ds : List Int) (i : Nat) (hi : i ≤ ds.length) : (caL ds i).length = ds.length := by simp [caL, lowB_length]; omega
theorem caL_all (ds : List Int) : caL ds ds.length = lowB (leN ds) ds.length := by simp [caL]
theorem caL_get {ds : List Int} {i : Nat} (hi : i < ds.length) : (caL ds i).getD i 0 = ds.getD i 0 := by
  simp [caL, List.getD, List.getElem?_append_right (show (lowB (leN ds : Int) i).length ≤ i by rw [lowB_length]; omega), lowB_length]
theorem caL_set {ds : List Int} {i : Nat} (hi : i < ds.length) : (caL ds i).set i (((caC ds i + (ds.getD i 0).toNat) % 256 : Nat) : Int) = caL ds (i + 1) := by
  rw [caC_digit hi]
  have hd : ds.drop i = ds.getD i 0 :: ds.drop (i + 1) := by
    rw [List.drop_eq_getElem_cons hi]
    simp [List.getD, hi]
  have e : ((256 : Int) ^ i) = ((256 ^ i : Nat) : Int) := by simp
  simp only [caL]
  rw [List.set_append_right _ _ (by rw [lowB_length]; omega), lowB_length, Nat.sub_self, hd, List.set_cons_zero, lowB_snoc, List.append_assoc]
  congr 2
theorem leN_zip : ∀ (xs ys : List Int), xs.length = ys.length → IsNn xs → IsNn ys → leN (List.zipWith (· + ·) xs ys) = leN xs + leN ys
  | [], [], _, _, _ => rfl
  | x :: xs, y :: ys, h, hx, hy => by
    have h1 := leN_zip xs ys (by simpa using h) (fun z hz => hx z (List.mem_cons_of_mem _ hz)) (fun z hz => hy z (List.mem_cons_of_mem _ hz))
    have h2 := hx x (by simp)
    have h3 := hy y (by simp)
    simp only [List.zipWith_cons_cons, leN, h1]
    omega
theorem leN_set : ∀ {ds : List Int} {j : Nat} {v : Int} {y : Nat}, j < ds.length → 0 ≤ ds.getD j 0 → v = ds.getD j 0 + y → leN (ds.set j v) = leN ds + 256 ^ j * y
  | [], j, v, y, h, _, _ => absurd h (by simp)
  | d :: ds, 0, v, y, h, h0, hv => by
    simp at h0 hv
    subst hv
    simp only [List.set_cons_zero, leN, Nat.pow_zero, Nat.one_mul]
    omega
  | d :: ds, j + 1, v, y, h, h0, hv => by
    have := leN_set (ds := ds) (j := j) (v := v) (y := y) (by simpa using h) (by simpa using h0) (by simpa using hv)
    simp only [List.set_cons_succ, leN, this, Nat.pow_succ, Nat.mul_add]
    rw [Nat.mul_comm (256 ^ j) 256, Nat.mul_assoc]
    omega
theorem leN_zeros (n : Nat) : leN (List.replicate n 0) = 0 := by
  induction n with
  | zero => rfl
  | succ n ih => simp [List.replicate_succ, leN, ih]
theorem leN_scale (c : Nat) : ∀ (ds : List Int), IsNn ds → leN (ds.map fun d => (c : Int) * d) = c * leN ds
  | [], _ => by simp [leN]
  | d :: ds, h => by
    have h1 := leN_scale c ds fun z hz => h z (List.mem_cons_of_mem _ hz)
    have h2 := h d (by simp)
    obtain ⟨m, rfl⟩ := Int.eq_ofNat_of_zero_le h2
    simp only [List.map_cons, leN, h1, Nat.mul_add]
    rw [show ((c : Int) * (m : Int)).toNat = c * m by rw [← Int.natCast_mul]; rfl, Int.toNat_natCast, Nat.mul_left_comm]
/-! ### Subtraction -/
/-- Is something borrowed at place k? -/
def boC (A B k : Nat) : Nat := if A % 256 ^ k < B % 256 ^ k then 1 else 0
theorem boC_0 (A B : Nat) : boC A B 0 = 0 := by simp [boC, Nat.mod_one]
theorem boC_le (A B k : Nat) : boC A B k ≤ 1 := by unfold boC; split <;> omega
theorem mod_succ (A k : Nat) : A % 256 ^ (k + 1) = A % 256 ^ k + 256 ^ k * (A / 256 ^ k % 256) := by rw [Nat.pow_succ, Nat.mod_mul]
theorem lex {p a b x y : Nat} (ha : a < p) (hb : b < p) : (a + p * x < b + p * y) ↔ (x < y ∨ x = y ∧ a < b) := by
  constructor
  · intro h
    rcases Nat.lt_trichotomy x y with h1 | h1 | h1
    · exact .inl h1
    · subst h1; exact .inr ⟨rfl, by omega⟩
    · have := Nat.mul_le_mul_left p (show y + 1 ≤ x from h1)
      rw [Nat.mul_add] at this
      omega
  · rintro (h | ⟨rfl, h⟩)
    · have := Nat.mul_le_mul_left p (show x + 1 ≤ y from h)
      rw [Nat.mul_add] at this
      omega
    · omega
theorem boC_next (A B k : Nat) : boC A B (k + 1) = if (A / 256 ^ k % 256 : Nat) < (B / 256 ^ k % 256 : Nat) + boC A B k then 1 else 0 := by
  have hp : 0 < 256 ^ k := Nat.pow_pos (by decide)
  have h := lex (p := 256 ^ k) (x := A / 256 ^ k % 256) (y := B / 256 ^ k % 256) (Nat.mod_lt A hp) (Nat.mod_lt B hp)
  unfold boC
  rw [mod_succ, mod_succ]
  by_cases h1 : A % 256 ^ k < B % 256 ^ k
  · simp only [h1, if_true]
    by_cases h2 : A % 256 ^ k + 256 ^ k * (A / 256 ^ k % 256) < B % 256 ^ k + 256 ^ k * (B / 256 ^ k % 256)
    · rw [if_pos h2, if_pos (by have := h.1 h2; omega)]
    · rw [if_neg h2, if_neg (fun h3 => h2 (h.2 (by omega)))]
  · simp only [h1, if_false]
    by_cases h2 : A % 256 ^ k + 256 ^ k * (A / 256 ^ k % 256) < B % 256 ^ k + 256 ^ k * (B / 256 ^ k % 256)
    · rw [if_pos h2, if_pos (by have := h.1 h2; omega)]
    · rw [if_neg h2, if_neg (fun h3 => h2 (h.2 (by omega)))]
/-- A digit of a difference. -/
theorem sub_digit {A B : Nat} (h : B ≤ A) (k : Nat) : ((A / 256 ^ k % 256 : Nat) : Int) - ((B / 256 ^ k % 256 : Nat) : Int) - (boC A B k : Int) + (if ((A / 256 ^ k % 256 : Nat) : Int) - ((B / 256 ^ k % 256 : Nat) : Int) - (boC A B k : Int) < 0 then 256 else 0) = (((A - B) / 256 ^ k % 256 : Nat) : Int) := by
  have hp : 0 < 256 ^ k := Nat.pow_pos (by decide)
  have e : (A - B) / 256 ^ k + B / 256 ^ k + boC A B k = A / 256 ^ k := by
    have e1 := Nat.div_add_mod A (256 ^ k)
    have e2 := Nat.div_add_mod B (256 ^ k)
    have l1 := Nat.mod_lt A hp
    have l2 := Nat.mod_lt B hp
    have hq : B / 256 ^ k ≤ A / 256 ^ k := Nat.div_le_div_right h
    unfold boC
    split
    · rename_i h1
      have hq' : B / 256 ^ k < A / 256 ^ k := by
        rcases Nat.lt_or_ge (B / 256 ^ k) (A / 256 ^ k) with h2 | h2
        · exact h2
        · have : A / 256 ^ k = B / 256 ^ k := Nat.le_antisymm h2 hq
          rw [this] at e1
          omega
      have e3 : A - B = 256 ^ k * (A / 256 ^ k - B / 256 ^ k - 1) + (256 ^ k + A % 256 ^ k - B % 256 ^ k) := by
        rw [Nat.mul_sub, Nat.mul_sub]
        have := Nat.mul_le_mul_left (256 ^ k) (show B / 256 ^ k + 1 ≤ A / 256 ^ k from hq')
        rw [Nat.mul_add] at this
        omega
      rw [e3, Nat.mul_add_div hp, Nat.div_eq_of_lt (show 256 ^ k + A % 256 ^ k - B % 256 ^ k < 256 ^ k by omega)]
      omega
    · rename_i h1
      have e3 : A - B = 256 ^ k * (A / 256 ^ k - B / 256 ^ k) + (A % 256 ^ k - B % 256 ^ k) := by
        rw [Nat.mul_sub]
        have := Nat.mul_le_mul_left (256 ^ k) hq
        omega
      rw [e3, Nat.mul_add_div hp, Nat.div_eq_of_lt (show A % 256 ^ k - B % 256 ^ k < 256 ^ k by omega)]
      omega
  have hb := boC_le A B k
  split <;> omega
end Go.Proofs.YtooooncmjhcdbaaGreatDoor

/-
  Poly: what it reads of bytes: contracts. Own work.
-/
namespace Go.Proofs.YtooooncmjhcdbaaGreatDoor
open Go.RowKit
set_option maxRecDepth 100000 in
theorem plen64_64 (w : World) : Calls Tryz.prog 78 #[.int .u64 18446744073709551615] w fun e w' => e = .returned (.int .i64 64) ∧ w = w' := by
  go_enter Tryz.func78, Tryz.ntmps78
  go_wp2
  go_ret
  exact ⟨by kernel_rfl, rfl⟩
set_option maxRecDepth 100000 in
theorem pwidth64_any (w : World) : Calls Tryz.prog 65 #[] w fun e w' => e = .returned (.int .i64 8) ∧ w = w' := by
  go_enter Tryz.func65, Tryz.ntmps65
  go_wp2_with (go_at_call 78; refine (plen64_64 _).mono ?_; rintro e w' ⟨rfl, rfl⟩)
  go_ret
  exact ⟨rfl, rfl⟩
set_option maxRecDepth 100000 in
set_option maxHeartbeats 400000 in
theorem fromLow64_any (A : Option Addr) (m c p : Nat) (xs : List Int) (w : World) (h : Bs w w.heap.size A m xs) (hx : IsBy xs) (hm : m ≤ 1000000) (hp : p ≤ 1000000) :
    Calls Tryz.prog 81 #[.slice A m c, .int .i64 (p : Int)] w fun e w' => e = .returned (.int .u64 (leV xs p 8)) ∧ w = w' := by
  go_enter Tryz.func81, Tryz.ntmps81
  go_wp2_with (go_at_call 65; refine (pwidth64_any _).mono ?_; rintro e w' ⟨rfl, rfl⟩)
  go_loop [5, 9] (fun v i => ∃ k : Nat, k ≤ 8 ∧ i = .int .i64 k ∧ v = .int .u64 (leV xs p k)) (fun _ i => 8 - (intOf i).toNat)
  case atStart => exact ⟨0, Nat.zero_le _, rfl, rfl⟩
  case round =>
    obtain ⟨k, hk, rfl, rfl⟩ := hrel
    obtain ⟨q0, q1⟩ := leV_bound hx p k
    by_cases hlt : k < 8
    · by_cases hin : p + k < m
      · obtain ⟨b, o, rfl, hb, hc⟩ := h.at_ hin
        obtain ⟨b0, b1⟩ := getD_byte hx (p + k)
        have HO := hide (or_next64 k hlt q0 q1 b0 b1)
        go_wp2
        go_round
        case rel => exact ⟨k + 1, by omega, by go_num, congrArg (Value.int .u64) (by have := HO.out; simpa [leV, List.getD] using this)⟩
        case measure => simp [intOf]; omega
      · have hz : xs.getD (p + k) 0 = 0 := by
          have := h.1
          simp [List.getD, List.getElem?_eq_none (show xs.length ≤ p + k by omega)]
        have HZ := hide hz
        clear hz
        go_wp2
        go_round
        case rel => exact ⟨k + 1, by omega, by go_num, congrArg (Value.int .u64) (by rw [leV, HZ.out]; omega)⟩
        case measure => simp [intOf]; omega
    · go_wp2
      go_ret
      obtain rfl : k = 8 := by omega
      exact ⟨rfl, rfl⟩
set_option maxRecDepth 100000 in
theorem le64_any (A : Option Addr) (m c p : Nat) (xs : List Int) (w : World) (h : Bs w w.heap.size A m xs) (hx : IsBy xs) (hm : m ≤ 1000000) (hp : p ≤ 1000000) :
    Calls Tryz.prog 71 #[.slice A m c, .int .i64 (p : Int)] w fun e w' => e = .returned (.int .u64 (leV xs p 8)) ∧ w = w' := by
  go_enter Tryz.func71, Tryz.ntmps71
  go_wp2_with (go_at_call 81; refine (fromLow64_any A m c p xs _ h hx hm hp).mono ?_; rintro e w' ⟨rfl, rfl⟩)
  go_ret
  exact ⟨rfl, rfl⟩
/-- A number's three words. -/
def n3 (a b c : Int) : List Value := [.int .u64 a, .int .u64 b, .int .u64 c]
theorem zeroN3 : (Tryz.prog.info? 120).map (fun i => i.zero) = some (some (.agg (n3 0 0 0).toArray)) := by kernel_rfl
theorem sizeN3 (a b c : Int) : (Tryz.prog.info? 120).map (·.size) = some (n3 a b c).length := by kernel_rfl
theorem oneN3 (a b c : Int) : ∀ u ∈ n3 a b c, u.oneCell' = true := by
  intro u hu
  simp only [n3, List.mem_cons, List.not_mem_nil, or_false] at hu
  rcases hu with rfl | rfl | rfl <;> rfl
theorem builtN3 (a b c : Int) : Tryz.prog.built 120 [(0, .int .u64 a), (1, .int .u64 b), (2, .int .u64 c)] = some (n3 a b c).toArray := by kernel_rfl
set_option maxRecDepth 100000 in
set_option maxHeartbeats 1000000 in
theorem fromBytes_any (A : Option Addr) (m c : Nat) (xs : List Int) (w : World) (h : Bs w w.heap.size A m xs) (hx : IsBy xs) (hm : m ≤ 1000000) :
    Calls Tryz.prog 57 #[.slice A m c] w fun e w' => e = .returned (.agg (n3 (leV xs 0 8) (leV xs 8 8) (leV xs 16 8)).toArray) ∧ Below w.heap.size w w' := by
  have hL0 := fun w h => le64_any A m c 0 xs w h hx hm (by omega)
  have hL1 := fun w h => le64_any A m c 8 xs w h hx hm (by omega)
  have hL2 := fun w h => le64_any A m c 16 xs w h hx hm (by omega)
  generalize leV xs 0 8 = X0 at *
  generalize leV xs 8 8 = X1 at *
  generalize leV xs 16 8 = X2 at *
  go_enter Tryz.func57, Tryz.ntmps57
  go_wp2_with (first
    | (with_reducible refine wl_alloc rfl 120 _ (n3 0 0 0) rfl zeroN3 rfl ?_; intro g2 w2 r2 a2 l2 b2))
  have hb := h.later b2
  refine (hL0 w2 hb).mono ?_
  rintro e w' ⟨rfl, rfl⟩
  go_wp2_with fail
  refine (hL1 w2 hb).mono ?_
  rintro e w' ⟨rfl, rfl⟩
  go_wp2_with fail
  refine (hL2 w2 hb).mono ?_
  rintro e w' ⟨rfl, rfl⟩
  go_wp2_with (first
    | ((with_reducible refine wl_build rfl 120 _ rfl _ ?hv _ (builtN3 X0 X1 X2) ?hk); case hv => rfl)
    | (with_reducible refine wl_store_row rfl 120 (.tmp 2) (.tmp 9) g2 120 _ (n3 X0 X1 X2) rfl rfl rfl r2 (sizeN3 _ _ _) rfl (oneN3 _ _ _) ?_; intro w3 r3 o3))
  refine bodyPost_ret (v := .agg (n3 X0 X1 X2).toArray) ?_ rfl ⟨rfl, ?_⟩
  · exact results_cell_row Tryz.results57 _ _ g2 120 _ (0, 0) _ rfl r3 Tryz.underlying120 rfl (by simpa using sizeN3 X0 X1 X2)
  · exact b2.trans (o3.below a2)
end Go.Proofs.YtooooncmjhcdbaaGreatDoor

/-
  Aead: a byte at a place: contract. Own work.
-/
namespace Go.Proofs.YtooooncmjhcdbaaGreatDoor
open Go.RowKit
set_option maxRecDepth 100000 in
theorem byteAt_any (A : Option Addr) (m c i : Nat) (xs : List Int) (w : World) (h : Bs w w.heap.size A m xs) :
    Calls Tryz.prog 48 #[.slice A m c, .int .i64 (i : Int)] w fun e w' => e = .returned (.int .u8 (xs.getD i 0)) ∧ w = w' := by
  by_cases hi : i < m
  · obtain ⟨b, o, rfl, hb, hc⟩ := h.at_ hi
    go_enter Tryz.func48, Tryz.ntmps48
    go_wp2
    go_ret
    exact ⟨rfl, rfl⟩
  · have hz : xs.getD i 0 = 0 := by
      have := h.1
      simp [List.getD, List.getElem?_eq_none (show xs.length ≤ i by omega)]
    have HZ := hide hz
    clear hz
    go_enter Tryz.func48, Tryz.ntmps48
    go_wp2
    go_ret
    exact ⟨by rw [HZ.out]; rfl, rfl⟩
end Go.Proofs.YtooooncmjhcdbaaGreatDoor

/-
  Aead: whether two texts have the same bytes: contract. Own work.
-/
namespace Go.Proofs.YtooooncmjhcdbaaGreatDoor
open Go.RowKit
theorem gather {v x y : Int} (hv : 0 ≤ v ∧ v < 256) (hx : 0 ≤ x ∧ x < 256) (hy : 0 ≤ y ∧ y < 256) :
    0 ≤ bits .or .u8 v (bits .xor .u8 x y) ∧ bits .or .u8 v (bits .xor .u8 x y) < 256 ∧ (bits .or .u8 v (bits .xor .u8 x y) = 0 ↔ v = 0 ∧ x = y) := by
  have h := xor_by hx hy
  have hz : bits .xor .u8 x y = 0 ↔ x = y := by
    constructor
    · intro h0
      have := xor_back hx hy
      have hs : bits .xor .u8 y y = 0 := by rw [u8_xor y y hy.1 hy.2 hy.1 hy.2, Nat.xor_self]; rfl
      rw [h0, u8_xor 0 y (by omega) (by omega) hy.1 hy.2] at this
      simp at this
      omega
    · rintro rfl
      rw [u8_xor x x hx.1 hx.2 hx.1 hx.2, Nat.xor_self]; rfl
  generalize bits .xor .u8 x y = z at *
  rw [u8_or v z hv.1 hv.2 h.1 h.2]
  have hl := Nat.or_lt_two_pow (x := v.toNat) (y := z.toNat) (n := 8) (by omega) (by omega)
  refine ⟨by omega, by omega, ?_⟩
  rw [← hz]
  have h0 := Nat.or_eq_zero_iff (n := v.toNat) (m := z.toNat)
  constructor
  · intro e
    have := h0.1 (by omega)
    omega
  · rintro ⟨rfl, rfl⟩
    rfl
theorem same_iff {xs ys : List Int} : xs = ys ↔ xs.length = ys.length ∧ ∀ j, j < max xs.length ys.length → xs.getD j 0 = ys.getD j 0 := by
  constructor
  · rintro rfl; exact ⟨rfl, fun _ _ => rfl⟩
  · rintro ⟨hl, h⟩
    refine List.ext_getElem hl fun j h1 h2 => ?_
    have := h j (by omega)
    simpa [List.getD, List.getElem?_eq_getElem h1, List.getElem?_eq_getElem h2] using this
theorem eqN (m n : Nat) : ((m : Int) == (n : Int)) = decide (m = n) := by
  rw [Bool.eq_iff_iff]; simp; omega
set_option maxRecDepth 100000 in
set_option maxHeartbeats 1000000 in
theorem same_any (A D : Option Addr) (m c n d : Nat) (xs ys : List Int) (w : World) (hx : Bs w w.heap.size A m xs) (hy : Bs w w.heap.size D n ys) (hxb : IsBy xs) (hyb : IsBy ys) (hM : m ≤ maxLen) (hN : n ≤ maxLen) :
    Calls Tryz.prog 34 #[.slice A m c, .slice D n d] w fun e w' => e = .returned (.bool (decide (xs = ys))) ∧ w = w' := by
  have h1 := hx.1
  have h2 := hy.1
  have hA := fun i => byteAt_any A m c i xs w hx
  have hD := fun i => byteAt_any D n d i ys w hy
  have hs := same_iff (xs := xs) (ys := ys)
  rw [h1, h2] at hs
  have hmx : max m n ≤ maxLen := by omega
  have HS := hide hs
  have h63 : m ≤ 9223372036854775807 := by unfold maxLen at hM; omega
  have n63 : n ≤ 9223372036854775807 := by unfold maxLen at hN; omega
  clear hs h1 h2 hx hy
  go_enter Tryz.func34, Tryz.ntmps34
  go_wp2_with fail
  · have hq : max m n = n := by omega
    rw [hq] at HS
    go_loopw [5, 12] (fun v i wr => ∃ (k : Nat) (x : Int), k ≤ n ∧ i = .int .i64 k ∧ v = .int .u8 x ∧ (0 ≤ x ∧ x < 256) ∧ (x = 0 ↔ ∀ j, j < k → xs.getD j 0 = ys.getD j 0) ∧ w = wr) (fun _ i _ => n - (intOf i).toNat)
    case atStart => exact ⟨0, 0, Nat.zero_le _, rfl, rfl, ⟨by omega, by omega⟩, by simp, rfl⟩
    case round =>
      obtain ⟨k, x, hk, rfl, rfl, hx, hxi, rfl⟩ := hrel
      by_cases hlt : k < n
      · have G := gather hx (by_getD xs hxb k) (by_getD ys hyb k)
        have hnext : bits .or .u8 x (bits .xor .u8 (xs.getD k 0) (ys.getD k 0)) = 0 ↔ ∀ j, j < k + 1 → xs.getD j 0 = ys.getD j 0 := by
          rw [G.2.2, hxi]
          constructor
          · rintro ⟨h1, h2⟩ j hj
            by_cases hjk : j = k
            · subst hjk; exact h2
            · exact h1 j (by omega)
          · intro h
            exact ⟨fun j hj => h j (by omega), h k (by omega)⟩
        have GG := hide (And.intro (And.intro G.1 G.2.1) hnext)
        clear G hnext hxi hq
        go_wp2_with fail
        refine (hA k).mono ?_
        rintro e w1 ⟨rfl, rfl⟩
        go_wp2_with fail
        refine (hD k).mono ?_
        rintro e w1 ⟨rfl, rfl⟩
        go_wp2
        go_roundw
        case rel => exact ⟨k + 1, _, by omega, by go_num, rfl, GG.out.1, GG.out.2, trivial⟩
        case measure => simp [intOf]; omega
      · have hkQ : n = k := by omega
        subst hkQ
        have hs := HS.out
        rw [← hxi] at hs
        have hd : decide (xs = ys) = (decide (x = 0) && decide (m = n)) := by
          rw [Bool.eq_iff_iff]
          simp only [decide_eq_true_eq, Bool.and_eq_true]
          rw [hs]
          exact And.comm
        have HDD := hide hd
        clear hd hs hxi HS hq
        go_wp2
        all_goals go_ret
        all_goals (rw [HDD.out])
        · have h0 : x = 0 := by assumption
          refine ⟨congrArg (fun b => Ending.returned (Value.bool b)) ?_, rfl⟩
          rw [decide_eq_true h0, Bool.true_and]
          exact eqN m n
        · have h0 : ¬ x = 0 := by assumption
          refine ⟨congrArg (fun b => Ending.returned (Value.bool b)) ?_, rfl⟩
          rw [decide_eq_false h0, Bool.false_and]
  · have hq : max m n = m := by omega
    rw [hq] at HS
    go_loopw [5, 12] (fun v i wr => ∃ (k : Nat) (x : Int), k ≤ m ∧ i = .int .i64 k ∧ v = .int .u8 x ∧ (0 ≤ x ∧ x < 256) ∧ (x = 0 ↔ ∀ j, j < k → xs.getD j 0 = ys.getD j 0) ∧ w = wr) (fun _ i _ => m - (intOf i).toNat)
    case atStart => exact ⟨0, 0, Nat.zero_le _, rfl, rfl, ⟨by omega, by omega⟩, by simp, rfl⟩
    case round =>
      obtain ⟨k, x, hk, rfl, rfl, hx, hxi, rfl⟩ := hrel
      by_cases hlt : k < m
      · have G := gather hx (by_getD xs hxb k) (by_getD ys hyb k)
        have hnext : bits .or .u8 x (bits .xor .u8 (xs.getD k 0) (ys.getD k 0)) = 0 ↔ ∀ j, j < k + 1 → xs.getD j 0 = ys.getD j 0 := by
          rw [G.2.2, hxi]
          constructor
          · rintro ⟨h1, h2⟩ j hj
            by_cases hjk : j = k
            · subst hjk; exact h2
            · exact h1 j (by omega)
          · intro h
            exact ⟨fun j hj => h j (by omega), h k (by omega)⟩
        have GG := hide (And.intro (And.intro G.1 G.2.1) hnext)
        clear G hnext hxi hq
        go_wp2_with fail
        refine (hA k).mono ?_
        rintro e w1 ⟨rfl, rfl⟩
        go_wp2_with fail
        refine (hD k).mono ?_
        rintro e w1 ⟨rfl, rfl⟩
        go_wp2
        go_roundw
        case rel => exact ⟨k + 1, _, by omega, by go_num, rfl, GG.out.1, GG.out.2, trivial⟩
        case measure => simp [intOf]; omega
      · have hkQ : m = k := by omega
        subst hkQ
        have hs := HS.out
        rw [← hxi] at hs
        have hd : decide (xs = ys) = (decide (x = 0) && decide (m = n)) := by
          rw [Bool.eq_iff_iff]
          simp only [decide_eq_true_eq, Bool.and_eq_true]
          rw [hs]
          exact And.comm
        have HDD := hide hd
        clear hd hs hxi HS hq
        go_wp2
        all_goals go_ret
        all_goals (rw [HDD.out])
        · have h0 : x = 0 := by assumption
          refine ⟨congrArg (fun b => Ending.returned (Value.bool b)) ?_, rfl⟩
          rw [decide_eq_true h0, Bool.true_and]
          exact eqN m n
        · have h0 : ¬ x = 0 := by assumption
          refine ⟨congrArg (fun b => Ending.returned (Value.bool b)) ?_, rfl⟩
          rw [decide_eq_false h0, Bool.false_and]
end Go.Proofs.YtooooncmjhcdbaaGreatDoor

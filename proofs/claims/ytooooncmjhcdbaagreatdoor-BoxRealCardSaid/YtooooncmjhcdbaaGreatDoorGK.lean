/-
  Several own texts in one: ShaP1, ShaP2, KeyP, KeyA, KeyB, KeyC, KeyD, KeyE, KeyG, KeyT. Own work.
-/
import Derived.Laws.StructEq
import Derived.Laws.ResultCell
import Derived.Test.YtooooncmjhcdbaaGreatDoorRows
import Derived.LaidMore
import Derived.Deep.Strs
import Derived.ChangeSame
import Derived.Test.YtooooncmjhcdbaaGreatDoorGA
set_option linter.unusedVariables false
set_option linter.unusedSimpArgs false
/-
  Pack for SHA-256: numbers laid, bytes joined: contracts. Own work.
-/
namespace Go.Proofs.YtooooncmjhcdbaaGreatDoor
open Go.RowKit
set_option maxRecDepth 100000 in
set_option maxHeartbeats 400000 in
theorem len64_32 (w : World) : Calls Tryz.prog 78 #[.int .u64 4294967295] w fun e w' => e = .returned (.int .i64 32) ∧ w = w' := by
  go_enter Tryz.func78, Tryz.ntmps78
  go_wp2
  go_ret
  exact ⟨by kernel_rfl, rfl⟩
set_option maxRecDepth 100000 in
set_option maxHeartbeats 400000 in
theorem len64_64 (w : World) : Calls Tryz.prog 78 #[.int .u64 18446744073709551615] w fun e w' => e = .returned (.int .i64 64) ∧ w = w' := by
  go_enter Tryz.func78, Tryz.ntmps78
  go_wp2
  go_ret
  exact ⟨by kernel_rfl, rfl⟩
set_option maxRecDepth 100000 in
theorem width32_any (w : World) : Calls Tryz.prog 80 #[] w fun e w' => e = .returned (.int .i64 4) ∧ w = w' := by
  go_enter Tryz.func80, Tryz.ntmps80
  go_wp2_with (go_at_call 78; refine (len64_32 _).mono ?_; rintro e w' ⟨rfl, rfl⟩)
  go_ret
  exact ⟨rfl, rfl⟩
set_option maxRecDepth 100000 in
theorem width64_any (w : World) : Calls Tryz.prog 65 #[] w fun e w' => e = .returned (.int .i64 8) ∧ w = w' := by
  go_enter Tryz.func65, Tryz.ntmps65
  go_wp2_with (go_at_call 78; refine (len64_64 _).mono ?_; rintro e w' ⟨rfl, rfl⟩)
  go_ret
  exact ⟨rfl, rfl⟩
set_option maxHeartbeats 400000 in
set_option maxRecDepth 100000 in
theorem lay32_high (A : Option Addr) (m c : Nat) (xs : List Int) (x : Int) (w : World) (h : Bs w w.heap.size A m xs) (hm : m ≤ 1000000) (h0 : 0 ≤ x) (h1 : x < 2 ^ 32) :
    Calls Tryz.prog 70 #[.slice A m c, .int .u32 x, .bool false] w (RetBs (xs ++ highB x 4) w) := by
  obtain ⟨i0, hi, hz, hsz, hby⟩ := u8_info
  go_enter Tryz.func70, Tryz.ntmps70
  go_wp2_with (first
    | (go_at_call 80; refine (width32_any _).mono ?_; rintro e w' ⟨rfl, rfl⟩)
    | (refine wpList_make_bs rfl _ _ _ rfl 5 i0 Tryz.underlying25 hi hz hsz hby (m + 4) rfl rfl (by omega) ?_; intro w1 hown hs1 hb1)
    | (refine wpList_copy_bs rfl (.tmp 17) (.tmp 18) _ _ rfl 5 Tryz.underlying25 u8_size w.heap.size 0 _ _ m c A rfl rfl _ xs 5 w.heap.size hown (h.below hb1) (by omega) (by rw [List.length_replicate]; omega) w.heap.size w hb1 (Nat.le_refl _) ?_; intro w2 hown2 hb2))
  go_loopw [21] (fun i wr => ∃ k : Nat, k ≤ 4 ∧ i = .int .i64 k ∧ Own wr 5 w.heap.size (xs ++ (List.replicate (4 - k) 0 ++ highB x k)) ∧ Below w.heap.size w wr) (fun i _ => 4 - (intOf i).toNat)
  case atStart => exact ⟨0, Nat.zero_le _, rfl, by simpa [highB, lowB, h.1] using hown2, hb2⟩
  case round =>
    obtain ⟨k, hk, rfl, hown, hb⟩ := hrel
    by_cases hlt : k < 4
    · have hc := hown.cell (j := m + 3 - k) (by simp [highB_length, h.1]; omega)
      have hf := hown.frozen (m + 3 - k)
      have hs := hown.set (m + 3 - k) (x / 2 ^ (8 * k) % 256)
      have he := set_high hlt (highB x k) (x / 2 ^ (8 * k) % 256) xs
      rw [h.1, show m + (4 - 1 - k) = m + 3 - k from by omega] at he
      rw [he, ← pow256_two, ← highB_cons, pow256_two] at hs
      have HS := hide hs
      clear hs he
      go_wp2
      go_roundw
      case rel => exact ⟨k + 1, by omega, by go_num, HS.out, hb.setCell (Nat.le_refl _) _⟩
      case measure => simp [intOf]; omega
    · go_wp2
      go_ret
      obtain rfl : k = 4 := by omega
      exact ret_own hown hb (by simp) (by simp [highB_length, h.1]) (Nat.le_refl _) (by simp only [maxLen]; omega)
set_option maxHeartbeats 400000 in
set_option maxRecDepth 100000 in
theorem lay64_high (A : Option Addr) (m c : Nat) (xs : List Int) (x : Int) (w : World) (h : Bs w w.heap.size A m xs) (hm : m ≤ 1000000) (h0 : 0 ≤ x) (h1 : x < 2 ^ 64) :
    Calls Tryz.prog 51 #[.slice A m c, .int .u64 x, .bool false] w (RetBs (xs ++ highB x 8) w) := by
  obtain ⟨i0, hi, hz, hsz, hby⟩ := u8_info
  go_enter Tryz.func51, Tryz.ntmps51
  go_wp2_with (first
    | (go_at_call 65; refine (width64_any _).mono ?_; rintro e w' ⟨rfl, rfl⟩)
    | (refine wpList_make_bs rfl _ _ _ rfl 5 i0 Tryz.underlying25 hi hz hsz hby (m + 8) rfl rfl (by omega) ?_; intro w1 hown hs1 hb1)
    | (refine wpList_copy_bs rfl (.tmp 17) (.tmp 18) _ _ rfl 5 Tryz.underlying25 u8_size w.heap.size 0 _ _ m c A rfl rfl _ xs 5 w.heap.size hown (h.below hb1) (by omega) (by rw [List.length_replicate]; omega) w.heap.size w hb1 (Nat.le_refl _) ?_; intro w2 hown2 hb2))
  go_loopw [21] (fun i wr => ∃ k : Nat, k ≤ 8 ∧ i = .int .i64 k ∧ Own wr 5 w.heap.size (xs ++ (List.replicate (8 - k) 0 ++ highB x k)) ∧ Below w.heap.size w wr) (fun i _ => 8 - (intOf i).toNat)
  case atStart => exact ⟨0, Nat.zero_le _, rfl, by simpa [highB, lowB, h.1] using hown2, hb2⟩
  case round =>
    obtain ⟨k, hk, rfl, hown, hb⟩ := hrel
    by_cases hlt : k < 8
    · have hc := hown.cell (j := m + 7 - k) (by simp [highB_length, h.1]; omega)
      have hf := hown.frozen (m + 7 - k)
      have hs := hown.set (m + 7 - k) (x / 2 ^ (8 * k) % 256)
      have he := set_high hlt (highB x k) (x / 2 ^ (8 * k) % 256) xs
      rw [h.1, show m + (8 - 1 - k) = m + 7 - k from by omega] at he
      rw [he, ← pow256_two, ← highB_cons, pow256_two] at hs
      have HS := hide hs
      clear hs he
      go_wp2
      go_roundw
      case rel => exact ⟨k + 1, by omega, by go_num, HS.out, hb.setCell (Nat.le_refl _) _⟩
      case measure => simp [intOf]; omega
    · go_wp2
      go_ret
      obtain rfl : k = 8 := by omega
      exact ret_own hown hb (by simp) (by simp [highB_length, h.1]) (Nat.le_refl _) (by simp only [maxLen]; omega)
set_option maxRecDepth 100000 in
theorem put32_any (A : Option Addr) (m c : Nat) (xs : List Int) (x : Int) (w : World) (h : Bs w w.heap.size A m xs) (hm : m ≤ 1000000) (h0 : 0 ≤ x) (h1 : x < 2 ^ 32) :
    Calls Tryz.prog 89 #[.slice A m c, .int .u32 x] w (RetBs (xs ++ highB x 4) w) := by
  go_enter Tryz.func89, Tryz.ntmps89
  go_wp2_with (go_at_call 70; refine (lay32_high A m c xs x _ h hm h0 h1).mono ?_; rintro e w1 ⟨A1, n1, c1, rfl, hb, hn, hc, hl⟩)
  go_ret
  exact ⟨A1, n1, c1, rfl, hb, hn, hc, hl⟩
set_option maxRecDepth 100000 in
theorem put64_any (A : Option Addr) (m c : Nat) (xs : List Int) (x : Int) (w : World) (h : Bs w w.heap.size A m xs) (hm : m ≤ 1000000) (h0 : 0 ≤ x) (h1 : x < 2 ^ 64) :
    Calls Tryz.prog 40 #[.slice A m c, .int .u64 x] w (RetBs (xs ++ highB x 8) w) := by
  go_enter Tryz.func40, Tryz.ntmps40
  go_wp2_with (go_at_call 51; refine (lay64_high A m c xs x _ h hm h0 h1).mono ?_; rintro e w1 ⟨A1, n1, c1, rfl, hb, hn, hc, hl⟩)
  go_ret
  exact ⟨A1, n1, c1, rfl, hb, hn, hc, hl⟩
set_option maxHeartbeats 800000 in
set_option maxRecDepth 100000 in
theorem join_any (A : Option Addr) (m c : Nat) (xss : List (List Int)) (w : World) (h : Bss w w.heap.size A m xss) (hm : m ≤ 1000000) (hs : sumLen xss m ≤ 140737488355328) :
    Calls Tryz.prog 33 #[.slice A m c] w (RetBs xss.flatten w) := by
  obtain ⟨i0, hi, hz, hsz, hby⟩ := u8_info
  have hlen := h.1
  have HL := hide hlen
  clear hlen
  go_enter Tryz.func33, Tryz.ntmps33
  go_wp2
  go_loop [3, 11] (fun s i => ∃ k : Nat, k ≤ m ∧ i = .int .i64 k ∧ s = .int .i64 (sumLen xss k)) (fun _ i => m - (intOf i).toNat)
  case atStart => exact ⟨0, Nat.zero_le _, rfl, rfl⟩
  case round =>
    obtain ⟨k, hk, rfl, rfl⟩ := hrel
    have hle := sumLen_le xss k
    rw [HL.out] at hle
    by_cases hlt : k < m
    · obtain ⟨b, o, rfl, hb, hc⟩ := h.2 (by omega)
      obtain ⟨A', n', c', hcell, hbs⟩ := hc k hlt
      have hsu := sumLen_succ xss k (by rw [HL.out]; exact hlt)
      rw [hbs.1] at hsu
      have hle2 := sumLen_le xss (k + 1)
      rw [HL.out] at hle2
      have hb2 : sumLen xss k + n' ≤ 140737488355328 := by omega
      have HS := hide hsu
      clear hsu hle2 hc
      go_wp2
      go_round
      case rel => exact ⟨k + 1, by omega, by go_num, by rw [HS.out]; go_num⟩
      case measure => simp [intOf]; omega
    · obtain rfl : k = m := by omega
      go_wp2_with (refine wpList_make0_bs rfl _ _ _ rfl 5 i0 Tryz.underlying25 hi hz hsz hby (sumLen xss k) rfl rfl hs ?_; intro w1 hown1 hb1)
      go_loopw [6, 24] (fun v i wr => ∃ j : Nat, j ≤ k ∧ i = .int .i64 j ∧ wr.ownsRow w.heap.size 5 1 v (sumLen xss j) (bv (xss.take j).flatten) ∧ Below w.heap.size w wr) (fun _ i _ => k - (intOf i).toNat)
      case atStart => exact ⟨0, Nat.zero_le _, rfl, by simpa [sumLen] using hown1, hb1⟩
      case round =>
        obtain ⟨j, hj, rfl, hown, hbr⟩ := hrel
        by_cases hjl : j < k
        · obtain ⟨b, o, rfl, hb, hc⟩ := h.2 (by omega)
          obtain ⟨A', n', c', hcell, hbs⟩ := hc j hjl
          have hcell' := (hbr.cell (p := ⟨b, o + j, none⟩) hb).trans hcell
          have hsu := sumLen_succ xss j (by rw [HL.out]; exact hjl)
          have htf := take_flat xss j (by rw [HL.out]; exact hjl)
          rw [hbs.1] at hsu
          have hle2 := sumLen_le xss (j + 1)
          rw [HL.out] at hle2
          have hb2 : sumLen xss j + n' ≤ 140737488355328 := by omega
          have HS := hide hsu
          have HT := hide htf
          clear hsu htf hle2 hc hcell
          go_wp2_with (at_builtin; refine wpList_append_bs rfl (.tmp 28) (.tmp 29) _ rfl w.heap.size 5 i0 Tryz.underlying25 hi hz hsz hby _ (sumLen xss j) (xss.take j).flatten rfl hown w.heap.size A' n' c' (xss.getD j []) rfl (hbs.below hbr) hb2 hbr.size ?_; intro v1 w2 hown1 hg1)
          have hb3 := grown_below hbr hown (Nat.le_refl _) hg1
          go_roundw
          case rel => exact ⟨j + 1, by omega, by go_num, by rw [HS.out, HT.out]; exact hown1, hb3⟩
          case measure => simp [intOf]; omega
        · obtain rfl : j = k := by omega
          go_wp2
          go_ret
          exact ret_owns hown hbr (by rw [List.take_of_length_le (by rw [HL.out]; exact Nat.le_refl _)])
end Go.Proofs.YtooooncmjhcdbaaGreatDoor

/-
  Structs behind a pointer that a call writes; the reader of pack: a contract each. Own work.
-/
namespace Go.Proofs.YtooooncmjhcdbaaGreatDoor
open Go.RowKit

/-- Block g of w is just the cells cs, of element type t; none is frozen. -/
def Blk (w : World) (g : Nat) (t : TypeId) (cs : Array Value) : Prop := w.heap[g]? = some (.cells cs t (0, 0))
section
variable {w w' w'' : World} {g t : Nat} {cs : Array Value}
set_option maxRecDepth 100000 in
theorem Blk.cell (h : Blk w g t cs) (i : Nat) : w.cell? ⟨g, i, none⟩ = cs[i]? := cell_of_row w g i cs t (0, 0) h
theorem Blk.frozen (h : Blk w g t cs) (i : Nat) : w.frozen? ⟨g, i, none⟩ = false := frozen_of_row w g i cs t h
set_option maxRecDepth 100000 in
theorem Blk.set (h : Blk w g t cs) (i : Nat) (u : Value) : Blk (w.setCell ⟨g, i, none⟩ u) g t (cs.setIfInBounds i u) := heap_setCell_same w g i cs t u h
theorem Blk.lt (h : Blk w g t cs) : g < w.heap.size := by
  rcases Nat.lt_or_ge g w.heap.size with h1 | h1
  · exact h1
  · unfold Blk at h; rw [Array.getElem?_eq_none h1] at h; cases h
set_option maxRecDepth 100000 in
theorem Blk.grown (h : Blk w g t cs) {r : Option Nat} (hg : w.grownBy w' r) (hr : some g ≠ r) : Blk w' g t cs := (hg.block g h.lt hr).trans h
theorem Blk.below (h : Blk w g t cs) {B : Nat} (hb : Below B w w') (hg : g < B) : Blk w' g t cs := (hb.block g hg).trans h
set_option maxRecDepth 100000 in
theorem grown_refl (w : World) (r : Option Nat) : w.grownBy w r := ⟨rfl, rfl, rfl, Nat.le_refl _, fun _ _ _ => rfl⟩
theorem grown_trans {r : Option Nat} (h : w.grownBy w' r) (k : w'.grownBy w'' r) : w.grownBy w'' r :=
  ⟨k.os.trans h.os, k.tape.trans h.tape, k.output.trans h.output, Nat.le_trans h.size k.size, fun i hi hr => (k.block i (Nat.lt_of_lt_of_le hi h.size) hr).trans (h.block i hi hr)⟩
set_option maxRecDepth 100000 in
theorem grown_set (w : World) (g i : Nat) (u : Value) : w.grownBy (w.setCell ⟨g, i, none⟩ u) (some g) :=
  ⟨rfl, rfl, rfl, by simp [World.setCell], fun k _ hk => heap_setCell_other w ⟨g, i, none⟩ k u (fun e => hk (by rw [e]))⟩
set_option maxRecDepth 100000 in
theorem grown_of_below {r : Option Nat} (h : Below w.heap.size w w') : w.grownBy w' r := ⟨h.os, h.tape, h.output, h.size, fun k hk _ => h.block k hk⟩
theorem below_of_grown {B : Nat} (h : w.grownBy w' (some g)) (hB : B ≤ g) (hw : B ≤ w.heap.size) : Below B w w' :=
  ⟨h.os, h.tape, h.output, h.size, fun k hk => h.block k (by omega) (fun e => by injection e; omega)⟩
end

/-- The slice '.slice A n c' reads as the bytes xs, in a block from lo on and below hi. -/
def Sp (w : World) (lo hi : Nat) (A : Option Addr) (n : Nat) (xs : List Int) : Prop :=
  xs.length = n ∧ (0 < n → ∃ b o, A = some ⟨b, o, none⟩ ∧ lo ≤ b ∧ b < hi ∧ ∀ j, j < n → w.cell? ⟨b, o + j, none⟩ = some (.int .u8 (xs.getD j 0)))
section
variable {w w' : World} {lo hi n : Nat} {A : Option Addr} {xs : List Int}
set_option maxRecDepth 100000 in
theorem Sp.nil_ : Sp w lo hi A 0 [] := ⟨rfl, fun h => absurd h (by omega)⟩
theorem Sp.bs (h : Sp w lo hi A n xs) : Bs w hi A n xs := ⟨h.1, fun h0 => let ⟨b, o, e, _, h2, hc⟩ := h.2 h0; ⟨b, o, e, h2, hc⟩⟩
set_option maxRecDepth 100000 in
theorem Sp.lt_size (h : Sp w lo hi A n xs) : Bs w w.heap.size A n xs := ⟨h.1, fun h0 => let ⟨b, o, e, _, _, hc⟩ := h.2 h0; ⟨b, o, e, block_lt_of_cell (hc 0 h0), hc⟩⟩
theorem Sp.grown (h : Sp w lo hi A n xs) {g : Nat} (hg : w.grownBy w' (some g)) (hr : g < lo ∨ hi ≤ g) : Sp w' lo hi A n xs :=
  ⟨h.1, fun h0 => let ⟨b, o, e, h1, h2, hc⟩ := h.2 h0; ⟨b, o, e, h1, h2, fun j hj => by
    rw [World.cell?_of_block (hg.block b (block_lt_of_cell (hc 0 h0)) (fun e => by injection e; omega))]; exact hc j hj⟩⟩
set_option maxRecDepth 100000 in
theorem Sp.take (h : Sp w lo hi A n xs) {k : Nat} (hk : k ≤ n) : Sp w lo hi A k (xs.take k) :=
  ⟨by simp [h.1]; omega, fun h0 => let ⟨b, o, e, h1, h2, hc⟩ := h.2 (by omega); ⟨b, o, e, h1, h2, fun j hj => by rw [hc j (by omega)]; simp [List.getD, hj]⟩⟩
set_option maxRecDepth 100000 in
theorem Sp.drop (h : Sp w lo hi A n xs) {k c : Nat} (hk : k ≤ n) (hc : n ≤ c) : Sp w lo hi (if c = k then A else A.map (·.add k)) (n - k) (xs.drop k) := by
  refine ⟨by simp [h.1], fun h0 => ?_⟩
  obtain ⟨b, o, rfl, h1, h2, hcell⟩ := h.2 (by omega)
  rw [if_neg (by omega)]
  refine ⟨b, o + k, by simp [addr_plain], h1, h2, fun j hj => ?_⟩
  rw [Nat.add_assoc, hcell (k + j) (by omega)]
  simp [List.getD]
end

set_option maxRecDepth 100000 in
theorem ret_owns_new {w w1 : World} {base e n : Nat} {v : Value} {xs ys : List Int} (h : w1.ownsRow base e 1 v n (bv xs)) (hb : Below w.heap.size w w1) (hbase : w.heap.size ≤ base) (he : ys = xs) :
    ∃ A n c, v = .slice A n c ∧ Sp w1 w.heap.size w1.heap.size A n ys ∧ n ≤ c ∧ c ≤ maxLen ∧ Below w.heap.size w w1 := by
  subst he
  obtain ⟨A, c, hv, h1, h2, h3⟩ := ownsRow_bs h
  refine ⟨A, n, c, hv, ⟨h1.1, fun h0 => ?_⟩, h2, h3, hb⟩
  obtain ⟨b, o, rfl, hlt, hc⟩ := h1.2 h0
  exact ⟨b, o, rfl, Nat.le_trans hbase (h.lt b (by rw [hv]; rfl)).1, hlt, hc⟩
set_option maxRecDepth 100000 in
/-- A copy is new memory. -/
theorem clone_new (A : Option Addr) (n c : Nat) (xs : List Int) (w : World) (h : Bs w w.heap.size A n xs) (hn : n ≤ 140737488355328) :
    Calls Tryz.prog 24 #[.slice A n c] w fun e w' => ∃ A n c, e = .returned (.slice A n c) ∧ Sp w' w.heap.size w'.heap.size A n xs ∧ n ≤ c ∧ c ≤ maxLen ∧ Below w.heap.size w w' := by
  have q : ∀ (w : World) (a : Option Addr) (n c n' c' : Nat), (binOp .eql 25 (.slice a n c) (.slice none n' c')).run Tryz.prog w = .ok (.bool a.isNone) w := fun w a n c n' c' => Lib.run_eql_slice_nil w _ _ a n c n' c' Tryz.underlying25
  obtain ⟨i0, hi, hz, hsz, hby⟩ := u8_info
  rcases A with _ | ad
  · have h0 : n = 0 := by
      rcases Nat.eq_zero_or_pos n with h0 | h0
      · exact h0
      · obtain ⟨_, _, h, _⟩ := h.2 h0; cases h
    subst h0
    obtain rfl : xs = [] := List.eq_nil_of_length_eq_zero h.1
    go_enter Tryz.func24, Tryz.ntmps24
    go_wp2
    go_ret
    exact ⟨none, 0, 0, rfl, Sp.nil_, Nat.le_refl _, by simp, Below.refl _ _⟩
  · have hown := World.ownsRow_lit (base := w.heap.size) (e := 5) (size := 1) w #[] 0 (Nat.le_refl _) (by simp) rfl
    go_enter Tryz.func24, Tryz.ntmps24
    go_wp2_with (at_builtin; refine wpList_append_bs rfl (.tmp 5) (.tmp 6) _ rfl w.heap.size 5 i0 Tryz.underlying25 hi hz hsz hby (.slice (some ⟨w.heap.size, 0, none⟩) 0 0) 0 [] rfl hown w.heap.size (some ad) n c xs rfl (h.below ((Below.refl _ _).alloc (Nat.le_refl _) _)) (by omega) (by simp) ?_; intro v1 w1 hown1 hg1)
    go_ret
    obtain ⟨A1, n1, c1, rfl, h2, h3, h4, h5⟩ := ret_owns_new hown1 (grown_below ((Below.refl _ _).alloc (Nat.le_refl _) _) hown (Nat.le_refl _) hg1) (Nat.le_refl _) rfl
    exact ⟨A1, n1, c1, rfl, by simpa using h2, h3, h4, h5⟩

/-- The reader in block g: what is left, and its error. -/
def Rd (w : World) (lo g : Nat) (xs : List Int) (e : Int) : Prop :=
  ∃ A n c, lo ≤ g ∧ Blk w g 167 #[.bool true, .slice A n c, .int .i64 e] ∧ Sp w lo g A n xs ∧ n ≤ c ∧ (c ≤ 9223372036854775807 ∧ n ≤ 140737488355328) ∧ (e ≠ 0 → xs = [])

set_option maxRecDepth 100000 in
theorem Rd.grown {w w' : World} {lo g g' : Nat} {xs : List Int} {e : Int} (h : Rd w lo g xs e) (hg : w.grownBy w' (some g')) (hne : g' < lo ∨ g < g') : Rd w' lo g xs e := by
  obtain ⟨A, n, c, h0, h1, h2, h3, h4, h5⟩ := h
  exact ⟨A, n, c, h0, h1.grown hg (by intro e; injection e with e; omega), h2.grown hg (by omega), h3, h4, h5⟩

set_option maxRecDepth 100000 in
theorem err_any {lo g : Nat} {xs : List Int} {e : Int} (w : World) (h : Rd w lo g xs e) : Calls Tryz.prog 102 #[.pointer (some ⟨g, 0, none⟩)] w fun en w' => en = .returned (.int .i64 e) ∧ w = w' := by
  obtain ⟨A, n, c, _, hb, _⟩ := h
  have c0 := hb.cell 0
  have c2 := hb.cell 2
  simp only [List.getElem?_toArray, List.getElem?_cons_zero, List.getElem?_cons_succ] at c0 c2
  clear hb
  go_enter Tryz.func102, Tryz.ntmps102
  go_wp2
  go_ret
  exact ⟨rfl, rfl⟩
set_option maxRecDepth 100000 in
theorem left_any {lo g : Nat} {xs : List Int} {e : Int} (w : World) (h : Rd w lo g xs e) : Calls Tryz.prog 100 #[.pointer (some ⟨g, 0, none⟩)] w fun en w' => en = .returned (.int .i64 xs.length) ∧ w = w' := by
  obtain ⟨A, n, c, _, hb, hs, _⟩ := h
  have c1 := hb.cell 1
  simp only [List.getElem?_toArray, List.getElem?_cons_zero, List.getElem?_cons_succ] at c1
  rw [hs.1]
  clear hb hs
  go_enter Tryz.func100, Tryz.ntmps100
  go_wp2
  go_ret
  exact ⟨rfl, rfl⟩
set_option maxRecDepth 100000 in
theorem fail_old {lo g : Nat} {xs : List Int} {e : Int} (w : World) (h : Rd w lo g xs e) (he : e ≠ 0) (code : Int) :
    Calls Tryz.prog 101 #[.pointer (some ⟨g, 0, none⟩), .int .i64 code] w fun en w' => en = .returned (.tuple #[]) ∧ w = w' := by
  have hd : (e == 0) = false := beq_eq_false_iff_ne.2 he
  go_enter Tryz.func101, Tryz.ntmps101
  go_wp2_with (go_at_call 102; refine (err_any _ h).mono ?_; rintro e w' ⟨rfl, rfl⟩)
  go_end0
  exact ⟨rfl, rfl⟩
set_option maxRecDepth 100000 in
theorem fail_new {lo g : Nat} {xs : List Int} (w : World) (h : Rd w lo g xs 0) (code : Int) :
    Calls Tryz.prog 101 #[.pointer (some ⟨g, 0, none⟩), .int .i64 code] w fun en w' => en = .returned (.tuple #[]) ∧ Rd w' lo g [] code ∧ w.grownBy w' (some g) := by
  have h' := hide h
  obtain ⟨A, n, c, hlo, hb, hs, _⟩ := h
  have c1 := hb.cell 1
  have c2 := hb.cell 2
  simp only [List.getElem?_toArray, List.getElem?_cons_zero, List.getElem?_cons_succ] at c1 c2
  have f1 := hb.frozen 1
  have f2 := hb.frozen 2
  have HB := hide hb
  clear hb
  go_enter Tryz.func101, Tryz.ntmps101
  go_wp2_with (go_at_call 102; refine (err_any _ h'.out).mono ?_; rintro e w' ⟨rfl, rfl⟩)
  go_end0
  exact ⟨rfl, ⟨none, 0, 0, hlo, (HB.out.set 2 _).set 1 _, Sp.nil_, Nat.le_refl _, ⟨by omega, by omega⟩, fun _ => rfl⟩, grown_trans (grown_set _ _ _ _) (grown_set _ _ _ _)⟩

/-- What a reader tells of the next n bytes, what is left behind, and the error. -/
def tk (n : Nat) (xs : List Int) (e : Int) : List Int × List Int × Int := if e ≠ 0 then ([], xs, e) else if xs.length < n then ([], [], 4) else (xs.take n, xs.drop n, 0)

/-- What a call on the reader in block g leaves. -/
def TkPost (w : World) (lo g : Nat) (r : List Int × List Int × Int) (en : Ending) (w' : World) : Prop :=
  ∃ A n c, en = .returned (.slice A n c) ∧ Sp w' lo g A n r.1 ∧ n ≤ 140737488355328 ∧ Rd w' lo g r.2.1 r.2.2 ∧ w.grownBy w' (some g)

set_option maxHeartbeats 400000 in
set_option maxRecDepth 100000 in
theorem take_any {lo g : Nat} {xs : List Int} {e : Int} (w : World) (h : Rd w lo g xs e) (n : Nat) (hn : n ≤ 4294967296) :
    Calls Tryz.prog 99 #[.pointer (some ⟨g, 0, none⟩), .int .i64 (n : Int)] w (TkPost w lo g (tk n xs e)) := by
  have h' := hide h
  obtain ⟨A, m, c, hlo, hb, hs, hmc, ⟨hc, hm47⟩, he0⟩ := h
  by_cases he : e = 0
  · subst he
    by_cases hlt : xs.length < n
    · have ht : tk n xs 0 = ([], [], 4) := by simp [tk, hlt]
      rw [ht]
      have hi : (xs.length : Int) < (n : Int) := by omega
      clear hb
      go_enter Tryz.func99, Tryz.ntmps99
      go_wp2_with (first
        | (go_at_call 100; refine (left_any _ h'.out).mono ?_; rintro e w' ⟨rfl, rfl⟩)
        | (go_at_call 101; refine (fail_new _ h'.out 4).mono ?_; rintro e w1 ⟨rfl, hr, hg⟩; have hR := hide hr; clear hr)
        | (go_at_call 102; refine (err_any _ hR.out).mono ?_; rintro e w' ⟨rfl, rfl⟩))
      go_ret
      exact ⟨none, 0, 0, rfl, Sp.nil_, by omega, hR.out, hg⟩
    · have ht : tk n xs 0 = (xs.take n, xs.drop n, 0) := by simp [tk, hlt]
      rw [ht]
      have hle : n ≤ m := by have := hs.1; omega
      have hi : ¬ (xs.length : Int) < (n : Int) := by omega
      have c1 := hb.cell 1
      have f1 := hb.frozen 1
      simp only [List.getElem?_toArray, List.getElem?_cons_zero, List.getElem?_cons_succ] at c1
      have HB := hide hb
      clear hb
      go_enter Tryz.func99, Tryz.ntmps99
      go_wp2_with (first
        | (go_at_call 100; refine (left_any _ h'.out).mono ?_; rintro e w' ⟨rfl, rfl⟩)
        | (go_at_call 102; refine (err_any _ h'.out).mono ?_; rintro e w' ⟨rfl, rfl⟩))
      · go_ret
        have hcn : c = n := ‹c = n›
        have hd := hs.drop hle hmc
        rw [if_pos hcn] at hd
        exact ⟨A, n, n, rfl, (hs.take hle).grown (grown_set _ _ _ _) (.inr (Nat.le_refl _)), by omega, ⟨A, m - n, 0, hlo, HB.out.set 1 _, hd.grown (grown_set _ _ _ _) (.inr (Nat.le_refl _)), by omega, ⟨by omega, by omega⟩, fun h => absurd rfl h⟩, grown_set _ _ _ _⟩
      · go_ret
        have hd := hs.drop hle hmc
        rw [if_neg ‹¬c = n›] at hd
        exact ⟨A, n, c, rfl, (hs.take hle).grown (grown_set _ _ _ _) (.inr (Nat.le_refl _)), by omega, ⟨_, m - n, c - n, hlo, HB.out.set 1 _, hd.grown (grown_set _ _ _ _) (.inr (Nat.le_refl _)), by omega, ⟨by omega, by omega⟩, fun h => absurd rfl h⟩, grown_set _ _ _ _⟩
  · have ht : tk n xs e = ([], xs, e) := by simp [tk, he]
    rw [ht]
    obtain rfl := he0 he
    have hd : (e != 0) = true := by rw [bne_iff_ne]; exact he
    clear hb
    go_enter Tryz.func99, Tryz.ntmps99
    go_wp2_with (first
      | (go_at_call 100; refine (left_any _ h'.out).mono ?_; rintro e w' ⟨rfl, rfl⟩)
      | (go_at_call 101; refine (fail_old _ h'.out he 4).mono ?_; rintro e w1 ⟨rfl, rfl⟩)
      | (go_at_call 102; refine (err_any _ h'.out).mono ?_; rintro e w' ⟨rfl, rfl⟩))
    all_goals
      go_ret
      exact ⟨none, 0, 0, rfl, Sp.nil_, by omega, h'.out, grown_refl _ _⟩

/-- The number whose bytes these are, the highest first. -/
def beV (xs : List Int) : Int := xs.foldl (fun a b => a * 256 + b) 0
set_option maxRecDepth 100000 in
theorem beV_snoc (xs : List Int) (b : Int) : beV (xs ++ [b]) = beV xs * 256 + b := by simp [beV]
theorem beV_bound {xs : List Int} (h : IsBy xs) : 0 ≤ beV xs ∧ beV xs < 256 ^ xs.length := by
  have key : ∀ (n : Nat) (xs : List Int), xs.length = n → IsBy xs → 0 ≤ beV xs ∧ beV xs < 256 ^ n := by
    intro n
    induction n with
    | zero => intro xs hl _; rw [List.eq_nil_of_length_eq_zero hl]; simp [beV]
    | succ n ih =>
      intro xs hl hx
      have hne : xs ≠ [] := by intro e; rw [e] at hl; simp at hl
      have hsp := List.dropLast_concat_getLast hne
      rw [← hsp, beV_snoc]
      obtain ⟨h0, h1⟩ := ih xs.dropLast (by simp [hl]) (fun x hm => hx x (List.dropLast_subset xs hm))
      obtain ⟨b0, b1⟩ := hx _ (List.getLast_mem hne)
      rw [Int.pow_succ]
      omega
  exact key _ xs rfl h
set_option maxRecDepth 100000 in
theorem beV_take_succ (xs : List Int) (k : Nat) (hk : k < xs.length) : beV (xs.take (k + 1)) = beV (xs.take k) * 256 + xs.getD k 0 := by
  rw [List.take_succ_eq_append_getElem hk, beV_snoc]
  simp [List.getD, List.getElem?_eq_getElem hk]
set_option maxRecDepth 100000 in
theorem tk_by {n : Nat} {xs : List Int} {e : Int} (h : IsBy xs) : IsBy (tk n xs e).1 ∧ IsBy (tk n xs e).2.1 := by
  unfold tk
  split
  · exact ⟨fun _ h => by simp at h, h⟩
  · split
    · exact ⟨fun _ h => by simp at h, fun _ h => by simp at h⟩
    · exact ⟨h.take n, h.drop n⟩
set_option maxRecDepth 100000 in
theorem tk_len (n : Nat) (xs : List Int) (e : Int) : (tk n xs e).1.length ≤ n ∧ (tk n xs e).2.1.length ≤ xs.length := by
  unfold tk
  split
  · simp
  · split <;> simp <;> omega
/-- What reading a number of n bytes tells. -/
def unum (n : Nat) (xs : List Int) (e : Int) : Int := beV (tk n xs e).1
set_option maxRecDepth 100000 in
theorem pow256_mono {a b : Nat} (h : a ≤ b) : (256 : Int) ^ a ≤ 256 ^ b := by
  obtain ⟨d, rfl⟩ := Nat.exists_eq_add_of_le h
  induction d with
  | zero => exact Int.le_refl _
  | succ d ih =>
    have := ih (by omega)
    have hp := pow256_pos (a + d)
    rw [← Nat.add_assoc, Int.pow_succ]
    omega
set_option maxRecDepth 100000 in
theorem unum_bound {n : Nat} {xs : List Int} {e : Int} (h : IsBy xs) : 0 ≤ unum n xs e ∧ unum n xs e < 256 ^ n := by
  obtain ⟨h0, h1⟩ := beV_bound (tk_by (n := n) (e := e) h).1
  exact ⟨h0, Int.lt_of_lt_of_le h1 (pow256_mono (tk_len n xs e).1)⟩

def NumPost (w : World) (lo g : Nat) (k : IntKind) (v : Int) (xs : List Int) (e : Int) (en : Ending) (w' : World) : Prop := en = .returned (.int k v) ∧ Rd w' lo g xs e ∧ w.grownBy w' (some g)
set_option maxHeartbeats 400000 in
set_option maxRecDepth 100000 in
theorem fromHigh32_any {lo g : Nat} {xs : List Int} {e : Int} (w : World) (h : Rd w lo g xs e) (hx : IsBy xs) :
    Calls Tryz.prog 97 #[.pointer (some ⟨g, 0, none⟩)] w (NumPost w lo g .u32 (unum 4 xs e) (tk 4 xs e).2.1 (tk 4 xs e).2.2) := by
  have hby := (tk_by (n := 4) (e := e) hx).1
  have hln := (tk_len 4 xs e).1
  have hct := hide (take_any w h 4 (by omega))
  unfold unum
  generalize tk 4 xs e = r at *
  clear h hx
  go_enter Tryz.func97, Tryz.ntmps97
  go_wp2_with (first
    | (go_at_call 80; refine (width32_any _).mono ?_; rintro e w' ⟨rfl, rfl⟩)
    | (go_at_call 99; refine hct.out.mono ?_; rintro en w1 ⟨A, n, c, rfl, hs, hn, hr, hg⟩))
  have hl1 := hs.1
  have hnN : n ≤ 4 := by omega
  have HL := hide hl1
  clear hl1
  go_loop [3, 10] (fun v i => ∃ k : Nat, k ≤ n ∧ i = .int .i64 k ∧ v = .int .u32 (beV (r.1.take k))) (fun _ i => n - (intOf i).toNat)
  case atStart => exact ⟨0, Nat.zero_le _, rfl, rfl⟩
  case round =>
    obtain ⟨k, hk, rfl, rfl⟩ := hrel
    obtain ⟨q0, q1⟩ := beV_bound (hby.take k)
    by_cases hlt : k < n
    · obtain ⟨b, o, rfl, hb, _, hc⟩ := hs.2 (by omega)
      have hck := hc k hlt
      obtain ⟨b0, b1⟩ := getD_byte hby k
      have hsu := beV_take_succ r.1 k (by rw [HL.out]; exact hlt)
      have HS := hide hsu
      have Q1 := hide q1
      clear hsu q1 hc
      have HO := hide (or_high32 k (by omega) q0 (by have := Q1.out; rw [List.length_take, HL.out, Nat.min_eq_left (by omega)] at this; exact this) b0 b1)
      go_wp2
      go_round
      case rel => exact ⟨k + 1, by omega, by go_num, congrArg (Value.int .u32) (by rw [HS.out, ← HO.out]; simp [List.getD])⟩
      case measure => simp [intOf]; omega
    · go_wp2
      go_ret
      have hkn : k = n := by omega
      refine ⟨?_, hr, hg⟩
      rw [← show beV (r.1.take k) = beV r.1 from by rw [List.take_of_length_le (by rw [HL.out]; omega)]]
      rfl
set_option maxRecDepth 100000 in
theorem u32_any {lo g : Nat} {xs : List Int} {e : Int} (w : World) (h : Rd w lo g xs e) (hx : IsBy xs) :
    Calls Tryz.prog 92 #[.pointer (some ⟨g, 0, none⟩)] w (NumPost w lo g .u32 (unum 4 xs e) (tk 4 xs e).2.1 (tk 4 xs e).2.2) := by
  go_enter Tryz.func92, Tryz.ntmps92
  go_wp2_with (go_at_call 97; refine (fromHigh32_any _ h hx).mono ?_; rintro en w1 ⟨rfl, hr, hg⟩)
  go_ret
  exact ⟨rfl, hr, hg⟩
set_option maxRecDepth 100000 in
theorem Sp.later {w w' : World} {lo hi n : Nat} {A : Option Addr} {xs : List Int} (h : Sp w lo hi A n xs) (hb : Below w.heap.size w w') : Sp w' lo hi A n xs :=
  ⟨h.1, fun h0 => let ⟨b, o, e, h1, h2, hc⟩ := h.2 h0; ⟨b, o, e, h1, h2, fun j hj => (hb.cell (p := ⟨b, o + j, none⟩) (block_lt_of_cell (hc j hj) : b < w.heap.size)).trans (hc j hj)⟩⟩
set_option maxRecDepth 100000 in
theorem Rd.later {w w' : World} {lo g : Nat} {xs : List Int} {e : Int} (h : Rd w lo g xs e) (hb : Below w.heap.size w w') : Rd w' lo g xs e := by
  obtain ⟨A, n, c, h0, h1, h2, h3, h4, h5⟩ := h
  exact ⟨A, n, c, h0, h1.below hb h1.lt, h2.later hb, h3, h4, h5⟩

set_option maxRecDepth 100000 in
theorem read_any (A : Option Addr) (n c : Nat) (xs : List Int) (w : World) (h : Bs w w.heap.size A n xs) (hn : n ≤ 1000000) :
    Calls Tryz.prog 91 #[.slice A n c] w fun en w' => ∃ g, en = .returned (.pointer (some ⟨g, 0, none⟩)) ∧ w.heap.size ≤ g ∧ g < w'.heap.size ∧ Rd w' w.heap.size g xs 0 ∧ Below w.heap.size w w' := by
  go_enter Tryz.func91, Tryz.ntmps91
  go_wp2_with (go_at_call 24; refine (clone_new A n c xs _ h (by omega)).mono ?_; rintro e w1 ⟨A1, n1, c1, rfl, hb1, hn1, hc1, hl1⟩)
  go_ret
  have hlen : n1 ≤ 1000000 := by have := hb1.1; have := h.1; omega
  simp only [maxLen] at hc1
  exact ⟨w1.heap.size, rfl, hl1.size, by simp, ⟨A1, n1, c1, hl1.size, heap_alloc_new w1 _, hb1.later ((Below.refl _ _).alloc (Nat.le_refl _) _), hn1, ⟨by omega, by omega⟩, fun h => absurd rfl h⟩, hl1.alloc hl1.size _⟩
end Go.Proofs.YtooooncmjhcdbaaGreatDoor

/-
  Pack for keys: numbers read, numbers put: contracts. Own work.
-/
namespace Go.Proofs.YtooooncmjhcdbaaGreatDoor
open Go.RowKit
set_option maxHeartbeats 400000 in
set_option maxRecDepth 100000 in
theorem fromHigh64_any {lo g : Nat} {xs : List Int} {e : Int} (w : World) (h : Rd w lo g xs e) (hx : IsBy xs) :
    Calls Tryz.prog 130 #[.pointer (some ⟨g, 0, none⟩)] w (NumPost w lo g .u64 (unum 8 xs e) (tk 8 xs e).2.1 (tk 8 xs e).2.2) := by
  have hby := (tk_by (n := 8) (e := e) hx).1
  have hln := (tk_len 8 xs e).1
  have hct := hide (take_any w h 8 (by omega))
  unfold unum
  generalize tk 8 xs e = r at *
  clear h hx
  go_enter Tryz.func130, Tryz.ntmps130
  go_wp2_with (first
    | (go_at_call 65; refine (width64_any _).mono ?_; rintro e w' ⟨rfl, rfl⟩)
    | (go_at_call 99; refine hct.out.mono ?_; rintro en w1 ⟨A, n, c, rfl, hs, hn, hr, hg⟩))
  have hl1 := hs.1
  have hnN : n ≤ 8 := by omega
  have HL := hide hl1
  clear hl1
  go_loop [3, 10] (fun v i => ∃ k : Nat, k ≤ n ∧ i = .int .i64 k ∧ v = .int .u64 (beV (r.1.take k))) (fun _ i => n - (intOf i).toNat)
  case atStart => exact ⟨0, Nat.zero_le _, rfl, rfl⟩
  case round =>
    obtain ⟨k, hk, rfl, rfl⟩ := hrel
    obtain ⟨q0, q1⟩ := beV_bound (hby.take k)
    by_cases hlt : k < n
    · obtain ⟨b, o, rfl, hb, _, hc⟩ := hs.2 (by omega)
      have hck := hc k hlt
      obtain ⟨b0, b1⟩ := getD_byte hby k
      have hsu := beV_take_succ r.1 k (by rw [HL.out]; exact hlt)
      have HS := hide hsu
      have Q1 := hide q1
      clear hsu q1 hc
      have HO := hide (or_high64 k (by omega) q0 (by have := Q1.out; rw [List.length_take, HL.out, Nat.min_eq_left (by omega)] at this; exact this) b0 b1)
      go_wp2
      go_round
      case rel => exact ⟨k + 1, by omega, by go_num, congrArg (Value.int .u64) (by rw [HS.out, ← HO.out]; simp [List.getD])⟩
      case measure => simp [intOf]; omega
    · go_wp2
      go_ret
      have hkn : k = n := by omega
      refine ⟨?_, hr, hg⟩
      rw [← show beV (r.1.take k) = beV r.1 from by rw [List.take_of_length_le (by rw [HL.out]; omega)]]
      rfl
set_option maxRecDepth 100000 in
theorem u64_any {lo g : Nat} {xs : List Int} {e : Int} (w : World) (h : Rd w lo g xs e) (hx : IsBy xs) :
    Calls Tryz.prog 128 #[.pointer (some ⟨g, 0, none⟩)] w (NumPost w lo g .u64 (unum 8 xs e) (tk 8 xs e).2.1 (tk 8 xs e).2.2) := by
  go_enter Tryz.func128, Tryz.ntmps128
  go_wp2_with (go_at_call 130; refine (fromHigh64_any _ h hx).mono ?_; rintro en w1 ⟨rfl, hr, hg⟩)
  go_ret
  exact ⟨rfl, hr, hg⟩
set_option maxRecDepth 100000 in
theorem pabove_any (x most : Int) (w : World) (h0 : 0 ≤ x) (h1 : x < 18446744073709551616) (m0 : -9223372036854775808 ≤ most) (m1 : most ≤ 9223372036854775807) :
    Calls Tryz.prog 129 #[.int .u64 x, .int .i64 most] w fun en w' => en = .returned (.bool (decide (most < x))) ∧ w = w' := by
  by_cases hm : most < 0
  · have hd : decide (most < x) = true := by simp; omega
    rw [hd]
    go_enter Tryz.func129, Tryz.ntmps129
    go_wp2
    go_ret
    exact ⟨rfl, rfl⟩
  · go_enter Tryz.func129, Tryz.ntmps129
    go_wp2
    go_ret
    exact ⟨rfl, rfl⟩
def tkNum (most : Int) (xs : List Int) (e : Int) : Int × List Int × Int :=
  let v := unum 8 xs e
  let r := (tk 8 xs e).2
  if most < v then (0, [], if r.2 ≠ 0 then r.2 else 5) else (v, r.1, r.2)
set_option maxRecDepth 100000 in
theorem rd_nil {w : World} {lo g : Nat} {xs : List Int} {e : Int} (h : Rd w lo g xs e) (he : e ≠ 0) : xs = [] := by
  obtain ⟨A, n, c, _, _, _, _, _, h5⟩ := h; exact h5 he
set_option maxHeartbeats 400000 in
set_option maxRecDepth 100000 in
theorem num_any {lo g : Nat} {xs : List Int} {e : Int} (w : World) (h : Rd w lo g xs e) (hx : IsBy xs) (most : Int) (m0 : -9223372036854775808 ≤ most) (m1 : most ≤ 9223372036854775807) :
    Calls Tryz.prog 126 #[.pointer (some ⟨g, 0, none⟩), .int .i64 most] w (NumPost w lo g .i64 (tkNum most xs e).1 (tkNum most xs e).2.1 (tkNum most xs e).2.2) := by
  have hub := unum_bound (n := 8) (e := e) hx
  have hu : unum 8 xs e < 18446744073709551616 := hub.2
  have hc := hide (u64_any w h hx)
  have hnil : (tk 8 xs e).2.2 ≠ 0 → (tk 8 xs e).2.1 = [] := by
    obtain ⟨_, _, _, _, _, _, _, _, h5⟩ := h
    unfold tk
    split
    · rename_i he; exact fun _ => h5 he
    · split
      · exact fun _ => rfl
      · exact fun h => absurd rfl h
  unfold tkNum
  generalize unum 8 xs e = v at *
  generalize (tk 8 xs e).2 = r at *
  obtain ⟨ys, e1⟩ := r
  dsimp only at *
  have h0 := hub.1
  clear h hx hub
  by_cases hm : most < v
  · rw [if_pos hm]
    by_cases he : e1 = 0
    · subst he
      rw [if_neg (by simp)]
      go_enter Tryz.func126, Tryz.ntmps126
      go_wp2_with (first
        | (go_at_call 128; refine hc.out.mono ?_; rintro en w1 ⟨rfl, hr, hg⟩)
        | (go_at_call 129; refine (pabove_any v most _ h0 hu m0 m1).mono ?_; rintro en w2 ⟨rfl, rfl⟩)
        | (go_at_call 101; refine (fail_new _ hr 5).mono ?_; rintro en w2 ⟨rfl, hr2, hg2⟩))
      go_ret
      exact ⟨rfl, hr2, grown_trans hg hg2⟩
    · rw [if_pos he]
      have hys := hide (hnil he)
      clear hnil
      go_enter Tryz.func126, Tryz.ntmps126
      go_wp2_with (first
        | (go_at_call 128; refine hc.out.mono ?_; rintro en w1 ⟨rfl, hr, hg⟩)
        | (go_at_call 129; refine (pabove_any v most _ h0 hu m0 m1).mono ?_; rintro en w2 ⟨rfl, rfl⟩)
        | (go_at_call 101; refine (fail_old _ hr he 5).mono ?_; rintro en w2 ⟨rfl, rfl⟩))
      go_ret
      exact ⟨rfl, by rw [← hys.out]; exact hr, hg⟩
  · rw [if_neg hm]
    go_enter Tryz.func126, Tryz.ntmps126
    go_wp2_with (first
      | (go_at_call 128; refine hc.out.mono ?_; rintro en w1 ⟨rfl, hr, hg⟩)
      | (go_at_call 129; refine (pabove_any v most _ h0 hu m0 m1).mono ?_; rintro en w2 ⟨rfl, rfl⟩))
    go_ret
    exact ⟨rfl, hr, hg⟩
def endV (xs : List Int) (e : Int) : Int := if e = 0 ∧ 0 < xs.length then 3 else e
set_option maxRecDepth 100000 in
theorem tk_nil {n : Nat} {xs : List Int} {e : Int} (h5 : e ≠ 0 → xs = []) : (tk n xs e).2.2 ≠ 0 → (tk n xs e).2.1 = [] := by
  unfold tk
  split
  · rename_i he; exact fun _ => h5 he
  · split
    · exact fun _ => rfl
    · exact fun h => absurd rfl h
set_option maxRecDepth 100000 in
theorem step256 (k : Nat) (hk : k < 8) {q b : Int} (q0 : 0 ≤ q) (q1 : q < 256 ^ k) (b0 : 0 ≤ b) (b1 : b < 256) : 0 ≤ 256 * q ∧ 256 * q + b < 18446744073709551616 := by
  have := pow256_mono (show k + 1 ≤ 8 by omega)
  rw [Int.pow_succ, show (256 : Int) ^ 8 = 18446744073709551616 from by decide] at this
  omega
set_option maxRecDepth 100000 in
theorem tk_err {n : Nat} {xs : List Int} {e : Int} (h : (tk n xs e).2.2 ≠ 0) : (tk n xs e).1 = [] := by
  unfold tk at h ⊢
  split
  · rfl
  · rename_i he
    rw [if_neg he] at h
    split
    · rfl
    · rename_i hl; rw [if_neg hl] at h; exact absurd rfl h
set_option maxRecDepth 100000 in
theorem unum_err {n : Nat} {xs : List Int} {e : Int} (h : (tk n xs e).2.2 ≠ 0) : unum n xs e = 0 := by unfold unum; rw [tk_err h]; rfl
set_option maxRecDepth 100000 in
theorem putNum_any (A : Option Addr) (m c : Nat) (xs : List Int) (x : Int) (w : World) (h : Bs w w.heap.size A m xs) (hm : m ≤ 1000000) (h0 : -9223372036854775808 ≤ x) (h1 : x ≤ 9223372036854775807) :
    Calls Tryz.prog 30 #[.slice A m c, .int .i64 x] w (RetBs (xs ++ highB (max x 0) 8) w) := by
  by_cases hx : 0 ≤ x
  · rw [show max x 0 = x from by omega]
    go_enter Tryz.func30, Tryz.ntmps30
    go_wp2_with (go_at_call 40; refine (put64_any A m c xs x _ h hm hx (by omega)).mono ?_; rintro e w1 ⟨A1, n1, c1, rfl, hb, hn, hc, hl⟩)
    go_ret
    exact ⟨A1, n1, c1, rfl, hb, hn, hc, hl⟩
  · rw [show max x 0 = 0 from by omega]
    go_enter Tryz.func30, Tryz.ntmps30
    go_wp2_with (go_at_call 40; refine (put64_any A m c xs 0 _ h hm (by omega) (by omega)).mono ?_; rintro e w1 ⟨A1, n1, c1, rfl, hb, hn, hc, hl⟩)
    go_ret
    exact ⟨A1, n1, c1, rfl, hb, hn, hc, hl⟩
end Go.Proofs.YtooooncmjhcdbaaGreatDoor

/-
  Keys: names as six numbers, small contracts. Own work.
-/
namespace Go.Proofs.YtooooncmjhcdbaaGreatDoor
open Go.RowKit
/-- A number that an int may be. -/
def isI (x : Int) : Prop := -9223372036854775808 ≤ x ∧ x ≤ 9223372036854775807
set_option maxRecDepth 100000 in
theorem eqId (a b c d e f a' b' c' d' e' f' : Int) (w : World) : (Op.equalIn 10000 24 (.agg (vk .i64 [a, b, c, d, e, f]).toArray) (.agg (vk .i64 [a', b', c', d', e', f']).toArray)).run Tryz.prog w = .ok (decide ([a, b, c, d, e, f] = [a', b', c', d', e', f'])) w := by
  rw [show (10000 : Nat) = 9999 + 1 from rfl, run_equalIn_struct w 9999 _ _ _ Tryz.underlying24 (by kernel_rfl)]
  have he : ∀ (x y : Int) (w : World), (Op.equalIn 9999 3 (.int .i64 x) (.int .i64 y)).run Tryz.prog w = .ok (x == y) w := fun x y w => run_equalIn_int w 9998 _ .i64 .i64 x y Tryz.underlying3
  go_simp
  simp only [vk, List.map_cons, List.map_nil, List.getElem?_cons_zero, List.getElem?_cons_succ, Sem.run_pure, Result.andThen_ok, he]
  by_cases h0 : a = a'
  · by_cases h1 : b = b'
    · by_cases h2 : c = c'
      · by_cases h3 : d = d'
        · by_cases h4 : e = e'
          · by_cases h5 : f = f' <;> simp [h0, h1, h2, h3, h4, h5]
          · simp [h0, h1, h2, h3, h4]
        · simp [h0, h1, h2, h3]
      · simp [h0, h1, h2]
    · simp [h0, h1]
  · simp [h0]
/-- The next number, or why there is none. -/
def nextV (x y : Int) : Int × Int := if x < 0 then (0, 1) else if y ≤ x then (0, 7) else (x + 1, 0)
theorem size6i {xs : List Int} (h : xs.length = 6) : (Tryz.prog.info? 88).map (·.size) = some (vk .i64 xs).length := by rw [vk_len, h]; kernel_rfl
theorem sizeId {xs : List Int} (h : xs.length = 6) : (Tryz.prog.info? 24).map (·.size) = some (vk .i64 xs).length := by rw [vk_len, h]; kernel_rfl
theorem zero6i : (Tryz.prog.info? 88).map (fun i => i.zero) = some (some (.agg (vk .i64 [0, 0, 0, 0, 0, 0]).toArray)) := by kernel_rfl
theorem zeroId : (Tryz.prog.info? 24).map (fun i => i.zero) = some (some (.agg (vk .i64 [0, 0, 0, 0, 0, 0]).toArray)) := by kernel_rfl
theorem built6 (a b c d e f : Int) : Tryz.prog.built 88 [(0, .int .i64 a), (1, .int .i64 b), (2, .int .i64 c), (3, .int .i64 d), (4, .int .i64 e), (5, .int .i64 f)] = some (vk .i64 [a, b, c, d, e, f]).toArray := by kernel_rfl
theorem builtId (a b c d e f : Int) : Tryz.prog.built 24 [(0, .int .i64 a), (1, .int .i64 b), (2, .int .i64 c), (3, .int .i64 d), (4, .int .i64 e), (5, .int .i64 f)] = some (vk .i64 [a, b, c, d, e, f]).toArray := by kernel_rfl
set_option maxRecDepth 100000 in
set_option maxHeartbeats 1000000 in
theorem numbers_any (a b c d e f : Int) (w : World) : Calls Tryz.prog 37 #[.agg (vk .i64 [a, b, c, d, e, f]).toArray] w fun en w' => en = .returned (.agg (vk .i64 [a, b, c, d, e, f]).toArray) ∧ Below w.heap.size w w' := by
  have bt := built6 a b c d e f
  have zf := hide (size6i (xs := [a, b, c, d, e, f]) rfl)
  go_enter Tryz.func37, Tryz.ntmps37
  go_wp2_with (first
    | (with_reducible refine wl_box rfl 24 (.tmp 0) _ (vk .i64 [a, b, c, d, e, f]) rfl rfl rfl ?_; intro g1 w1 r1 p1 l1 b1)
    | (with_reducible refine wl_alloc rfl 88 _ (vk .i64 [0, 0, 0, 0, 0, 0]) rfl zero6i rfl ?_; intro g2 w2 r2 p2 l2 b2; have r1' := r1.later b2; have c0 := r1'.cell (j := 0) (v := .int .i64 a) rfl; have c1 := r1'.cell (j := 1) (v := .int .i64 b) rfl; have c2 := r1'.cell (j := 2) (v := .int .i64 c) rfl; have c3 := r1'.cell (j := 3) (v := .int .i64 d) rfl; have c4 := r1'.cell (j := 4) (v := .int .i64 e) rfl; have c5 := r1'.cell (j := 5) (v := .int .i64 f) rfl)
    | ((with_reducible refine wl_build rfl 88 _ rfl _ ?hv _ bt ?hk); case hv => rfl)
    | (with_reducible refine wl_store_row rfl 88 (.tmp 2) (.tmp 15) g2 88 _ (vk .i64 [a, b, c, d, e, f]) rfl rfl rfl r2 zf.out rfl (vk_one' _ _) ?_; intro w3 r3 o3))
  refine bodyPost_ret (v := .agg (vk .i64 [a, b, c, d, e, f]).toArray) ?_ rfl ⟨rfl, ?_⟩
  · exact results_cell_row Tryz.results37 _ _ g2 88 _ (0, 0) _ rfl r3 Tryz.underlying88 rfl zf.out
  · exact (b1.trans (b2.mono b1.size)).trans (o3.below (Nat.le_trans b1.size p2))
set_option maxRecDepth 100000 in
set_option maxHeartbeats 1000000 in
theorem named_any (a b c d e f : Int) (w : World) : Calls Tryz.prog 38 #[.agg (vk .i64 [a, b, c, d, e, f]).toArray] w fun en w' => en = .returned (.agg (vk .i64 [a, b, c, d, e, f]).toArray) ∧ Below w.heap.size w w' := by
  have bt := builtId a b c d e f
  have zf := hide (sizeId (xs := [a, b, c, d, e, f]) rfl)
  go_enter Tryz.func38, Tryz.ntmps38
  go_wp2_with (first
    | (with_reducible refine wl_box rfl 88 (.tmp 0) _ (vk .i64 [a, b, c, d, e, f]) rfl rfl rfl ?_; intro g1 w1 r1 p1 l1 b1)
    | (with_reducible refine wl_alloc rfl 24 _ (vk .i64 [0, 0, 0, 0, 0, 0]) rfl zeroId rfl ?_; intro g2 w2 r2 p2 l2 b2; have r1' := r1.later b2; have c0 := r1'.cell (j := 0) (v := .int .i64 a) rfl; have c1 := r1'.cell (j := 1) (v := .int .i64 b) rfl; have c2 := r1'.cell (j := 2) (v := .int .i64 c) rfl; have c3 := r1'.cell (j := 3) (v := .int .i64 d) rfl; have c4 := r1'.cell (j := 4) (v := .int .i64 e) rfl; have c5 := r1'.cell (j := 5) (v := .int .i64 f) rfl)
    | ((with_reducible refine wl_build rfl 24 _ rfl _ ?hv _ bt ?hk); case hv => rfl)
    | (with_reducible refine wl_store_row rfl 24 (.tmp 2) (.tmp 15) g2 24 _ (vk .i64 [a, b, c, d, e, f]) rfl rfl rfl r2 zf.out rfl (vk_one' _ _) ?_; intro w3 r3 o3))
  refine bodyPost_ret (v := .agg (vk .i64 [a, b, c, d, e, f]).toArray) ?_ rfl ⟨rfl, ?_⟩
  · exact results_cell_row Tryz.results38 _ _ g2 24 _ (0, 0) _ rfl r3 Tryz.underlying24 rfl zf.out
  · exact (b1.trans (b2.mono b1.size)).trans (o3.below (Nat.le_trans b1.size p2))

end Go.Proofs.YtooooncmjhcdbaaGreatDoor

/-
  Keys: which names may be: the program's contracts. Own work.
-/
namespace Go.Proofs.YtooooncmjhcdbaaGreatDoor
open Go.RowKit
def boundsL : List Int := [1, 6, 0, 1099511627776, 0, 1099511627776, 0, 1099511627776, 0, 1, 0, 1099511627776]
/-- What the walks know of the table. -/
def TabK (w : World) : Prop := 0 < w.heap.size ∧ ∀ j, j < 12 → w.cell? ⟨0, j, none⟩ = some (.int .i64 (boundsL.getD j 0))
theorem TabK.later {w w' : World} (h : TabK w) (hb : Below w.heap.size w w') : TabK w' := ⟨Nat.lt_of_lt_of_le h.1 hb.size, fun j hj => (hb.cell (p := ⟨0, j, none⟩) h.1).trans (h.2 j hj)⟩
/-- A number brought within bounds. -/
def nr (lo hi x : Int) : Int := if hi < (if x < lo then lo else x) then hi else (if x < lo then lo else x)
def nrAt (ns : List Int) (j : Nat) : Int := nr (boundsL.getD (2 * j) 0) (boundsL.getD (2 * j + 1) 0) (ns.getD j 0)
def nrP (ns : List Int) : Nat → List Int
  | 0 => ns
  | k + 1 => (nrP ns k).set k (nrAt ns k)
theorem nrP_len (ns : List Int) (k : Nat) : (nrP ns k).length = ns.length := by
  induction k with
  | zero => rfl
  | succ k ih => unfold nrP; rw [List.length_set, ih]
theorem nrP_at (ns : List Int) (k j : Nat) (h : k ≤ j) : (nrP ns k).getD j 0 = ns.getD j 0 := by
  induction k with
  | zero => rfl
  | succ k ih =>
    unfold nrP
    simp only [List.getD] at ih ⊢
    rw [List.getElem?_set_ne (by omega)]
    exact ih (by omega)
/-- Whether a name may be. -/
def okB (a b c d e f : Int) : Bool := decide (1 ≤ a ∧ a ≤ 6 ∧ (0 ≤ b ∧ b ≤ 1099511627776) ∧ (0 ≤ c ∧ c ≤ 1099511627776) ∧ (0 ≤ d ∧ d ≤ 1099511627776) ∧ (0 ≤ f ∧ f ≤ 1099511627776) ∧ (e = 0 ∨ e = 1))
theorem nr_eq (lo hi x : Int) (h : lo ≤ hi) : nr lo hi x = x ↔ lo ≤ x ∧ x ≤ hi := by unfold nr; split <;> split <;> omega
theorem nr_all (a b c d e f : Int) : decide ([a, b, c, d, e, f] = nrP [a, b, c, d, e, f] 6) = okB a b c d e f := by
  unfold okB
  have h : nrP [a, b, c, d, e, f] 6 = [nr 1 6 a, nr 0 1099511627776 b, nr 0 1099511627776 c, nr 0 1099511627776 d, nr 0 1 e, nr 0 1099511627776 f] := rfl
  rw [h]
  congr 1
  have h0 := nr_eq 1 6 a (by decide)
  have h1 := nr_eq 0 1099511627776 b (by decide)
  have h2 := nr_eq 0 1099511627776 c (by decide)
  have h3 := nr_eq 0 1099511627776 d (by decide)
  have h4 := nr_eq 0 1 e (by decide)
  have h5 := nr_eq 0 1099511627776 f (by decide)
  generalize nr 1 6 a = A at *
  generalize nr 0 1099511627776 b = B at *
  generalize nr 0 1099511627776 c = C at *
  generalize nr 0 1099511627776 d = D at *
  generalize nr 0 1 e = E at *
  generalize nr 0 1099511627776 f = F at *
  simp only [List.cons.injEq, and_true, eq_iff_iff]
  omega
theorem run_max2 {P : Program} {o : Oper} {a : Act} {w : World} (x y : Operand) (t : TypeId) (u v : Int) (ho : o.op = .call { callee := .builtin .max, args := #[x, y], argTypes := #[t, t] }) (hx : a.eval x = .int .i64 u) (hy : a.eval y = .int .i64 v) :
    (execOp a.eval o).run P w = .ok (.value (.int .i64 (if u < v then v else u))) w := by
  unfold execOp
  simp only [ho, resolve, invoke, builtin, Sem.run_bind, Sem.run_pure, Result.andThen_ok, List.map_toArray, List.map_cons, List.map_nil, hx, hy, run_max_int2]
  skip
theorem run_min2 {P : Program} {o : Oper} {a : Act} {w : World} (x y : Operand) (t : TypeId) (u v : Int) (ho : o.op = .call { callee := .builtin .min, args := #[x, y], argTypes := #[t, t] }) (hx : a.eval x = .int .i64 u) (hy : a.eval y = .int .i64 v) :
    (execOp a.eval o).run P w = .ok (.value (.int .i64 (if v < u then v else u))) w := by
  unfold execOp
  simp only [ho, resolve, invoke, builtin, Sem.run_bind, Sem.run_pure, Result.andThen_ok, List.map_toArray, List.map_cons, List.map_nil, hx, hy, run_min_int2]
  skip
def SNr (g3 g5 i : Nat) (x lo hi : Int) (opn : Nat) (v : Value) : Prop :=
  match opn with
  | 0 | 1 => v = .int .i64 (i : Int)
  | 2 | 10 => v = .pointer (some ⟨g3, i, none⟩)
  | 3 => v = .int .i64 x
  | 4 => v = .pointer (some ⟨g5, 0, none⟩)
  | 5 => v = .int .i64 lo
  | 6 => v = .int .i64 (if x < lo then lo else x)
  | 7 => v = .pointer (some ⟨g5, 1, none⟩)
  | 8 => v = .int .i64 hi
  | 9 => v = .int .i64 (nr lo hi x)
  | _ => True

theorem bounds_at (i : Nat) (h : i < 6) : ((vk .i64 boundsL).drop (i * 2)).take 2 = vk .i64 [boundsL.getD (2 * i) 0, boundsL.getD (2 * i + 1) 0] := by
  have : i = 0 ∨ i = 1 ∨ i = 2 ∨ i = 3 ∨ i = 4 ∨ i = 5 := by omega
  rcases this with rfl | rfl | rfl | rfl | rfl | rfl <;> rfl
theorem sizeB : (Tryz.prog.info? 91).map (·.size) = some (vk .i64 boundsL).length := by kernel_rfl
theorem size2 (x y : Int) : (Tryz.prog.info? 90).map (·.size) = some (vk .i64 [x, y]).length := by kernel_rfl
theorem zero2 : (Tryz.prog.info? 90).map (fun i => i.zero) = some (some (.agg (vk .i64 [0, 0]).toArray)) := by kernel_rfl
set_option maxRecDepth 100000 in
set_option maxHeartbeats 2000000 in
theorem nearest_any (a b c d e f : Int) (w : World) (hT : TabK w) : Calls Tryz.prog 26 #[.agg (vk .i64 [a, b, c, d, e, f]).toArray] w fun en w' => en = .returned (.agg (vk .i64 (nrP [a, b, c, d, e, f] 6)).toArray) ∧ Below w.heap.size w w' := by
  have hcells : ∀ w' : World, Below w.heap.size w w' → ∀ j v, (vk .i64 boundsL)[j]? = some v → w'.cell? ⟨0, 0 + j, none⟩ = some v := by
    intro w' hb j v hv
    have hj : j < 12 := by have := (List.getElem?_eq_some_iff.1 hv).1; rw [vk_len] at this; exact this
    have := (hb.cell (p := ⟨0, j, none⟩) hT.1).trans (hT.2 j hj)
    rw [vk_get (by exact hj)] at hv
    rw [Nat.zero_add, this]
    exact hv
  have zId := hide (sizeId (xs := [a, b, c, d, e, f]) rfl)
  have z6 := hide (size6i (xs := [a, b, c, d, e, f]) rfl)
  have hnum := fun w => numbers_any a b c d e f w
  have hn0 : nrP [a, b, c, d, e, f] 0 = [a, b, c, d, e, f] := rfl
  obtain ⟨a', b', c', d', e', f', hfin⟩ : ∃ a' b' c' d' e' f', nrP [a, b, c, d, e, f] 6 = [a', b', c', d', e', f'] := ⟨_, _, _, _, _, _, rfl⟩
  have hnam := fun w => named_any a' b' c' d' e' f' w
  rw [hfin]
  have zF := hide (sizeId (xs := [a', b', c', d', e', f']) rfl)
  have HF := hide hfin
  have hall : ∀ k, (nrP [a, b, c, d, e, f] k).length = 6 := fun k => nrP_len _ k
  have HAll := hide hall
  have HB := hide bounds_at
  have zB := hide sizeB
  have l6 := hide (show (vk .i64 [0, 0, 0, 0, 0, 0]).length = (vk .i64 [a, b, c, d, e, f]).length from rfl)
  have l6b := hide (show (vk .i64 [0, 0, 0, 0, 0, 0]).length = (vk .i64 [a', b', c', d', e', f']).length from rfl)
  clear hfin hall
  generalize hns : [a, b, c, d, e, f] = ns at *
  have Hns := hide hns
  generalize [a', b', c', d', e', f'] = ms at *
  go_enter Tryz.func26, Tryz.ntmps26
  clear hns
  go_wp2_with (first
    | (with_reducible refine wl_box rfl 24 (.tmp 0) _ (vk .i64 ns) rfl rfl rfl ?_; intro g1 w1 r1 p1 l1 b1)
    | (with_reducible refine wl_alloc rfl 24 _ (vk .i64 [0, 0, 0, 0, 0, 0]) rfl zeroId rfl ?_; intro g2 w2 r2 p2 l2 b2; have r1a := r1.later b2)
    | (with_reducible refine wl_load_row rfl 24 (.tmp 1) g1 24 (vk .i64 ns) _ rfl rfl r1a Tryz.underlying24 rfl zId.out ?_))
  have B2 := b1.trans (b2.mono b1.size)
  refine (hnum w2).mono ?_
  rintro en w3 ⟨rfl, b3⟩
  have B3 := B2.trans (b3.mono B2.size)
  have r2a := r2.later b3
  clear r1 r1a r2 b3 hnum
  go_wp2_with (first
    | (with_reducible refine wl_alloc rfl 88 _ (vk .i64 [0, 0, 0, 0, 0, 0]) rfl zero6i rfl ?_; intro g3 w4 r3 p3 l3 b4)
    | (with_reducible refine wl_store_row rfl 88 (.tmp 3) (.tmp 7) g3 88 _ (vk .i64 ns) rfl rfl rfl r3 z6.out l6.out (vk_one' _ _) ?_; intro w5 r3a o5)
    | (with_reducible refine wl_load_cells rfl 91 (.global 0) _ 0 (vk .i64 boundsL) _ rfl rfl (hcells _ ((B3.trans (b4.mono B3.size)).trans (o5.below (Nat.le_trans B3.size p3)))) Tryz.underlying91 rfl zB.out ?_))
  have q3 : w.heap.size ≤ g3 := Nat.le_trans B3.size p3
  have q2 : w.heap.size ≤ g2 := Nat.le_trans b1.size p2
  have h23 : g2 ≠ g3 := by have := r2a.lt; omega
  have B5 := (B3.trans (b4.mono B3.size)).trans (o5.below q3)
  have r2b := (r2a.later b4).only o5 h23
  have r3b : Row w5 88 g3 (vk .i64 (nrP ns 0)) := r3a
  clear r3 r3a r2a b4 o5 hn0
  go_loopw [9] (fun iv wr => ∃ i : Nat, i ≤ 6 ∧ iv = .int .i64 i ∧ Row wr 88 g3 (vk .i64 (nrP ns i)) ∧ Row wr 24 g2 (vk .i64 [0, 0, 0, 0, 0, 0]) ∧ Below w.heap.size w wr) (fun iv _ => 6 - (intOf iv).toNat)
  case atStart => exact ⟨0, Nat.zero_le _, rfl, r3b, r2b, B5⟩
  case round =>
    clear r3b r2b B5
    obtain ⟨i, hi, rfl, r3, r2, br⟩ := hrel
    by_cases hlt : i < 6
    · have hIx : ∀ w, (Instr.index 91 (.agg (vk .i64 boundsL).toArray) (.int .i64 (i : Int))).run Tryz.prog w = .ok (.agg (vk .i64 [boundsL.getD (2 * i) 0, boundsL.getD (2 * i + 1) 0]).toArray) w := by
        intro w
        rw [run_index_part (P := Tryz.prog) w 91 90 6 2 (vk .i64 boundsL) i Tryz.underlying91 Tryz.isAgg90 Tryz.sizeOf90 hlt, HB.out i hlt]
      have hnew : nrP ns (i + 1) = (nrP ns i).set i (nr (boundsL.getD (2 * i) 0) (boundsL.getD (2 * i + 1) 0) ((nrP ns i).getD i 0)) := by rw [nrP_at ns i i (Nat.le_refl _)]; rfl
      have hcl := HAll.out i
      have hxc : (vk .i64 (nrP ns i))[i]? = some (.int .i64 ((nrP ns i).getD i 0)) := vk_get (by omega)
      have HN := hide hnew; have HC := hide hcl; have HX := hide hxc
      clear hnew hcl hxc
      generalize boundsL.getD (2 * i) 0 = lo at *
      generalize boundsL.getD (2 * i + 1) 0 = hi' at *
      generalize (nrP ns i).getD i 0 = x at *
      generalize hcur : nrP ns i = cur at *
      clear hcur
      have z2 := hide (size2 lo hi')
      go_wp2_with (first
        | rw [hIx]
        | (with_reducible refine wl_alloc rfl 90 _ (vk .i64 [0, 0]) rfl zero2 rfl ?_; intro g5 w6 r5 p5 l5 b6)
        | (with_reducible refine wl_store_row rfl 90 (.tmp 5) (.tmp 12) g5 90 _ (vk .i64 [lo, hi']) rfl rfl rfl r5 z2.out rfl (vk_one' _ _) ?_; intro w7 r5a o7))
      rename_i Q1 K1 hK1
      have h53 : g5 ≠ g3 := by have := r3.lt; omega
      have h25 : g2 ≠ g5 := by have := r2.lt; omega
      have q5 : w.heap.size ≤ g5 := Nat.le_trans br.size p5
      have B7 := (br.trans (b6.mono br.size)).trans (o7.below q5)
      have r3a := (r3.later b6).only o7 (Ne.symm h53)
      have r2a := (r2.later b6).only o7 h25
      clear r3 r2 r5 b6 o7 hIx
      have hcl := HC.out; have hxc := HX.out
      have r5 := r5a
      refine wp_region_vals [11] (SNr g3 g5 i x lo hi') (JB g3 88 w7 0 (vk .i64 cur) (vk .i64 (cur.set i (nr lo hi' x)))) (by kernel_rfl) (by kernel_rfl) (by kernel_rfl) (by kernel_rfl) (by kernel_rfl) (JB.start r3a rfl) ?obs ?he
      case obs =>
        refine ⟨?_, ?_, ?_, ?_, ?_, ?_, ?_, ?_, ?_, ?_, ?_, ?_, trivial⟩
        · exact .inl ⟨by kernel_rfl, fun L a1 w1 n' h => ⟨_, rfl, run_move (.tmp 4) rfl (h.var n' 4 (by kernel_rfl))⟩⟩
        · exact .inl ⟨by kernel_rfl, fun L a1 w1 n' h => ⟨_, rfl, run_move (.tmp 4) rfl (h.var n' 4 (by kernel_rfl))⟩⟩
        · exact .inl ⟨by kernel_rfl, fun L a1 w1 n' h => ⟨_, rfl, run_index0 88 (.tmp 3) (.tmp 14) 6 3 g3 (i) rfl Tryz.underlying88 Tryz.sizeOf3 (h.var n' 3 (by kernel_rfl)) (h.dep n' 1 14 (by kernel_rfl) rfl) (by omega)⟩⟩
        · exact .inl ⟨by kernel_rfl, fun L a1 w1 n' h => ⟨_, rfl, run_loadA 3 (.tmp 15) ⟨g3, i, none⟩ rfl Tryz.isAgg3 (h.dep n' 2 15 (by kernel_rfl) rfl) ((h.inv.1 (n'.later (by kernel_rfl))).cell hxc)⟩⟩
        · refine .inl ⟨by kernel_rfl, fun L a1 w1 n' h => ⟨.pointer (some ⟨g5, 0, none⟩), rfl, ?_⟩⟩
          have e0 : a1.eval (.tmp 5) = _ := h.var n' 5 (by kernel_rfl)
          unfold execOp
          simp only [e0]
          go_simp
        · exact .inl ⟨by kernel_rfl, fun L a1 w1 n' h => ⟨_, rfl, run_loadA 3 (.tmp 17) ⟨g5, 0, none⟩ rfl Tryz.isAgg3 (h.dep n' 4 17 (by kernel_rfl) rfl) ((r5.but h.inv.2.2 h53).cell rfl)⟩⟩
        · exact .inl ⟨by kernel_rfl, fun L a1 w1 n' h => ⟨_, rfl, run_max2 (.tmp 16) (.tmp 18) 3 _ _ rfl (h.dep n' 3 16 (by kernel_rfl) rfl) (h.dep n' 5 18 (by kernel_rfl) rfl)⟩⟩
        · refine .inl ⟨by kernel_rfl, fun L a1 w1 n' h => ⟨.pointer (some ⟨g5, 1, none⟩), rfl, ?_⟩⟩
          have e0 : a1.eval (.tmp 5) = _ := h.var n' 5 (by kernel_rfl)
          unfold execOp
          simp only [e0]
          go_simp
        · exact .inl ⟨by kernel_rfl, fun L a1 w1 n' h => ⟨_, rfl, run_loadA 3 (.tmp 20) ⟨g5, 1, none⟩ rfl Tryz.isAgg3 (h.dep n' 7 20 (by kernel_rfl) rfl) ((r5.but h.inv.2.2 h53).cell rfl)⟩⟩
        · exact .inl ⟨by kernel_rfl, fun L a1 w1 n' h => ⟨_, rfl, run_min2 (.tmp 19) (.tmp 21) 3 _ _ rfl (h.dep n' 6 19 (by kernel_rfl) rfl) (h.dep n' 8 21 (by kernel_rfl) rfl)⟩⟩
        · exact .inl ⟨by kernel_rfl, fun L a1 w1 n' h => ⟨_, rfl, run_index0 88 (.tmp 3) (.tmp 13) 6 3 g3 (i) rfl Tryz.underlying88 Tryz.sizeOf3 (h.var n' 3 (by kernel_rfl)) (h.dep n' 0 13 (by kernel_rfl) rfl) (by omega)⟩⟩
        · refine .inr fun L a1 w1 n' h K hK => ?_
          have no : L.getD 11 false = false := n'.not_yet
          refine st_store 3 (.tmp 23) (.tmp 22) g3 i 88 (vk .i64 cur) _ rfl (by kernel_rfl) (h.dep n' 10 23 (by kernel_rfl) rfl) (h.dep n' 9 22 (by kernel_rfl) rfl) (h.inv.1 no) (by rw [vk_len, hcl]; omega) rfl ?_
          intro w3 r3 o3
          rw [vk_set] at r3
          exact hK undef w3 trivial (JB.store h.inv o3 r3 rfl)
      case he =>
        intro V w8 hV hJ
        have r8 := hJ.2.1 rfl
        have bu := hJ.2.2
        clear hV hJ hcl hxc
        simp only [putOps, List.setIfInBounds_toArray, List.set_cons_succ, List.set_cons_zero, Nat.reduceAdd]
        refine hK1 _ _ ?_
        go_wp2
        go_roundw
        case rel => exact ⟨i + 1, by omega, by go_num, by rw [HN.out]; exact r8, r2a.but bu h23, B7.trans (bu.below q3 B7.size)⟩
        case measure => simp [intOf]; omega
    · have h6 : i = 6 := by omega
      subst h6
      rw [HF.out] at r3
      have z6b := hide (show (Tryz.prog.info? 88).map (·.size) = some (vk .i64 ms).length from size6i (by rw [← HF.out]; exact HAll.out 6))
      clear hlt hi
      go_wp2_with (first
        | (with_reducible refine wl_load_row rfl 88 (.tmp 3) g3 88 (vk .i64 ms) _ rfl rfl r3 Tryz.underlying88 rfl z6b.out ?_))
      refine (hnam wr).mono ?_
      rintro en w6 ⟨rfl, b6⟩
      have r2a := r2.later b6
      have B6 := br.trans (b6.mono br.size)
      go_wp2_with (first
        | (with_reducible refine wl_store_row rfl 24 (.tmp 2) (.tmp 26) g2 24 _ (vk .i64 ms) rfl rfl rfl r2a zF.out l6b.out (vk_one' _ _) ?_; intro w7 r7 o7))
      refine bodyPost_ret (v := .agg (vk .i64 ms).toArray) ?_ rfl ⟨rfl, ?_⟩
      · exact results_cell_row Tryz.results26 _ _ g2 24 _ (0, 0) _ rfl r7 Tryz.underlying24 rfl zF.out
      · exact B6.trans (o7.below q2)
end Go.Proofs.YtooooncmjhcdbaaGreatDoor

/-
  Keys: which names may be, and their bytes: contracts. Own work.
-/
namespace Go.Proofs.YtooooncmjhcdbaaGreatDoor
open Go.RowKit
theorem run_eqlS {P : Program} {o : Oper} {a : Act} {w : World} {t u : Nat} {xs ys : Array Value} {r : Bool} (x y : Operand) (ho : o.op = .binOp .eql t x y u) (hE : ∀ w, (Op.equalIn 10000 t (.agg xs) (.agg ys)).run P w = .ok r w) (hx : a.eval x = .agg xs) (hy : a.eval y = .agg ys) (hm : P.eqGuardType P.depth t = false) :
    (execOp a.eval o).run P w = .ok (.value (.bool r)) w := by
  unfold execOp
  simp only [ho, hx, hy]
  go_simp
theorem run_index1 {P : Program} (w : World) (T elem len : Nat) (cs : List Value) (i : Nat) (v : Value) (hu : P.underlying T = some (.array len elem)) (ha : ∀ w, (isAgg elem).run P w = .ok false w) (hs : ∀ w, (sizeOf elem).run P w = .ok 1 w) (hi : i < len) (hv : cs[i]? = some v) :
    (Instr.index T (.agg cs.toArray) (.int .i64 i)).run P w = .ok v w := by
  have h2 : ((0 : Int) ≤ i ∧ (i : Int) < len) := by omega
  have h3 : ¬ len ≤ i := by omega
  simp [Instr.index, asIntOf, underlying, hu, part, ha, hs, h2, h3, hv]
def SVa (ns ms : List Int) (ok : Bool) (opn : Nat) (v : Value) : Prop :=
  match opn with
  | 0 | 1 => v = .agg (vk .i64 ns).toArray
  | 2 => v = .agg (vk .i64 ms).toArray
  | 3 | 4 => v = .bool ok
  | _ => True

set_option maxRecDepth 100000 in
set_option maxHeartbeats 1000000 in
theorem valid_any (a b c d e f : Int) (w : World) (hT : TabK w) : Calls Tryz.prog 15 #[.agg (vk .i64 [a, b, c, d, e, f]).toArray] w fun en w' => en = .returned (.bool (okB a b c d e f)) ∧ Below w.heap.size w w' := by
  have zId := hide (sizeId (xs := [a, b, c, d, e, f]) rfl)
  have hN := nearest_any a b c d e f
  have hok := nr_all a b c d e f
  obtain ⟨a', b', c', d', e', f', hfin⟩ : ∃ a' b' c' d' e' f', nrP [a, b, c, d, e, f] 6 = [a', b', c', d', e', f'] := ⟨_, _, _, _, _, _, rfl⟩
  have hE := eqId a b c d e f a' b' c' d' e' f'
  rw [hfin] at hN hok
  rw [hok] at hE
  clear hok hfin
  generalize okB a b c d e f = ok at *
  generalize [a, b, c, d, e, f] = ns at *
  generalize [a', b', c', d', e', f'] = ms at *
  go_enter Tryz.func15, Tryz.ntmps15
  go_wp2_with (first
    | (with_reducible refine wl_box rfl 24 (.tmp 0) _ (vk .i64 ns) rfl rfl rfl ?_; intro g1 w1 r1 p1 l1 b1))
  rename_i K1 hK1
  have hT1 := hT.later b1
  clear hT
  have hT := hT1
  clear hT1
  refine wp_region_vals [2] (SVa ns ms ok) (JR w1) (by kernel_rfl) (by kernel_rfl) (by kernel_rfl) (by kernel_rfl) (by kernel_rfl) (Below.refl _ _).drew ?obs ?he
  case obs =>
    refine ⟨?_, ?_, ?_, ?_, ?_, trivial⟩
    · exact .inl ⟨by kernel_rfl, fun L a1 w1 n' h => ⟨_, rfl, run_loadRow 24 (.tmp 1) g1 24 _ _ rfl (h.var n' 1 (by kernel_rfl)) (r1.later h.inv) Tryz.underlying24 rfl (zId.out)⟩⟩
    · exact .inl ⟨by kernel_rfl, fun L a1 w1 n' h => ⟨_, rfl, run_loadRow 24 (.tmp 1) g1 24 _ _ rfl (h.var n' 1 (by kernel_rfl)) (r1.later h.inv) Tryz.underlying24 rfl (zId.out)⟩⟩
    · refine .inr fun L a1 w1 n' h K hK => ?_
      have e0 : a1.eval (.tmp 4) = .agg (vk .i64 ns).toArray := h.dep n' 1 4 (by kernel_rfl) rfl
      refine st_call 26 _ _ #[.agg (vk .i64 ns).toArray] rfl Tryz.call26 ?_ (hN w1 (hT.later h.inv)) ?_
      · simp only [List.map_toArray, List.map_cons, List.map_nil, e0]
      · rintro e w3 ⟨rfl, b9⟩
        exact ⟨_, rfl, hK _ w3 rfl (JR.call h.inv b9)⟩
    · exact .inl ⟨by kernel_rfl, fun L a1 w1 n' h => ⟨_, rfl, run_eqlS (.tmp 3) (.tmp 5) rfl hE (h.dep n' 0 3 (by kernel_rfl) rfl) (h.dep n' 2 5 (by kernel_rfl) rfl) (by kernel_rfl)⟩⟩
    · exact .inl ⟨by kernel_rfl, fun L a1 w1 n' h => ⟨_, rfl, run_assign (.tmp 6) rfl (h.dep n' 3 6 (by kernel_rfl) rfl)⟩⟩
  case he =>
    intro V w5 hV hJ
    have h4 : V 4 = .bool ok := hV 4 2 rfl
    have hB : Below w1.heap.size w1 w5 := hJ
    clear hV hJ
    simp only [putOps, List.setIfInBounds_toArray, List.set_cons_succ, List.set_cons_zero]
    refine hK1 _ _ ?_
    go_wp2
    go_ret
    exact ⟨congrArg Ending.returned h4, b1.trans (hB.mono b1.size)⟩
/-- The bytes of the first numbers. -/
def idP (ns : List Int) : Nat → List Int
  | 0 => []
  | k + 1 => idP ns k ++ highB (max (ns.getD k 0) 0) 8
theorem idP_len (ns : List Int) (k : Nat) : (idP ns k).length = 8 * k := by
  induction k with
  | zero => rfl
  | succ k ih => unfold idP; rw [List.length_append, ih, highB_length]; omega
set_option maxRecDepth 100000 in
set_option maxHeartbeats 1000000 in
theorem bytes_no (a b c d e f : Int) (w : World) (hT : TabK w) (hok : okB a b c d e f = false) : Calls Tryz.prog 29 #[.agg (vk .i64 [a, b, c, d, e, f]).toArray] w fun en w' => en = .returned (.slice none 0 0) ∧ Below w.heap.size w w' := by
  have zId := hide (sizeId (xs := [a, b, c, d, e, f]) rfl)
  have hV := valid_any a b c d e f
  rw [hok] at hV
  clear hok
  generalize [a, b, c, d, e, f] = ns at *
  go_enter Tryz.func29, Tryz.ntmps29
  go_wp2_with (first
    | (with_reducible refine wl_box rfl 24 (.tmp 0) _ (vk .i64 ns) rfl rfl rfl ?_; intro g1 w1 r1 p1 l1 b1)
    | (with_reducible refine wl_load_row rfl 24 (.tmp 1) g1 24 (vk .i64 ns) _ rfl rfl r1 Tryz.underlying24 rfl zId.out ?_))
  refine (hV w1 (hT.later b1)).mono ?_
  rintro en w2 ⟨rfl, b2⟩
  go_wp2_with fail
  go_ret
  exact ⟨rfl, b1.trans (b2.mono b1.size)⟩
set_option maxRecDepth 100000 in
set_option maxHeartbeats 2000000 in
theorem bytes_yes (a b c d e f : Int) (w : World) (hT : TabK w) (hok : okB a b c d e f = true) : Calls Tryz.prog 29 #[.agg (vk .i64 [a, b, c, d, e, f]).toArray] w (RetBs (idP [a, b, c, d, e, f] 6) w) := by
  have zId := hide (sizeId (xs := [a, b, c, d, e, f]) rfl)
  have hV := valid_any a b c d e f
  have hnum := fun w => numbers_any a b c d e f w
  rw [hok] at hV
  have hin : ∀ i, i < 6 → isI ([a, b, c, d, e, f].getD i 0) := by
    unfold okB at hok
    simp only [decide_eq_true_eq] at hok
    intro i hi
    have : i = 0 ∨ i = 1 ∨ i = 2 ∨ i = 3 ∨ i = 4 ∨ i = 5 := by omega
    unfold isI
    rcases this with rfl | rfl | rfl | rfl | rfl | rfl <;> simp only [List.getD_cons_zero, List.getD_cons_succ] <;> omega
  have Hin := hide hin
  have Hl := hide (show [a, b, c, d, e, f].length = 6 from rfl)
  clear hok hin
  generalize [a, b, c, d, e, f] = ns at *
  go_enter Tryz.func29, Tryz.ntmps29
  go_wp2_with (first
    | (with_reducible refine wl_box rfl 24 (.tmp 0) _ (vk .i64 ns) rfl rfl rfl ?_; intro g1 w1 r1 p1 l1 b1)
    | (with_reducible refine wl_load_row (o := ⟨some 6, _, _, _, _, _⟩) rfl 24 (.tmp 1) g1 24 (vk .i64 ns) _ rfl rfl r1 Tryz.underlying24 rfl zId.out ?_))
  refine (hV w1 (hT.later b1)).mono ?_
  rintro en w2 ⟨rfl, b2⟩
  have B2 := b1.trans (b2.mono b1.size)
  have r1a := r1.later b2
  clear r1 hV
  go_wp2_with (first
    | (with_reducible refine wl_load_row rfl 24 (.tmp 1) g1 24 (vk .i64 ns) _ rfl rfl r1a Tryz.underlying24 rfl zId.out ?_))
  refine (hnum w2).mono ?_
  rintro en w3 ⟨rfl, b3⟩
  have B3 := B2.trans (b3.mono B2.size)
  clear r1a hnum
  go_wp2_with fail
  go_loopw [3, 11] (fun ov iv wr => ∃ (i : Nat) (A : Option Addr) (c : Nat), i ≤ 6 ∧ iv = .int .i64 i ∧ ov = .slice A (8 * i) c ∧ Bs wr wr.heap.size A (8 * i) (idP ns i) ∧ 8 * i ≤ c ∧ c ≤ maxLen ∧ Below w.heap.size w wr) (fun _ iv _ => 6 - (intOf iv).toNat)
  case atStart => exact ⟨0, none, 0, Nat.zero_le _, rfl, rfl, Bs.nil_, Nat.le_refl _, by simp [maxLen], B3⟩
  case round =>
    clear B3
    obtain ⟨i, A, c, hi, rfl, rfl, hbs, hc1, hc2, br⟩ := hrel
    by_cases hlt : i < 6
    · have hIx := fun w => run_index1 (P := Tryz.prog) w 88 3 6 (vk .i64 ns) i _ Tryz.underlying88 Tryz.isAgg3 Tryz.sizeOf3 hlt (vk_get (by rw [Hl.out]; exact hlt))
      have hxi := Hin.out i hlt
      have hnew : idP ns (i + 1) = idP ns i ++ highB (max (ns.getD i 0) 0) 8 := rfl
      have HN := hide hnew
      have hm : 8 * i ≤ 1000000 := by omega
      have H8 := hide (show 8 * (i + 1) = 8 * i + 8 by omega)
      obtain ⟨L, hL⟩ : ∃ L, L = 8 * i := ⟨_, rfl⟩
      rw [← hL] at hbs hm ⊢
      have HL := hide hL
      clear hnew hL hc1
      generalize ns.getD i 0 = x at *
      generalize idP ns i = X0 at *
      have hP := fun w hb => putNum_any A L c X0 x w hb hm hxi.1 hxi.2
      go_wp2_with (first | rw [hIx])
      refine (hP wr hbs).mono ?_
      rintro en w5 ⟨A5, n5, c5, rfl, h5, hn5, hc5, b5⟩
      have hn : n5 = L + 8 := by rw [← h5.1, List.length_append, hbs.1, highB_length]
      subst hn
      have B5 := br.trans (b5.mono br.size)
      have h5' : Bs w5 w5.heap.size A5 (8 * (i + 1)) (idP ns (i + 1)) := by rw [HN.out, H8.out, ← HL.out]; exact h5
      have hn5' : 8 * (i + 1) ≤ c5 := by have := HL.out; omega
      have hq : (Value.slice A5 (L + 8) c5) = .slice A5 (8 * (i + 1)) c5 := by rw [H8.out, ← HL.out]
      rw [hq]
      clear h5 hn5 hq hIx hbs hP b5
      go_wp2_with fail
      refine ⟨⟨i + 1, A5, c5, by omega, by go_num, rfl, h5', hn5', hc5, B5⟩, by simp [intOf]; omega⟩
    · have h6 : i = 6 := by omega
      subst h6
      have hfin : RetBs (idP ns 6) w (.returned (.slice A (8 * 6) c)) wr := ⟨A, 8 * 6, c, rfl, hbs, hc1, hc2, br⟩
      have HF := hide hfin
      clear hbs hc1 hfin hlt hi
      go_wp2_with fail
      go_ret
      exact HF.out
end Go.Proofs.YtooooncmjhcdbaaGreatDoor

/-
  Keys, the document's answers: which names may be, and their bytes; the laws KeysIds and KeysNext: contracts. Own work.
-/
namespace Go.Proofs.YtooooncmjhcdbaaGreatDoor
open Go.RowKit
theorem equal_same (A B : Option Addr) (n m c d : Nat) (xs : List Int) (w : World) (h1 : Bs w w.heap.size A n xs) (h2 : Bs w w.heap.size B m xs) :
    Calls Tryz.prog 13 #[.slice A n c, .slice B m d] w fun e w' => e = .returned (.bool true) ∧ Below w.heap.size w w' := by
  refine (equal_any A B n m c d xs xs w h1 h2).mono ?_
  rintro e w' ⟨rfl, rfl⟩
  exact ⟨by rw [equal_self], Below.refl _ _⟩
end Go.Proofs.YtooooncmjhcdbaaGreatDoor

/-
  Keys: the document's bytes; the laws' own 'awake'; the law KeysNext: contracts. Own work.
-/
namespace Go.Proofs.YtooooncmjhcdbaaGreatDoor
open Go.RowKit
theorem builtA : Tryz.prog.built 24 [(0, .int .i64 3), (2, .int .i64 2)] = some (vk .i64 [3, 0, 2, 0, 0, 0]).toArray := by kernel_rfl
end Go.Proofs.YtooooncmjhcdbaaGreatDoor

/-
  Keys: nonces: contracts. Own work.
-/
namespace Go.Proofs.YtooooncmjhcdbaaGreatDoor
open Go.RowKit
theorem results_row_tmp {P : Program} {fn : Func} {p u : Tmp} {ty : TypeId} (h : fn.results = #[.cell p ty, .tmp u]) (tmps : Array Value) (w : World) (g : Nat) (t : TypeId) (cs : Array Value) (fr : Nat × Nat) (d : TypeDesc) (v : Value)
    (hp : tmps.getD p undef = .pointer (some ⟨g, 0, none⟩)) (hg : w.heap[g]? = some (.cells cs t fr))
    (hu : P.underlying ty = some d) (hd : (match d with | .struct _ | .array _ _ => true | _ => false) = true) (hi : (P.info? ty).map (·.size) = some cs.size) (hv : tmps.getD u undef = v) :
    (results fn tmps).run P w = .ok (.tuple #[.agg cs, v]) w := by
  rw [results_cell_tmp h, hp, hv]
  simp [asAddr, run_loadVar_row w g t ty cs fr d hg hu hd hi]
theorem lowB_inj {n : Nat} : ∀ {x y : Int}, 0 ≤ x → x < 256 ^ n → 0 ≤ y → y < 256 ^ n → lowB x n = lowB y n → x = y := by
  induction n with
  | zero => intro x y h1 h2 h3 h4 _; simp at h2 h4; omega
  | succ n ih =>
    intro x y h1 h2 h3 h4 h
    simp only [lowB, List.cons.injEq] at h
    rw [Int.pow_succ] at h2 h4
    have := ih (Int.ediv_nonneg h1 (by decide)) (by omega) (Int.ediv_nonneg h3 (by decide)) (by omega) h.2
    omega
theorem highB_inj {x y : Int} (h1 : 0 ≤ x) (h2 : x ≤ 1099511627776) (h3 : 0 ≤ y) (h4 : y ≤ 1099511627776) (h : highB x 8 = highB y 8) : x = y := by
  have e : (256 : Int) ^ 8 = 18446744073709551616 := by decide
  exact lowB_inj (n := 8) h1 (by rw [e]; omega) h3 (by rw [e]; omega) (List.reverse_inj.1 h)
/-- The nonce of a number. -/
def nonL (x : Int) : List Int := List.replicate 4 0 ++ highB (max x 0) 8
theorem nonL_len (x : Int) : (nonL x).length = 12 := by unfold nonL; rw [List.length_append, highB_length]; rfl
theorem nonL_inj {x y : Int} (h1 : 0 ≤ x ∧ x ≤ 1099511627776) (h2 : 0 ≤ y ∧ y ≤ 1099511627776) : nonL x = nonL y ↔ x = y := by
  refine ⟨fun h => ?_, fun h => by rw [h]⟩
  unfold nonL at h
  have := List.append_cancel_left h
  rw [Int.max_eq_left h1.1, Int.max_eq_left h2.1] at this
  exact highB_inj h1.1 h1.2 h2.1 h2.2 this
def zs12 : List Int := List.replicate 12 0
theorem zero12 : (Tryz.prog.info? 45).map (fun i => i.zero) = some (some (.agg (bv zs12).toArray)) := by kernel_rfl
theorem size12b {xs : List Int} (h : xs.length = 12) : (Tryz.prog.info? 45).map (·.size) = some (bv xs).length := by rw [bv_len, h]; kernel_rfl
set_option maxRecDepth 100000 in
set_option maxHeartbeats 1000000 in
theorem nonce_lo (x : Int) (w : World) (hi : isI x) (hx : x < 0) : Calls Tryz.prog 18 #[.int .i64 x] w fun e w' => e = .returned (.tuple #[.agg (bv zs12).toArray, .bool false]) ∧ Below w.heap.size w w' := by
  have zz := zero12
  have zf := hide (size12b (xs := zs12) (by decide))
  have hd : decide (x < 0) = true := by simp; omega
  skip
  generalize zs12 = Z at *
  go_enter Tryz.func18, Tryz.ntmps18
  go_wp2_with (first
    | (with_reducible refine wl_alloc (o := ⟨some 2, _, _, _, _, _⟩) rfl 45 _ (bv Z) rfl zz rfl ?_; intro g2 w2 r2 p2 l2 b2)
    | (with_reducible refine wl_alloc (o := ⟨some 4, _, _, _, _, _⟩) rfl 45 _ (bv Z) rfl zz rfl ?_; intro g4 w4 r4 p4 l4 b4; have r2a := r2.later b4)
    | (with_reducible refine wl_load_row rfl 45 (.tmp 4) g4 45 (bv Z) _ rfl rfl r4 Tryz.underlying45 rfl zf.out ?_)
    | (with_reducible refine wl_store_row rfl 45 (.tmp 2) (.tmp 12) g2 45 _ (bv Z) rfl rfl rfl r2a zf.out rfl (bv_one _) ?_; intro w5 r5 o5))
  refine bodyPost_ret (v := .tuple #[.agg (bv Z).toArray, .bool false]) ?_ rfl ⟨rfl, ?_⟩
  · exact results_row_tmp Tryz.results18 _ _ g2 45 _ (0, 0) _ _ rfl r5 Tryz.underlying45 rfl zf.out rfl
  · exact (b2.trans (b4.mono b2.size)).trans (o5.below p2)
set_option maxRecDepth 100000 in
set_option maxHeartbeats 1000000 in
theorem nonce_hi (x : Int) (w : World) (hi : isI x) (hx : 1099511627776 < x) : Calls Tryz.prog 18 #[.int .i64 x] w fun e w' => e = .returned (.tuple #[.agg (bv zs12).toArray, .bool false]) ∧ Below w.heap.size w w' := by
  have zz := zero12
  have zf := hide (size12b (xs := zs12) (by decide))
  have hd : decide (x < 0) = false := by simp; omega
  have hd2 : decide (1099511627776 < x) = true := by simp; omega
  generalize zs12 = Z at *
  go_enter Tryz.func18, Tryz.ntmps18
  go_wp2_with (first
    | (with_reducible refine wl_alloc (o := ⟨some 2, _, _, _, _, _⟩) rfl 45 _ (bv Z) rfl zz rfl ?_; intro g2 w2 r2 p2 l2 b2)
    | (with_reducible refine wl_alloc (o := ⟨some 4, _, _, _, _, _⟩) rfl 45 _ (bv Z) rfl zz rfl ?_; intro g4 w4 r4 p4 l4 b4; have r2a := r2.later b4)
    | (with_reducible refine wl_load_row rfl 45 (.tmp 4) g4 45 (bv Z) _ rfl rfl r4 Tryz.underlying45 rfl zf.out ?_)
    | (with_reducible refine wl_store_row rfl 45 (.tmp 2) (.tmp 12) g2 45 _ (bv Z) rfl rfl rfl r2a zf.out rfl (bv_one _) ?_; intro w5 r5 o5))
  refine bodyPost_ret (v := .tuple #[.agg (bv Z).toArray, .bool false]) ?_ rfl ⟨rfl, ?_⟩
  · exact results_row_tmp Tryz.results18 _ _ g2 45 _ (0, 0) _ _ rfl r5 Tryz.underlying45 rfl zf.out rfl
  · exact (b2.trans (b4.mono b2.size)).trans (o5.below p2)
set_option maxRecDepth 100000 in
set_option maxHeartbeats 1000000 in
theorem nonce_yes (x : Int) (w : World) (hi : isI x) (hx : 0 ≤ x ∧ x ≤ 1099511627776) : Calls Tryz.prog 18 #[.int .i64 x] w fun e w' => e = .returned (.tuple #[.agg (bv (nonL x)).toArray, .bool true]) ∧ Below w.heap.size w w' := by
  have zz := zero12
  have zf := hide (size12b (nonL_len x))
  have lf := hide (show (bv zs12).length = (bv (nonL x)).length by rw [bv_len, bv_len, nonL_len]; rfl)
  have hd : decide (x < 0) = false := by simp; omega
  have hd2 : decide (1099511627776 < x) = false := by simp; omega
  have hP := fun w => putNum_any none 0 0 [] x w Bs.nil_ (by decide) hi.1 hi.2
  rw [List.nil_append] at hP
  have hHl := highB_length (max x 0) 8
  have hdef : nonL x = zs12.take 4 ++ highB (max x 0) 8 ++ zs12.drop (4 + 8) := by unfold nonL zs12; simp
  have HD := hide hdef
  have hz12 := hide (show zs12.length = 12 by decide)
  clear hdef
  generalize nonL x = FS at *
  generalize highB (max x 0) 8 = X at *
  generalize zs12 = Z at *
  go_enter Tryz.func18, Tryz.ntmps18
  go_wp2_with (first
    | (with_reducible refine wl_alloc (o := ⟨some 2, _, _, _, _, _⟩) rfl 45 _ (bv Z) rfl zz rfl ?_; intro g2 w2 r2 p2 l2 b2)
    | (with_reducible refine wl_alloc (o := ⟨some 4, _, _, _, _, _⟩) rfl 45 _ (bv Z) rfl zz rfl ?_; intro g4 w4 r4 p4 l4 b4; have r2a := r2.later b4))
  have B4 := b2.trans (b4.mono b2.size)
  refine (hP w4).mono ?_
  rintro e w5 ⟨A, n, c, rfl, h5, hn, hc, b5⟩
  have hn8 : n = 8 := by rw [← h5.1]; exact hHl
  subst hn8
  have B5 := B4.trans (b5.mono B4.size)
  have q4 : w.heap.size ≤ g4 := Nat.le_trans b2.size p4
  have r2b := r2a.later b5
  have r4b := r4.later b5
  have h24 : g2 ≠ g4 := by have := r2.lt; omega
  have hS := fun w => run_sliceArr (P := Tryz.prog) w 45 12 5 Tryz.underlying45 Tryz.sizeOf5 .i64 g4 4 (by decide)
  have h4lt : g4 < w5.heap.size := r4b.lt
  clear r2 r2a r4 b5 hP hHl
  have hlt24 : g2 < g4 := by have := b2.size; omega
  go_wp2_with (first
    | (refine wpList_copy_bs rfl (.tmp 18) (.tmp 19) _ _ rfl 5 Tryz.underlying25 u8_size g4 4 _ _ 8 c A rfl rfl Z X 45 w5.heap.size (Row.toOwn r4b) h5 (by decide) (by rw [hz12.out]; decide) g4 w5 (Below.refl _ _) (Nat.le_refl _) ?_; intro w6 r6 b6; have r6' : Row w6 45 g4 (bv FS) := (by rw [HD.out]; exact r6); have r2c := r2b.below b6 hlt24)
    | (with_reducible refine wl_load_row rfl 45 (.tmp 4) g4 45 (bv FS) _ rfl rfl r6' Tryz.underlying45 rfl zf.out ?_)
    | (with_reducible refine wl_store_row rfl 45 (.tmp 2) (.tmp 21) g2 45 _ (bv FS) rfl rfl rfl r2c zf.out lf.out (bv_one _) ?_; intro w7 r7 o7))
  refine bodyPost_ret (v := .tuple #[.agg (bv FS).toArray, .bool true]) ?_ rfl ⟨rfl, ?_⟩
  · exact results_row_tmp Tryz.results18 _ _ g2 45 _ (0, 0) _ _ rfl r7 Tryz.underlying45 rfl zf.out rfl
  · exact (B5.trans (b6.mono q4)).trans (o7.below p2)
/-- Bytes that a call made in new memory. -/
def RetFn (out : List Int) (w : World) (e : Ending) (w' : World) : Prop :=
  ∃ A n c, e = .returned (.slice A n c) ∧ Bs w' w'.heap.size A n out ∧ n ≤ c ∧ Below w.heap.size w w' ∧ ∀ x, A = some x → w.heap.size ≤ x.block
end Go.Proofs.YtooooncmjhcdbaaGreatDoor

/-
  From the cards' premise to the table of keys; from a reading of a name to its numbers. Own work.
-/
namespace Go.Proofs.YtooooncmjhcdbaaGreatDoor
open Go.RowKit Go.ChangeShapes Go.WideShapes
theorem gBounds : Tryz.prog.globalNamed "intaglio/keys.bounds" = some 0 := by kernel_rfl
theorem tBounds : (Tryz.prog.globals[0]?).map (·.type) = some 91 := by kernel_rfl
def laidK : List (String × DataW Unit) := [("intaglio/keys.bounds", Rows.laid_intaglio_keys_bounds)]
theorem fieldsB : (Tryz.prog.fieldsOf 90)[0]?.map (fun f => (f.offset, f.type)) = some (0, 3) ∧ (Tryz.prog.fieldsOf 90)[1]?.map (fun f => (f.offset, f.type)) = some (1, 3) ∧ (Tryz.prog.fieldsOf 90).size = 2 := ⟨by kernel_rfl, by kernel_rfl, by kernel_rfl⟩
theorem two_cells {α : Type} {l : List α} {x y : α} (hl : l.length = 2) (h0 : l[0]? = some x) (h1 : l[1]? = some y) : l = [x, y] := by
  match l, hl with
  | [a, b], _ => simp at h0 h1; rw [h0, h1]
section
variable {H : Type} {enc : TypeId × Value → H} {w : World} {spare : Nat → Bool} {held : Bool} {base : Nat}
set_option maxRecDepth 100000 in
/-- A number among a struct's fields. -/
theorem field_int {t n fuel : Nat} {fs : Array Field} {cs : List Value} {xs : List (DataW H × List MemPlace)} (hlen : xs.length = fs.size)
    (hf : ∀ (i : Nat) (f : Field), fs[i]? = some f → DataW.trod enc Tryz.prog w base spare held n f.type ((cs.drop f.offset).take (Tryz.prog.cellsOf f.type)) = xs[i]?)
    (i : Nat) (hi : fs[i]?.map (fun f => (f.offset, f.type)) = some (i, 3)) : ∃ z : Int, cs[i]? = some (.int .i64 z) ∧ xs[i]? = some (.lit (.int .i64 z), []) ∧ isI z := by
  obtain ⟨f, hfi, hft⟩ := Option.map_eq_some_iff.1 hi
  injection hft with h1 h2
  have hlt : i < xs.length := by rw [hlen]; exact (Array.getElem?_eq_some_iff.1 hfi).1
  have h := hf i f hfi
  rw [h1, h2, show Tryz.prog.cellsOf 3 = 1 by kernel_rfl, List.getElem?_eq_getElem hlt] at h
  obtain ⟨z, hz, hx, hw⟩ := DataW.trod_int Tryz.underlying3 h
  refine ⟨z, ?_, by rw [List.getElem?_eq_getElem hlt, hx], wf_i64 hw⟩
  have := congrArg (·[0]?) hz
  simpa [List.getElem?_take, List.getElem?_drop] using this
theorem field_id0 : (Tryz.prog.fieldsOf 24)[0]?.map (fun f => (f.offset, f.type)) = some (0, 3) := by kernel_rfl
theorem field_id1 : (Tryz.prog.fieldsOf 24)[1]?.map (fun f => (f.offset, f.type)) = some (1, 3) := by kernel_rfl
theorem field_id2 : (Tryz.prog.fieldsOf 24)[2]?.map (fun f => (f.offset, f.type)) = some (2, 3) := by kernel_rfl
theorem field_id3 : (Tryz.prog.fieldsOf 24)[3]?.map (fun f => (f.offset, f.type)) = some (3, 3) := by kernel_rfl
theorem field_id4 : (Tryz.prog.fieldsOf 24)[4]?.map (fun f => (f.offset, f.type)) = some (4, 3) := by kernel_rfl
theorem field_id5 : (Tryz.prog.fieldsOf 24)[5]?.map (fun f => (f.offset, f.type)) = some (5, 3) := by kernel_rfl
set_option maxRecDepth 100000 in
theorem field_id (i : Nat) (hi : i < 6) : (Tryz.prog.fieldsOf 24)[i]?.map (fun f => (f.offset, f.type)) = some (i, 3) :=
  match i, hi with
  | 0, _ => field_id0
  | 1, _ => field_id1
  | 2, _ => field_id2
  | 3, _ => field_id3
  | 4, _ => field_id4
  | 5, _ => field_id5
theorem six_cells {l : List Value} (hl : l.length = 6) (key : ∀ i, i < 6 → ∃ z : Int, l[i]? = some (.int .i64 z) ∧ isI z) : ∃ a b c d e f : Int, l = vk .i64 [a, b, c, d, e, f] ∧ isI a ∧ isI b ∧ isI c ∧ isI d ∧ isI e ∧ isI f := by
  obtain ⟨a, ha, a'⟩ := key 0 (by decide)
  obtain ⟨b, hb, b'⟩ := key 1 (by decide)
  obtain ⟨c, hc, c'⟩ := key 2 (by decide)
  obtain ⟨d, hd, d'⟩ := key 3 (by decide)
  obtain ⟨e, he, e'⟩ := key 4 (by decide)
  obtain ⟨f, hf, f'⟩ := key 5 (by decide)
  refine ⟨a, b, c, d, e, f, ?_, a', b', c', d', e', f'⟩
  match l, hl with
  | [v0, v1, v2, v3, v4, v5], _ =>
    simp at ha hb hc hd he hf
    rw [ha, hb, hc, hd, he, hf]
    rfl
set_option maxRecDepth 100000 in
/-- A name, as it was read. -/
theorem open_id {fuel : Nat} {cs : List Value} {x : DataW H × List MemPlace} (h : DataW.trod enc Tryz.prog w base spare held fuel 24 cs = some x) :
    ∃ a b c d e f : Int, cs = vk .i64 [a, b, c, d, e, f] ∧ isI a ∧ isI b ∧ isI c ∧ isI d ∧ isI e ∧ isI f := by
  obtain ⟨xs, n, _, rfl, hl, hlen, hf⟩ := DataW.trod_struct (fs := Tryz.prog.fieldsOf 24) Tryz.underlying24 h
  rw [show Tryz.prog.cellsOf 24 = 6 by kernel_rfl] at hl
  exact six_cells hl fun i hi => by
    obtain ⟨z, h1, _, h2⟩ := field_int (t := 0) (fuel := 0) hlen hf i (field_id i hi)
    exact ⟨z, h1, h2⟩
end
theorem rows6 {α : Type} (cs : List α) (h : cs.length = 12) (r : Nat → List α) (hr : ∀ i, i < 6 → (cs.drop (i * 2)).take 2 = r i) : cs = r 0 ++ (r 1 ++ (r 2 ++ (r 3 ++ (r 4 ++ r 5)))) := by
  rw [← hr 0 (by omega), ← hr 1 (by omega), ← hr 2 (by omega), ← hr 3 (by omega), ← hr 4 (by omega), ← hr 5 (by omega)]
  have e5 : (cs.drop (5 * 2)).take 2 = cs.drop 10 := List.take_of_length_le (by simp; omega)
  have st : ∀ k, (cs.drop k).take 2 ++ cs.drop (k + 2) = cs.drop k := fun k => by rw [← List.drop_drop, List.take_append_drop]
  rw [e5]
  simp only [show 4 * 2 = 8 from rfl, show 3 * 2 = 6 from rfl, show 2 * 2 = 4 from rfl, show 1 * 2 = 2 from rfl, show 0 * 2 = 0 from rfl]
  rw [st 8, st 6, st 4, st 2, st 0, List.drop_zero]
set_option maxRecDepth 100000 in
theorem tabK_of {W : World} {g : Nat} {cs : Array Value} {fuel base : Nat} {spare : Nat → Bool} {held : Bool} {H : Type} {enc : TypeId × Value → H} {p : List MemPlace} (hg : g = 0)
    (hd : DataW.trod enc Tryz.prog W base spare held fuel 91 cs.toList = some (Rows.laid_intaglio_keys_bounds, p)) : cs.toList = vk .i64 boundsL := by
  have c2 : Tryz.prog.cellsOf 90 = 2 := by kernel_rfl
  have c12 : Tryz.prog.cellsOf 91 = 12 := by kernel_rfl
  obtain ⟨xs, m1, rfl, hx1, hlen, hn, hel⟩ := DataW.trod_array Tryz.underlying91 hd
  rw [c12] at hlen
  rw [c2] at hel
  have hxs : xs.map (·.1) = (List.range 6).map fun i => (DataW.agg [.lit (.int .i64 (boundsL.getD (2 * i) 0)), .lit (.int .i64 (boundsL.getD (2 * i + 1) 0))] : DataW H) := by
    have := congrArg Prod.fst hx1
    simp only [Rows.laid_intaglio_keys_bounds] at this
    injection this with this
    exact this.symm
  have hrow : ∀ i, i < 6 → (cs.toList.drop (i * 2)).take 2 = vk .i64 [boundsL.getD (2 * i) 0, boundsL.getD (2 * i + 1) 0] := by
    intro i hi
    have h1 := hel i hi
    rw [List.getElem?_eq_getElem (show i < xs.length by omega)] at h1
    have h2 : (xs[i]'(by omega)).1 = (DataW.agg [.lit (.int .i64 (boundsL.getD (2 * i) 0)), .lit (.int .i64 (boundsL.getD (2 * i + 1) 0))] : DataW H) := by
      have := congrArg (·[i]?) hxs
      simpa [hi, List.getElem?_eq_getElem (show i < xs.length by omega)] using this
    obtain ⟨ys, n, _, hy, hl, hyl, hf⟩ := DataW.trod_struct (fs := Tryz.prog.fieldsOf 90) Tryz.underlying90 h1
    obtain ⟨z0, q0, d0, _⟩ := field_int (t := 0) (fuel := 0) hyl hf 0 fieldsB.1
    obtain ⟨z1, q1, d1, _⟩ := field_int (t := 0) (fuel := 0) hyl hf 1 fieldsB.2.1
    rw [hy] at h2
    have hy2 := two_cells (by rw [hyl]; exact fieldsB.2.2) d0 d1
    rw [hy2] at h2
    simp only [List.map_cons, List.map_nil] at h2
    injection h2 with h2
    injection h2 with e0 h2
    injection h2 with e1 _
    injection e0 with e0
    injection e0 with _ e0
    injection e1 with e1
    injection e1 with _ e1
    rw [e0] at q0
    rw [e1] at q1
    exact two_cells (by rw [hl, c2]) q0 q1
  rw [rows6 cs.toList hlen _ hrow]
  rfl
set_option maxRecDepth 100000 in
theorem tabsK_of_laid {W : World} (h : laidMetH Tryz.prog laidK W) : TabK W := by
  rw [MakeChecks.laidMetH_plain _ _ _ (by kernel_rfl)] at h
  obtain ⟨ps, ⟨g0, t0, cs0, f0, p0, q0, hg0, ht0, hv0, hd0, _, _⟩, _, _⟩ := h
  obtain rfl := Option.some.inj (gBounds.symm.trans hg0)
  obtain rfl := Option.some.inj (tBounds.symm.trans ht0)
  have e0 := tabK_of rfl hd0
  have b0 : 0 < W.heap.size := block_lt_of_cell (v := .int .i64 (boundsL.getD 0 0)) (by rw [World.var?_cell hg0 hv0 0, ← Array.getElem?_toList, e0]; rfl)
  refine ⟨b0, fun j hj => ?_⟩
  rw [World.var?_cell hg0 hv0 j, ← Array.getElem?_toList, e0]
  exact vk_get (by exact hj)
end Go.Proofs.YtooooncmjhcdbaaGreatDoor

/-
  Several own texts in one: ShaP1, ShaP2, KeyP, KeyA, KeyB, KeyC, KeyD, KeyE, KeyT. Own work.
-/
import Derived.Laws.StructEq
import Derived.Test.YtllhboennfljlaaDoorRows
import Derived.LaidMore
import Derived.Deep.Strs
import Derived.ChangeSame
import Derived.Test.YtllhboennfljlaaDoorGA
set_option linter.unusedVariables false
set_option linter.unusedSimpArgs false
/-
  Pack for SHA-256: numbers laid, bytes joined: contracts. Own work.
-/
namespace Go.Proofs.YtllhboennfljlaaDoor
open Go.RowKit
set_option maxRecDepth 100000 in
set_option maxHeartbeats 400000 in
theorem len64_32 (w : World) : Calls Tryd.prog 64 #[.int .u64 4294967295] w fun e w' => e = .returned (.int .i64 32) ∧ w = w' := by
  go_enter Tryd.func64, Tryd.ntmps64
  go_wp2
  go_ret
  exact ⟨by kernel_rfl, rfl⟩
set_option maxRecDepth 100000 in
set_option maxHeartbeats 400000 in
theorem len64_64 (w : World) : Calls Tryd.prog 64 #[.int .u64 18446744073709551615] w fun e w' => e = .returned (.int .i64 64) ∧ w = w' := by
  go_enter Tryd.func64, Tryd.ntmps64
  go_wp2
  go_ret
  exact ⟨by kernel_rfl, rfl⟩
set_option maxRecDepth 100000 in
theorem width32_any (w : World) : Calls Tryd.prog 86 #[] w fun e w' => e = .returned (.int .i64 4) ∧ w = w' := by
  go_enter Tryd.func86, Tryd.ntmps86
  go_wp2_with (go_at_call 64; refine (len64_32 _).mono ?_; rintro e w' ⟨rfl, rfl⟩)
  go_ret
  exact ⟨rfl, rfl⟩
set_option maxRecDepth 100000 in
theorem width64_any (w : World) : Calls Tryd.prog 57 #[] w fun e w' => e = .returned (.int .i64 8) ∧ w = w' := by
  go_enter Tryd.func57, Tryd.ntmps57
  go_wp2_with (go_at_call 64; refine (len64_64 _).mono ?_; rintro e w' ⟨rfl, rfl⟩)
  go_ret
  exact ⟨rfl, rfl⟩
set_option maxHeartbeats 400000 in
set_option maxRecDepth 100000 in
theorem high_any (x : Int) (n : Nat) (w : World) (h0 : 0 ≤ x) (h1 : x < 18446744073709551616) (hn : n ≤ 8) :
    Calls Tryd.prog 51 #[.int .u64 x, .int .i64 (n : Int)] w (RetBs (highB x n) w) := by
  obtain ⟨i0, hi, hz, hsz, hby⟩ := u8_info
  go_enter Tryd.func51, Tryd.ntmps51
  go_wp2_with (refine wpList_make_bs rfl _ _ _ rfl 5 i0 Tryd.underlying26 hi hz hsz hby n rfl rfl (by omega) ?_; intro w1 hown hs1 hb1)
  go_loopw [0, 6] (fun y i wr => ∃ k : Nat, k ≤ n ∧ i = .int .i64 k ∧ y = .int .u64 (x / 256 ^ k) ∧ Own wr 5 w.heap.size (List.replicate (n - k) 0 ++ highB x k) ∧ Below w.heap.size w wr) (fun _ i _ => n - (intOf i).toNat)
  case atStart => exact ⟨0, Nat.zero_le _, rfl, by simp, by simpa [highB, lowB] using hown, hb1⟩
  case round =>
    obtain ⟨k, hk, rfl, rfl, hown, hb⟩ := hrel
    have p0 := div_pow_nonneg h0 k
    have p1 : x / 256 ^ k < 18446744073709551616 := by have := div_pow_le h0 k; omega
    by_cases hlt : k < n
    · have hc := hown.cell (j := n - 1 - k) (by simp [highB_length]; omega)
      have hf := hown.frozen (n - 1 - k)
      have hs := hown.set (n - 1 - k) (x / 256 ^ k % 256)
      have he := set_high hlt (highB x k) (x / 256 ^ k % 256) []
      rw [List.nil_append, List.nil_append, List.length_nil, Nat.zero_add] at he
      rw [he, ← highB_cons] at hs
      have HS := hide hs
      clear hs he
      go_wp2
      go_roundw
      case rel => exact ⟨k + 1, by omega, by go_num, by rw [div_pow_succ], HS.out, hb.setCell (Nat.le_refl _) _⟩
      case measure => simp [intOf]; omega
    · go_wp2
      go_ret
      obtain rfl : k = n := by omega
      exact ret_own hown hb (by simp) (by simp [highB_length]) (Nat.le_refl _) (by simp only [maxLen]; omega)
set_option maxHeartbeats 400000 in
set_option maxRecDepth 100000 in
theorem lay32_high (A : Option Addr) (m c : Nat) (xs : List Int) (x : Int) (w : World) (h : Bs w w.heap.size A m xs) (hm : m ≤ 1000000) (h0 : 0 ≤ x) (h1 : x < 2 ^ 32) :
    Calls Tryd.prog 83 #[.slice A m c, .int .u32 x, .bool false] w (RetBs (xs ++ highB x 4) w) := by
  obtain ⟨i0, hi, hz, hsz, hby⟩ := u8_info
  go_enter Tryd.func83, Tryd.ntmps83
  go_wp2_with (first
    | (go_at_call 86; refine (width32_any _).mono ?_; rintro e w' ⟨rfl, rfl⟩)
    | (refine wpList_make_bs rfl _ _ _ rfl 5 i0 Tryd.underlying26 hi hz hsz hby (m + 4) rfl rfl (by omega) ?_; intro w1 hown hs1 hb1)
    | (refine wpList_copy_bs rfl (.tmp 17) (.tmp 18) _ _ rfl 5 Tryd.underlying26 u8_size w.heap.size 0 _ _ m c A rfl rfl _ xs 5 w.heap.size hown (h.below hb1) (by omega) (by rw [List.length_replicate]; omega) w.heap.size w hb1 (Nat.le_refl _) ?_; intro w2 hown2 hb2))
  go_loopw [21] (fun i wr => ∃ k : Nat, k ≤ 4 ∧ i = .int .i64 k ∧ Own wr 5 w.heap.size (xs ++ (List.replicate (4 - k) 0 ++ highB x k)) ∧ Below w.heap.size w wr) (fun i _ => 4 - (intOf i).toNat)
  case atStart => exact ⟨0, Nat.zero_le _, rfl, by simpa [highB, lowB, h.1] using hown2, hb2⟩
  case round =>
    obtain ⟨k, hk, rfl, hown, hb⟩ := hrel
    by_cases hlt : k < 4
    · have hc := hown.cell (j := m + 3 - k) (by simp [highB_length, h.1]; omega)
      have hf := hown.frozen (m + 3 - k)
      have hs := hown.set (m + 3 - k) (x / 2 ^ (8 * k) % 256)
      have he := set_high hlt (highB x k) (x / 2 ^ (8 * k) % 256) xs
      rw [h.1, show m + (4 - 1 - k) = m + 3 - k from by omega] at he
      rw [he, ← pow256_two, ← highB_cons, pow256_two] at hs
      have HS := hide hs
      clear hs he
      go_wp2
      go_roundw
      case rel => exact ⟨k + 1, by omega, by go_num, HS.out, hb.setCell (Nat.le_refl _) _⟩
      case measure => simp [intOf]; omega
    · go_wp2
      go_ret
      obtain rfl : k = 4 := by omega
      exact ret_own hown hb (by simp) (by simp [highB_length, h.1]) (Nat.le_refl _) (by simp only [maxLen]; omega)
set_option maxHeartbeats 400000 in
set_option maxRecDepth 100000 in
theorem lay64_high (A : Option Addr) (m c : Nat) (xs : List Int) (x : Int) (w : World) (h : Bs w w.heap.size A m xs) (hm : m ≤ 1000000) (h0 : 0 ≤ x) (h1 : x < 2 ^ 64) :
    Calls Tryd.prog 50 #[.slice A m c, .int .u64 x, .bool false] w (RetBs (xs ++ highB x 8) w) := by
  obtain ⟨i0, hi, hz, hsz, hby⟩ := u8_info
  go_enter Tryd.func50, Tryd.ntmps50
  go_wp2_with (first
    | (go_at_call 57; refine (width64_any _).mono ?_; rintro e w' ⟨rfl, rfl⟩)
    | (refine wpList_make_bs rfl _ _ _ rfl 5 i0 Tryd.underlying26 hi hz hsz hby (m + 8) rfl rfl (by omega) ?_; intro w1 hown hs1 hb1)
    | (refine wpList_copy_bs rfl (.tmp 17) (.tmp 18) _ _ rfl 5 Tryd.underlying26 u8_size w.heap.size 0 _ _ m c A rfl rfl _ xs 5 w.heap.size hown (h.below hb1) (by omega) (by rw [List.length_replicate]; omega) w.heap.size w hb1 (Nat.le_refl _) ?_; intro w2 hown2 hb2))
  go_loopw [21] (fun i wr => ∃ k : Nat, k ≤ 8 ∧ i = .int .i64 k ∧ Own wr 5 w.heap.size (xs ++ (List.replicate (8 - k) 0 ++ highB x k)) ∧ Below w.heap.size w wr) (fun i _ => 8 - (intOf i).toNat)
  case atStart => exact ⟨0, Nat.zero_le _, rfl, by simpa [highB, lowB, h.1] using hown2, hb2⟩
  case round =>
    obtain ⟨k, hk, rfl, hown, hb⟩ := hrel
    by_cases hlt : k < 8
    · have hc := hown.cell (j := m + 7 - k) (by simp [highB_length, h.1]; omega)
      have hf := hown.frozen (m + 7 - k)
      have hs := hown.set (m + 7 - k) (x / 2 ^ (8 * k) % 256)
      have he := set_high hlt (highB x k) (x / 2 ^ (8 * k) % 256) xs
      rw [h.1, show m + (8 - 1 - k) = m + 7 - k from by omega] at he
      rw [he, ← pow256_two, ← highB_cons, pow256_two] at hs
      have HS := hide hs
      clear hs he
      go_wp2
      go_roundw
      case rel => exact ⟨k + 1, by omega, by go_num, HS.out, hb.setCell (Nat.le_refl _) _⟩
      case measure => simp [intOf]; omega
    · go_wp2
      go_ret
      obtain rfl : k = 8 := by omega
      exact ret_own hown hb (by simp) (by simp [highB_length, h.1]) (Nat.le_refl _) (by simp only [maxLen]; omega)
set_option maxRecDepth 100000 in
theorem put32_any (A : Option Addr) (m c : Nat) (xs : List Int) (x : Int) (w : World) (h : Bs w w.heap.size A m xs) (hm : m ≤ 1000000) (h0 : 0 ≤ x) (h1 : x < 2 ^ 32) :
    Calls Tryd.prog 77 #[.slice A m c, .int .u32 x] w (RetBs (xs ++ highB x 4) w) := by
  go_enter Tryd.func77, Tryd.ntmps77
  go_wp2_with (go_at_call 83; refine (lay32_high A m c xs x _ h hm h0 h1).mono ?_; rintro e w1 ⟨A1, n1, c1, rfl, hb, hn, hc, hl⟩)
  go_ret
  exact ⟨A1, n1, c1, rfl, hb, hn, hc, hl⟩
set_option maxRecDepth 100000 in
theorem put64_any (A : Option Addr) (m c : Nat) (xs : List Int) (x : Int) (w : World) (h : Bs w w.heap.size A m xs) (hm : m ≤ 1000000) (h0 : 0 ≤ x) (h1 : x < 2 ^ 64) :
    Calls Tryd.prog 38 #[.slice A m c, .int .u64 x] w (RetBs (xs ++ highB x 8) w) := by
  go_enter Tryd.func38, Tryd.ntmps38
  go_wp2_with (go_at_call 50; refine (lay64_high A m c xs x _ h hm h0 h1).mono ?_; rintro e w1 ⟨A1, n1, c1, rfl, hb, hn, hc, hl⟩)
  go_ret
  exact ⟨A1, n1, c1, rfl, hb, hn, hc, hl⟩
set_option maxHeartbeats 800000 in
set_option maxRecDepth 100000 in
theorem join_any (A : Option Addr) (m c : Nat) (xss : List (List Int)) (w : World) (h : Bss w w.heap.size A m xss) (hm : m ≤ 1000000) (hs : sumLen xss m ≤ 140737488355328) :
    Calls Tryd.prog 55 #[.slice A m c] w (RetBs xss.flatten w) := by
  obtain ⟨i0, hi, hz, hsz, hby⟩ := u8_info
  have hlen := h.1
  have HL := hide hlen
  clear hlen
  go_enter Tryd.func55, Tryd.ntmps55
  go_wp2
  go_loop [3, 11] (fun s i => ∃ k : Nat, k ≤ m ∧ i = .int .i64 k ∧ s = .int .i64 (sumLen xss k)) (fun _ i => m - (intOf i).toNat)
  case atStart => exact ⟨0, Nat.zero_le _, rfl, rfl⟩
  case round =>
    obtain ⟨k, hk, rfl, rfl⟩ := hrel
    have hle := sumLen_le xss k
    rw [HL.out] at hle
    by_cases hlt : k < m
    · obtain ⟨b, o, rfl, hb, hc⟩ := h.2 (by omega)
      obtain ⟨A', n', c', hcell, hbs⟩ := hc k hlt
      have hsu := sumLen_succ xss k (by rw [HL.out]; exact hlt)
      rw [hbs.1] at hsu
      have hle2 := sumLen_le xss (k + 1)
      rw [HL.out] at hle2
      have hb2 : sumLen xss k + n' ≤ 140737488355328 := by omega
      have HS := hide hsu
      clear hsu hle2 hc
      go_wp2
      go_round
      case rel => exact ⟨k + 1, by omega, by go_num, by rw [HS.out]; go_num⟩
      case measure => simp [intOf]; omega
    · obtain rfl : k = m := by omega
      go_wp2_with (refine wpList_make0_bs rfl _ _ _ rfl 5 i0 Tryd.underlying26 hi hz hsz hby (sumLen xss k) rfl rfl hs ?_; intro w1 hown1 hb1)
      go_loopw [6, 24] (fun v i wr => ∃ j : Nat, j ≤ k ∧ i = .int .i64 j ∧ wr.ownsRow w.heap.size 5 1 v (sumLen xss j) (bv (xss.take j).flatten) ∧ Below w.heap.size w wr) (fun _ i _ => k - (intOf i).toNat)
      case atStart => exact ⟨0, Nat.zero_le _, rfl, by simpa [sumLen] using hown1, hb1⟩
      case round =>
        obtain ⟨j, hj, rfl, hown, hbr⟩ := hrel
        by_cases hjl : j < k
        · obtain ⟨b, o, rfl, hb, hc⟩ := h.2 (by omega)
          obtain ⟨A', n', c', hcell, hbs⟩ := hc j hjl
          have hcell' := (hbr.cell (p := ⟨b, o + j, none⟩) hb).trans hcell
          have hsu := sumLen_succ xss j (by rw [HL.out]; exact hjl)
          have htf := take_flat xss j (by rw [HL.out]; exact hjl)
          rw [hbs.1] at hsu
          have hle2 := sumLen_le xss (j + 1)
          rw [HL.out] at hle2
          have hb2 : sumLen xss j + n' ≤ 140737488355328 := by omega
          have HS := hide hsu
          have HT := hide htf
          clear hsu htf hle2 hc hcell
          go_wp2_with (at_builtin; refine wpList_append_bs rfl (.tmp 28) (.tmp 29) _ rfl w.heap.size 5 i0 Tryd.underlying26 hi hz hsz hby _ (sumLen xss j) (xss.take j).flatten rfl hown w.heap.size A' n' c' (xss.getD j []) rfl (hbs.below hbr) hb2 hbr.size ?_; intro v1 w2 hown1 hg1)
          have hb3 := grown_below hbr hown (Nat.le_refl _) hg1
          go_roundw
          case rel => exact ⟨j + 1, by omega, by go_num, by rw [HS.out, HT.out]; exact hown1, hb3⟩
          case measure => simp [intOf]; omega
        · obtain rfl : j = k := by omega
          go_wp2
          go_ret
          exact ret_owns hown hbr (by rw [List.take_of_length_le (by rw [HL.out]; exact Nat.le_refl _)])
set_option maxRecDepth 100000 in
theorem both_own (A B : Option Addr) (n m c d : Nat) (xs ys : List Int) (w : World) (h1 : Bs w w.heap.size A n xs) (h2 : Bs w w.heap.size B m ys) (hn : n + m ≤ 140737488355328) :
    Calls Tryd.prog 31 #[.slice A n c, .slice B m d] w fun e w' => ∃ v, e = .returned v ∧ w'.ownsRow w.heap.size 5 1 v (n + m) (bv (xs ++ ys)) ∧ Below w.heap.size w w' := by
  obtain ⟨i0, hi, hz, hsz, hby⟩ := u8_info
  have hown0 := World.ownsRow_nil w w.heap.size 5 1
  go_enter Tryd.func31, Tryd.ntmps31
  go_wp2_with (first
    | (at_builtin
       refine wpList_append_bs rfl (.tmp 6) (.tmp 7) _ rfl w.heap.size 5 i0 Tryd.underlying26 hi hz hsz hby (.slice none 0 0) 0 [] rfl hown0 w.heap.size A n c xs rfl h1 (by omega) (by simp) ?_
       intro v1 w1 hown1 hg1
       have hb1 := grown_below (Below.refl _ _) hown0 (Nat.le_refl _) hg1
       have hz1 := hb1.size)
    | (at_builtin
       refine wpList_append_bs rfl (.tmp 9) (.tmp 10) _ rfl w.heap.size 5 i0 Tryd.underlying26 hi hz hsz hby v1 (0 + n) ([] ++ xs) rfl hown1 w.heap.size B m d ys rfl (h2.below hb1) (by omega) hz1 ?_
       intro v2 w2 hown2 hg2))
  go_ret
  exact ⟨v2, rfl, by simpa using hown2, grown_below hb1 hown1 (Nat.le_refl _) hg2⟩
set_option maxRecDepth 100000 in
theorem both_any (A B : Option Addr) (n m c d : Nat) (xs ys : List Int) (w : World) (h1 : Bs w w.heap.size A n xs) (h2 : Bs w w.heap.size B m ys) (hn : n + m ≤ 140737488355328) :
    Calls Tryd.prog 31 #[.slice A n c, .slice B m d] w (RetBs (xs ++ ys) w) := by
  refine (both_own A B n m c d xs ys w h1 h2 hn).mono ?_
  rintro e w' ⟨v, rfl, ho, hb⟩
  exact ret_owns ho hb rfl
end Go.Proofs.YtllhboennfljlaaDoor

/-
  Structs behind a pointer that a call writes; the reader of pack: a contract each. Own work.
-/
namespace Go.Proofs.YtllhboennfljlaaDoor
open Go.RowKit

/-- Block g of w is just the cells cs, of element type t; none is frozen. -/
def Blk (w : World) (g : Nat) (t : TypeId) (cs : Array Value) : Prop := w.heap[g]? = some (.cells cs t (0, 0))
section
variable {w w' w'' : World} {g t : Nat} {cs : Array Value}
set_option maxRecDepth 100000 in
theorem Blk.cell (h : Blk w g t cs) (i : Nat) : w.cell? ⟨g, i, none⟩ = cs[i]? := cell_of_row w g i cs t (0, 0) h
theorem Blk.frozen (h : Blk w g t cs) (i : Nat) : w.frozen? ⟨g, i, none⟩ = false := frozen_of_row w g i cs t h
set_option maxRecDepth 100000 in
theorem Blk.set (h : Blk w g t cs) (i : Nat) (u : Value) : Blk (w.setCell ⟨g, i, none⟩ u) g t (cs.setIfInBounds i u) := heap_setCell_same w g i cs t u h
theorem Blk.lt (h : Blk w g t cs) : g < w.heap.size := by
  rcases Nat.lt_or_ge g w.heap.size with h1 | h1
  · exact h1
  · unfold Blk at h; rw [Array.getElem?_eq_none h1] at h; cases h
set_option maxRecDepth 100000 in
theorem Blk.grown (h : Blk w g t cs) {r : Option Nat} (hg : w.grownBy w' r) (hr : some g ≠ r) : Blk w' g t cs := (hg.block g h.lt hr).trans h
theorem Blk.below (h : Blk w g t cs) {B : Nat} (hb : Below B w w') (hg : g < B) : Blk w' g t cs := (hb.block g hg).trans h
set_option maxRecDepth 100000 in
theorem grown_refl (w : World) (r : Option Nat) : w.grownBy w r := ⟨rfl, rfl, rfl, Nat.le_refl _, fun _ _ _ => rfl⟩
theorem grown_trans {r : Option Nat} (h : w.grownBy w' r) (k : w'.grownBy w'' r) : w.grownBy w'' r :=
  ⟨k.os.trans h.os, k.tape.trans h.tape, k.output.trans h.output, Nat.le_trans h.size k.size, fun i hi hr => (k.block i (Nat.lt_of_lt_of_le hi h.size) hr).trans (h.block i hi hr)⟩
set_option maxRecDepth 100000 in
theorem grown_set (w : World) (g i : Nat) (u : Value) : w.grownBy (w.setCell ⟨g, i, none⟩ u) (some g) :=
  ⟨rfl, rfl, rfl, by simp [World.setCell], fun k _ hk => heap_setCell_other w ⟨g, i, none⟩ k u (fun e => hk (by rw [e]))⟩
set_option maxRecDepth 100000 in
theorem grown_of_below {r : Option Nat} (h : Below w.heap.size w w') : w.grownBy w' r := ⟨h.os, h.tape, h.output, h.size, fun k hk _ => h.block k hk⟩
theorem below_of_grown {B : Nat} (h : w.grownBy w' (some g)) (hB : B ≤ g) (hw : B ≤ w.heap.size) : Below B w w' :=
  ⟨h.os, h.tape, h.output, h.size, fun k hk => h.block k (by omega) (fun e => by injection e; omega)⟩
end

/-- The slice '.slice A n c' reads as the bytes xs, in a block from lo on and below hi. -/
def Sp (w : World) (lo hi : Nat) (A : Option Addr) (n : Nat) (xs : List Int) : Prop :=
  xs.length = n ∧ (0 < n → ∃ b o, A = some ⟨b, o, none⟩ ∧ lo ≤ b ∧ b < hi ∧ ∀ j, j < n → w.cell? ⟨b, o + j, none⟩ = some (.int .u8 (xs.getD j 0)))
section
variable {w w' : World} {lo hi n : Nat} {A : Option Addr} {xs : List Int}
set_option maxRecDepth 100000 in
theorem Sp.nil_ : Sp w lo hi A 0 [] := ⟨rfl, fun h => absurd h (by omega)⟩
theorem Sp.bs (h : Sp w lo hi A n xs) : Bs w hi A n xs := ⟨h.1, fun h0 => let ⟨b, o, e, _, h2, hc⟩ := h.2 h0; ⟨b, o, e, h2, hc⟩⟩
set_option maxRecDepth 100000 in
theorem Sp.lt_size (h : Sp w lo hi A n xs) : Bs w w.heap.size A n xs := ⟨h.1, fun h0 => let ⟨b, o, e, _, _, hc⟩ := h.2 h0; ⟨b, o, e, block_lt_of_cell (hc 0 h0), hc⟩⟩
theorem Sp.grown (h : Sp w lo hi A n xs) {g : Nat} (hg : w.grownBy w' (some g)) (hr : g < lo ∨ hi ≤ g) : Sp w' lo hi A n xs :=
  ⟨h.1, fun h0 => let ⟨b, o, e, h1, h2, hc⟩ := h.2 h0; ⟨b, o, e, h1, h2, fun j hj => by
    rw [World.cell?_of_block (hg.block b (block_lt_of_cell (hc 0 h0)) (fun e => by injection e; omega))]; exact hc j hj⟩⟩
set_option maxRecDepth 100000 in
theorem Sp.take (h : Sp w lo hi A n xs) {k : Nat} (hk : k ≤ n) : Sp w lo hi A k (xs.take k) :=
  ⟨by simp [h.1]; omega, fun h0 => let ⟨b, o, e, h1, h2, hc⟩ := h.2 (by omega); ⟨b, o, e, h1, h2, fun j hj => by rw [hc j (by omega)]; simp [List.getD, hj]⟩⟩
set_option maxRecDepth 100000 in
theorem Sp.drop (h : Sp w lo hi A n xs) {k c : Nat} (hk : k ≤ n) (hc : n ≤ c) : Sp w lo hi (if c = k then A else A.map (·.add k)) (n - k) (xs.drop k) := by
  refine ⟨by simp [h.1], fun h0 => ?_⟩
  obtain ⟨b, o, rfl, h1, h2, hcell⟩ := h.2 (by omega)
  rw [if_neg (by omega)]
  refine ⟨b, o + k, by simp [addr_plain], h1, h2, fun j hj => ?_⟩
  rw [Nat.add_assoc, hcell (k + j) (by omega)]
  simp [List.getD]
end

set_option maxRecDepth 100000 in
theorem ret_owns_new {w w1 : World} {base e n : Nat} {v : Value} {xs ys : List Int} (h : w1.ownsRow base e 1 v n (bv xs)) (hb : Below w.heap.size w w1) (hbase : w.heap.size ≤ base) (he : ys = xs) :
    ∃ A n c, v = .slice A n c ∧ Sp w1 w.heap.size w1.heap.size A n ys ∧ n ≤ c ∧ c ≤ maxLen ∧ Below w.heap.size w w1 := by
  subst he
  obtain ⟨A, c, hv, h1, h2, h3⟩ := ownsRow_bs h
  refine ⟨A, n, c, hv, ⟨h1.1, fun h0 => ?_⟩, h2, h3, hb⟩
  obtain ⟨b, o, rfl, hlt, hc⟩ := h1.2 h0
  exact ⟨b, o, rfl, Nat.le_trans hbase (h.lt b (by rw [hv]; rfl)).1, hlt, hc⟩
set_option maxRecDepth 100000 in
/-- A copy is new memory. -/
theorem clone_new (A : Option Addr) (n c : Nat) (xs : List Int) (w : World) (h : Bs w w.heap.size A n xs) (hn : n ≤ 140737488355328) :
    Calls Tryd.prog 40 #[.slice A n c] w fun e w' => ∃ A n c, e = .returned (.slice A n c) ∧ Sp w' w.heap.size w'.heap.size A n xs ∧ n ≤ c ∧ c ≤ maxLen ∧ Below w.heap.size w w' := by
  have q : ∀ (w : World) (a : Option Addr) (n c n' c' : Nat), (binOp .eql 26 (.slice a n c) (.slice none n' c')).run Tryd.prog w = .ok (.bool a.isNone) w := fun w a n c n' c' => Lib.run_eql_slice_nil w _ _ a n c n' c' Tryd.underlying26
  obtain ⟨i0, hi, hz, hsz, hby⟩ := u8_info
  rcases A with _ | ad
  · have h0 : n = 0 := by
      rcases Nat.eq_zero_or_pos n with h0 | h0
      · exact h0
      · obtain ⟨_, _, h, _⟩ := h.2 h0; cases h
    subst h0
    obtain rfl : xs = [] := List.eq_nil_of_length_eq_zero h.1
    go_enter Tryd.func40, Tryd.ntmps40
    go_wp2
    go_ret
    exact ⟨none, 0, 0, rfl, Sp.nil_, Nat.le_refl _, by simp, Below.refl _ _⟩
  · have hown := World.ownsRow_lit (base := w.heap.size) (e := 5) (size := 1) w #[] 0 (Nat.le_refl _) (by simp) rfl
    go_enter Tryd.func40, Tryd.ntmps40
    go_wp2_with (at_builtin; refine wpList_append_bs rfl (.tmp 5) (.tmp 6) _ rfl w.heap.size 5 i0 Tryd.underlying26 hi hz hsz hby (.slice (some ⟨w.heap.size, 0, none⟩) 0 0) 0 [] rfl hown w.heap.size (some ad) n c xs rfl (h.below ((Below.refl _ _).alloc (Nat.le_refl _) _)) (by omega) (by simp) ?_; intro v1 w1 hown1 hg1)
    go_ret
    obtain ⟨A1, n1, c1, rfl, h2, h3, h4, h5⟩ := ret_owns_new hown1 (grown_below ((Below.refl _ _).alloc (Nat.le_refl _) _) hown (Nat.le_refl _) hg1) (Nat.le_refl _) rfl
    exact ⟨A1, n1, c1, rfl, by simpa using h2, h3, h4, h5⟩

/-- The reader in block g: what is left, and its error. -/
def Rd (w : World) (lo g : Nat) (xs : List Int) (e : Int) : Prop :=
  ∃ A n c, lo ≤ g ∧ Blk w g 67 #[.bool true, .slice A n c, .int .i64 e] ∧ Sp w lo g A n xs ∧ n ≤ c ∧ (c ≤ 9223372036854775807 ∧ n ≤ 140737488355328) ∧ (e ≠ 0 → xs = [])

set_option maxRecDepth 100000 in
theorem Rd.grown {w w' : World} {lo g g' : Nat} {xs : List Int} {e : Int} (h : Rd w lo g xs e) (hg : w.grownBy w' (some g')) (hne : g' < lo ∨ g < g') : Rd w' lo g xs e := by
  obtain ⟨A, n, c, h0, h1, h2, h3, h4, h5⟩ := h
  exact ⟨A, n, c, h0, h1.grown hg (by intro e; injection e with e; omega), h2.grown hg (by omega), h3, h4, h5⟩

set_option maxRecDepth 100000 in
theorem err_any {lo g : Nat} {xs : List Int} {e : Int} (w : World) (h : Rd w lo g xs e) : Calls Tryd.prog 44 #[.pointer (some ⟨g, 0, none⟩)] w fun en w' => en = .returned (.int .i64 e) ∧ w = w' := by
  obtain ⟨A, n, c, _, hb, _⟩ := h
  have c0 := hb.cell 0
  have c2 := hb.cell 2
  simp only [List.getElem?_toArray, List.getElem?_cons_zero, List.getElem?_cons_succ] at c0 c2
  clear hb
  go_enter Tryd.func44, Tryd.ntmps44
  go_wp2
  go_ret
  exact ⟨rfl, rfl⟩
set_option maxRecDepth 100000 in
theorem left_any {lo g : Nat} {xs : List Int} {e : Int} (w : World) (h : Rd w lo g xs e) : Calls Tryd.prog 45 #[.pointer (some ⟨g, 0, none⟩)] w fun en w' => en = .returned (.int .i64 xs.length) ∧ w = w' := by
  obtain ⟨A, n, c, _, hb, hs, _⟩ := h
  have c1 := hb.cell 1
  simp only [List.getElem?_toArray, List.getElem?_cons_zero, List.getElem?_cons_succ] at c1
  rw [hs.1]
  clear hb hs
  go_enter Tryd.func45, Tryd.ntmps45
  go_wp2
  go_ret
  exact ⟨rfl, rfl⟩
set_option maxRecDepth 100000 in
theorem fail_old {lo g : Nat} {xs : List Int} {e : Int} (w : World) (h : Rd w lo g xs e) (he : e ≠ 0) (code : Int) :
    Calls Tryd.prog 43 #[.pointer (some ⟨g, 0, none⟩), .int .i64 code] w fun en w' => en = .returned (.tuple #[]) ∧ w = w' := by
  have hd : (e == 0) = false := beq_eq_false_iff_ne.2 he
  go_enter Tryd.func43, Tryd.ntmps43
  go_wp2_with (go_at_call 44; refine (err_any _ h).mono ?_; rintro e w' ⟨rfl, rfl⟩)
  go_end0
  exact ⟨rfl, rfl⟩
set_option maxRecDepth 100000 in
theorem fail_new {lo g : Nat} {xs : List Int} (w : World) (h : Rd w lo g xs 0) (code : Int) :
    Calls Tryd.prog 43 #[.pointer (some ⟨g, 0, none⟩), .int .i64 code] w fun en w' => en = .returned (.tuple #[]) ∧ Rd w' lo g [] code ∧ w.grownBy w' (some g) := by
  have h' := hide h
  obtain ⟨A, n, c, hlo, hb, hs, _⟩ := h
  have c1 := hb.cell 1
  have c2 := hb.cell 2
  simp only [List.getElem?_toArray, List.getElem?_cons_zero, List.getElem?_cons_succ] at c1 c2
  have f1 := hb.frozen 1
  have f2 := hb.frozen 2
  have HB := hide hb
  clear hb
  go_enter Tryd.func43, Tryd.ntmps43
  go_wp2_with (go_at_call 44; refine (err_any _ h'.out).mono ?_; rintro e w' ⟨rfl, rfl⟩)
  go_end0
  exact ⟨rfl, ⟨none, 0, 0, hlo, (HB.out.set 2 _).set 1 _, Sp.nil_, Nat.le_refl _, ⟨by omega, by omega⟩, fun _ => rfl⟩, grown_trans (grown_set _ _ _ _) (grown_set _ _ _ _)⟩

/-- What a reader tells of the next n bytes, what is left behind, and the error. -/
def tk (n : Nat) (xs : List Int) (e : Int) : List Int × List Int × Int := if e ≠ 0 then ([], xs, e) else if xs.length < n then ([], [], 4) else (xs.take n, xs.drop n, 0)

/-- What a call on the reader in block g leaves. -/
def TkPost (w : World) (lo g : Nat) (r : List Int × List Int × Int) (en : Ending) (w' : World) : Prop :=
  ∃ A n c, en = .returned (.slice A n c) ∧ Sp w' lo g A n r.1 ∧ n ≤ 140737488355328 ∧ Rd w' lo g r.2.1 r.2.2 ∧ w.grownBy w' (some g)

set_option maxHeartbeats 400000 in
set_option maxRecDepth 100000 in
theorem take_any {lo g : Nat} {xs : List Int} {e : Int} (w : World) (h : Rd w lo g xs e) (n : Nat) (hn : n ≤ 4294967296) :
    Calls Tryd.prog 58 #[.pointer (some ⟨g, 0, none⟩), .int .i64 (n : Int)] w (TkPost w lo g (tk n xs e)) := by
  have h' := hide h
  obtain ⟨A, m, c, hlo, hb, hs, hmc, ⟨hc, hm47⟩, he0⟩ := h
  by_cases he : e = 0
  · subst he
    by_cases hlt : xs.length < n
    · have ht : tk n xs 0 = ([], [], 4) := by simp [tk, hlt]
      rw [ht]
      have hi : (xs.length : Int) < (n : Int) := by omega
      clear hb
      go_enter Tryd.func58, Tryd.ntmps58
      go_wp2_with (first
        | (go_at_call 45; refine (left_any _ h'.out).mono ?_; rintro e w' ⟨rfl, rfl⟩)
        | (go_at_call 43; refine (fail_new _ h'.out 4).mono ?_; rintro e w1 ⟨rfl, hr, hg⟩; have hR := hide hr; clear hr)
        | (go_at_call 44; refine (err_any _ hR.out).mono ?_; rintro e w' ⟨rfl, rfl⟩))
      go_ret
      exact ⟨none, 0, 0, rfl, Sp.nil_, by omega, hR.out, hg⟩
    · have ht : tk n xs 0 = (xs.take n, xs.drop n, 0) := by simp [tk, hlt]
      rw [ht]
      have hle : n ≤ m := by have := hs.1; omega
      have hi : ¬ (xs.length : Int) < (n : Int) := by omega
      have c1 := hb.cell 1
      have f1 := hb.frozen 1
      simp only [List.getElem?_toArray, List.getElem?_cons_zero, List.getElem?_cons_succ] at c1
      have HB := hide hb
      clear hb
      go_enter Tryd.func58, Tryd.ntmps58
      go_wp2_with (first
        | (go_at_call 45; refine (left_any _ h'.out).mono ?_; rintro e w' ⟨rfl, rfl⟩)
        | (go_at_call 44; refine (err_any _ h'.out).mono ?_; rintro e w' ⟨rfl, rfl⟩))
      · go_ret
        have hcn : c = n := ‹c = n›
        have hd := hs.drop hle hmc
        rw [if_pos hcn] at hd
        exact ⟨A, n, n, rfl, (hs.take hle).grown (grown_set _ _ _ _) (.inr (Nat.le_refl _)), by omega, ⟨A, m - n, 0, hlo, HB.out.set 1 _, hd.grown (grown_set _ _ _ _) (.inr (Nat.le_refl _)), by omega, ⟨by omega, by omega⟩, fun h => absurd rfl h⟩, grown_set _ _ _ _⟩
      · go_ret
        have hd := hs.drop hle hmc
        rw [if_neg ‹¬c = n›] at hd
        exact ⟨A, n, c, rfl, (hs.take hle).grown (grown_set _ _ _ _) (.inr (Nat.le_refl _)), by omega, ⟨_, m - n, c - n, hlo, HB.out.set 1 _, hd.grown (grown_set _ _ _ _) (.inr (Nat.le_refl _)), by omega, ⟨by omega, by omega⟩, fun h => absurd rfl h⟩, grown_set _ _ _ _⟩
  · have ht : tk n xs e = ([], xs, e) := by simp [tk, he]
    rw [ht]
    obtain rfl := he0 he
    have hd : (e != 0) = true := by rw [bne_iff_ne]; exact he
    clear hb
    go_enter Tryd.func58, Tryd.ntmps58
    go_wp2_with (first
      | (go_at_call 45; refine (left_any _ h'.out).mono ?_; rintro e w' ⟨rfl, rfl⟩)
      | (go_at_call 43; refine (fail_old _ h'.out he 4).mono ?_; rintro e w1 ⟨rfl, rfl⟩)
      | (go_at_call 44; refine (err_any _ h'.out).mono ?_; rintro e w' ⟨rfl, rfl⟩))
    all_goals
      go_ret
      exact ⟨none, 0, 0, rfl, Sp.nil_, by omega, h'.out, grown_refl _ _⟩

/-- The number whose bytes these are, the highest first. -/
def beV (xs : List Int) : Int := xs.foldl (fun a b => a * 256 + b) 0
set_option maxRecDepth 100000 in
theorem beV_snoc (xs : List Int) (b : Int) : beV (xs ++ [b]) = beV xs * 256 + b := by simp [beV]
theorem beV_bound {xs : List Int} (h : IsBy xs) : 0 ≤ beV xs ∧ beV xs < 256 ^ xs.length := by
  have key : ∀ (n : Nat) (xs : List Int), xs.length = n → IsBy xs → 0 ≤ beV xs ∧ beV xs < 256 ^ n := by
    intro n
    induction n with
    | zero => intro xs hl _; rw [List.eq_nil_of_length_eq_zero hl]; simp [beV]
    | succ n ih =>
      intro xs hl hx
      have hne : xs ≠ [] := by intro e; rw [e] at hl; simp at hl
      have hsp := List.dropLast_concat_getLast hne
      rw [← hsp, beV_snoc]
      obtain ⟨h0, h1⟩ := ih xs.dropLast (by simp [hl]) (fun x hm => hx x (List.dropLast_subset xs hm))
      obtain ⟨b0, b1⟩ := hx _ (List.getLast_mem hne)
      rw [Int.pow_succ]
      omega
  exact key _ xs rfl h
set_option maxRecDepth 100000 in
theorem beV_take_succ (xs : List Int) (k : Nat) (hk : k < xs.length) : beV (xs.take (k + 1)) = beV (xs.take k) * 256 + xs.getD k 0 := by
  rw [List.take_succ_eq_append_getElem hk, beV_snoc]
  simp [List.getD, List.getElem?_eq_getElem hk]
set_option maxRecDepth 100000 in
theorem tk_by {n : Nat} {xs : List Int} {e : Int} (h : IsBy xs) : IsBy (tk n xs e).1 ∧ IsBy (tk n xs e).2.1 := by
  unfold tk
  split
  · exact ⟨fun _ h => by simp at h, h⟩
  · split
    · exact ⟨fun _ h => by simp at h, fun _ h => by simp at h⟩
    · exact ⟨h.take n, h.drop n⟩
set_option maxRecDepth 100000 in
theorem tk_len (n : Nat) (xs : List Int) (e : Int) : (tk n xs e).1.length ≤ n ∧ (tk n xs e).2.1.length ≤ xs.length := by
  unfold tk
  split
  · simp
  · split <;> simp <;> omega
/-- What reading a number of n bytes tells. -/
def unum (n : Nat) (xs : List Int) (e : Int) : Int := beV (tk n xs e).1
set_option maxRecDepth 100000 in
theorem pow256_mono {a b : Nat} (h : a ≤ b) : (256 : Int) ^ a ≤ 256 ^ b := by
  obtain ⟨d, rfl⟩ := Nat.exists_eq_add_of_le h
  induction d with
  | zero => exact Int.le_refl _
  | succ d ih =>
    have := ih (by omega)
    have hp := pow256_pos (a + d)
    rw [← Nat.add_assoc, Int.pow_succ]
    omega
set_option maxRecDepth 100000 in
theorem unum_bound {n : Nat} {xs : List Int} {e : Int} (h : IsBy xs) : 0 ≤ unum n xs e ∧ unum n xs e < 256 ^ n := by
  obtain ⟨h0, h1⟩ := beV_bound (tk_by (n := n) (e := e) h).1
  exact ⟨h0, Int.lt_of_lt_of_le h1 (pow256_mono (tk_len n xs e).1)⟩

def NumPost (w : World) (lo g : Nat) (k : IntKind) (v : Int) (xs : List Int) (e : Int) (en : Ending) (w' : World) : Prop := en = .returned (.int k v) ∧ Rd w' lo g xs e ∧ w.grownBy w' (some g)
set_option maxHeartbeats 400000 in
set_option maxRecDepth 100000 in
theorem fromHigh32_any {lo g : Nat} {xs : List Int} {e : Int} (w : World) (h : Rd w lo g xs e) (hx : IsBy xs) :
    Calls Tryd.prog 84 #[.pointer (some ⟨g, 0, none⟩)] w (NumPost w lo g .u32 (unum 4 xs e) (tk 4 xs e).2.1 (tk 4 xs e).2.2) := by
  have hby := (tk_by (n := 4) (e := e) hx).1
  have hln := (tk_len 4 xs e).1
  have hct := hide (take_any w h 4 (by omega))
  unfold unum
  generalize tk 4 xs e = r at *
  clear h hx
  go_enter Tryd.func84, Tryd.ntmps84
  go_wp2_with (first
    | (go_at_call 86; refine (width32_any _).mono ?_; rintro e w' ⟨rfl, rfl⟩)
    | (go_at_call 58; refine hct.out.mono ?_; rintro en w1 ⟨A, n, c, rfl, hs, hn, hr, hg⟩))
  have hl1 := hs.1
  have hnN : n ≤ 4 := by omega
  have HL := hide hl1
  clear hl1
  go_loop [3, 10] (fun v i => ∃ k : Nat, k ≤ n ∧ i = .int .i64 k ∧ v = .int .u32 (beV (r.1.take k))) (fun _ i => n - (intOf i).toNat)
  case atStart => exact ⟨0, Nat.zero_le _, rfl, rfl⟩
  case round =>
    obtain ⟨k, hk, rfl, rfl⟩ := hrel
    obtain ⟨q0, q1⟩ := beV_bound (hby.take k)
    by_cases hlt : k < n
    · obtain ⟨b, o, rfl, hb, _, hc⟩ := hs.2 (by omega)
      have hck := hc k hlt
      obtain ⟨b0, b1⟩ := getD_byte hby k
      have hsu := beV_take_succ r.1 k (by rw [HL.out]; exact hlt)
      have HS := hide hsu
      have Q1 := hide q1
      clear hsu q1 hc
      have HO := hide (or_high32 k (by omega) q0 (by have := Q1.out; rw [List.length_take, HL.out, Nat.min_eq_left (by omega)] at this; exact this) b0 b1)
      go_wp2
      go_round
      case rel => exact ⟨k + 1, by omega, by go_num, congrArg (Value.int .u32) (by rw [HS.out, ← HO.out]; simp [List.getD])⟩
      case measure => simp [intOf]; omega
    · go_wp2
      go_ret
      have hkn : k = n := by omega
      refine ⟨?_, hr, hg⟩
      rw [← show beV (r.1.take k) = beV r.1 from by rw [List.take_of_length_le (by rw [HL.out]; omega)]]
      rfl
set_option maxRecDepth 100000 in
theorem u32_any {lo g : Nat} {xs : List Int} {e : Int} (w : World) (h : Rd w lo g xs e) (hx : IsBy xs) :
    Calls Tryd.prog 78 #[.pointer (some ⟨g, 0, none⟩)] w (NumPost w lo g .u32 (unum 4 xs e) (tk 4 xs e).2.1 (tk 4 xs e).2.2) := by
  go_enter Tryd.func78, Tryd.ntmps78
  go_wp2_with (go_at_call 84; refine (fromHigh32_any _ h hx).mono ?_; rintro en w1 ⟨rfl, hr, hg⟩)
  go_ret
  exact ⟨rfl, hr, hg⟩
set_option maxRecDepth 100000 in
theorem Sp.later {w w' : World} {lo hi n : Nat} {A : Option Addr} {xs : List Int} (h : Sp w lo hi A n xs) (hb : Below w.heap.size w w') : Sp w' lo hi A n xs :=
  ⟨h.1, fun h0 => let ⟨b, o, e, h1, h2, hc⟩ := h.2 h0; ⟨b, o, e, h1, h2, fun j hj => (hb.cell (p := ⟨b, o + j, none⟩) (block_lt_of_cell (hc j hj) : b < w.heap.size)).trans (hc j hj)⟩⟩
set_option maxRecDepth 100000 in
theorem Rd.later {w w' : World} {lo g : Nat} {xs : List Int} {e : Int} (h : Rd w lo g xs e) (hb : Below w.heap.size w w') : Rd w' lo g xs e := by
  obtain ⟨A, n, c, h0, h1, h2, h3, h4, h5⟩ := h
  exact ⟨A, n, c, h0, h1.below hb h1.lt, h2.later hb, h3, h4, h5⟩

set_option maxRecDepth 100000 in
theorem read_any (A : Option Addr) (n c : Nat) (xs : List Int) (w : World) (h : Bs w w.heap.size A n xs) (hn : n ≤ 1000000) :
    Calls Tryd.prog 27 #[.slice A n c] w fun en w' => ∃ g, en = .returned (.pointer (some ⟨g, 0, none⟩)) ∧ w.heap.size ≤ g ∧ g < w'.heap.size ∧ Rd w' w.heap.size g xs 0 ∧ Below w.heap.size w w' := by
  go_enter Tryd.func27, Tryd.ntmps27
  go_wp2_with (go_at_call 40; refine (clone_new A n c xs _ h (by omega)).mono ?_; rintro e w1 ⟨A1, n1, c1, rfl, hb1, hn1, hc1, hl1⟩)
  go_ret
  have hlen : n1 ≤ 1000000 := by have := hb1.1; have := h.1; omega
  simp only [maxLen] at hc1
  exact ⟨w1.heap.size, rfl, hl1.size, by simp, ⟨A1, n1, c1, hl1.size, heap_alloc_new w1 _, hb1.later ((Below.refl _ _).alloc (Nat.le_refl _) _), hn1, ⟨by omega, by omega⟩, fun h => absurd rfl h⟩, hl1.alloc hl1.size _⟩
end Go.Proofs.YtllhboennfljlaaDoor

/-
  Pack for keys: numbers read, numbers put: contracts. Own work.
-/
namespace Go.Proofs.YtllhboennfljlaaDoor
open Go.RowKit
set_option maxHeartbeats 400000 in
set_option maxRecDepth 100000 in
theorem fromHigh64_any {lo g : Nat} {xs : List Int} {e : Int} (w : World) (h : Rd w lo g xs e) (hx : IsBy xs) :
    Calls Tryd.prog 52 #[.pointer (some ⟨g, 0, none⟩)] w (NumPost w lo g .u64 (unum 8 xs e) (tk 8 xs e).2.1 (tk 8 xs e).2.2) := by
  have hby := (tk_by (n := 8) (e := e) hx).1
  have hln := (tk_len 8 xs e).1
  have hct := hide (take_any w h 8 (by omega))
  unfold unum
  generalize tk 8 xs e = r at *
  clear h hx
  go_enter Tryd.func52, Tryd.ntmps52
  go_wp2_with (first
    | (go_at_call 57; refine (width64_any _).mono ?_; rintro e w' ⟨rfl, rfl⟩)
    | (go_at_call 58; refine hct.out.mono ?_; rintro en w1 ⟨A, n, c, rfl, hs, hn, hr, hg⟩))
  have hl1 := hs.1
  have hnN : n ≤ 8 := by omega
  have HL := hide hl1
  clear hl1
  go_loop [3, 10] (fun v i => ∃ k : Nat, k ≤ n ∧ i = .int .i64 k ∧ v = .int .u64 (beV (r.1.take k))) (fun _ i => n - (intOf i).toNat)
  case atStart => exact ⟨0, Nat.zero_le _, rfl, rfl⟩
  case round =>
    obtain ⟨k, hk, rfl, rfl⟩ := hrel
    obtain ⟨q0, q1⟩ := beV_bound (hby.take k)
    by_cases hlt : k < n
    · obtain ⟨b, o, rfl, hb, _, hc⟩ := hs.2 (by omega)
      have hck := hc k hlt
      obtain ⟨b0, b1⟩ := getD_byte hby k
      have hsu := beV_take_succ r.1 k (by rw [HL.out]; exact hlt)
      have HS := hide hsu
      have Q1 := hide q1
      clear hsu q1 hc
      have HO := hide (or_high64 k (by omega) q0 (by have := Q1.out; rw [List.length_take, HL.out, Nat.min_eq_left (by omega)] at this; exact this) b0 b1)
      go_wp2
      go_round
      case rel => exact ⟨k + 1, by omega, by go_num, congrArg (Value.int .u64) (by rw [HS.out, ← HO.out]; simp [List.getD])⟩
      case measure => simp [intOf]; omega
    · go_wp2
      go_ret
      have hkn : k = n := by omega
      refine ⟨?_, hr, hg⟩
      rw [← show beV (r.1.take k) = beV r.1 from by rw [List.take_of_length_le (by rw [HL.out]; omega)]]
      rfl
set_option maxRecDepth 100000 in
theorem u64_any {lo g : Nat} {xs : List Int} {e : Int} (w : World) (h : Rd w lo g xs e) (hx : IsBy xs) :
    Calls Tryd.prog 41 #[.pointer (some ⟨g, 0, none⟩)] w (NumPost w lo g .u64 (unum 8 xs e) (tk 8 xs e).2.1 (tk 8 xs e).2.2) := by
  go_enter Tryd.func41, Tryd.ntmps41
  go_wp2_with (go_at_call 52; refine (fromHigh64_any _ h hx).mono ?_; rintro en w1 ⟨rfl, hr, hg⟩)
  go_ret
  exact ⟨rfl, hr, hg⟩
set_option maxRecDepth 100000 in
theorem pabove_any (x most : Int) (w : World) (h0 : 0 ≤ x) (h1 : x < 18446744073709551616) (m0 : -9223372036854775808 ≤ most) (m1 : most ≤ 9223372036854775807) :
    Calls Tryd.prog 42 #[.int .u64 x, .int .i64 most] w fun en w' => en = .returned (.bool (decide (most < x))) ∧ w = w' := by
  by_cases hm : most < 0
  · have hd : decide (most < x) = true := by simp; omega
    rw [hd]
    go_enter Tryd.func42, Tryd.ntmps42
    go_wp2
    go_ret
    exact ⟨rfl, rfl⟩
  · go_enter Tryd.func42, Tryd.ntmps42
    go_wp2
    go_ret
    exact ⟨rfl, rfl⟩
def tkNum (most : Int) (xs : List Int) (e : Int) : Int × List Int × Int :=
  let v := unum 8 xs e
  let r := (tk 8 xs e).2
  if most < v then (0, [], if r.2 ≠ 0 then r.2 else 5) else (v, r.1, r.2)
set_option maxRecDepth 100000 in
theorem rd_nil {w : World} {lo g : Nat} {xs : List Int} {e : Int} (h : Rd w lo g xs e) (he : e ≠ 0) : xs = [] := by
  obtain ⟨A, n, c, _, _, _, _, _, h5⟩ := h; exact h5 he
set_option maxHeartbeats 400000 in
set_option maxRecDepth 100000 in
theorem num_any {lo g : Nat} {xs : List Int} {e : Int} (w : World) (h : Rd w lo g xs e) (hx : IsBy xs) (most : Int) (m0 : -9223372036854775808 ≤ most) (m1 : most ≤ 9223372036854775807) :
    Calls Tryd.prog 28 #[.pointer (some ⟨g, 0, none⟩), .int .i64 most] w (NumPost w lo g .i64 (tkNum most xs e).1 (tkNum most xs e).2.1 (tkNum most xs e).2.2) := by
  have hub := unum_bound (n := 8) (e := e) hx
  have hu : unum 8 xs e < 18446744073709551616 := hub.2
  have hc := hide (u64_any w h hx)
  have hnil : (tk 8 xs e).2.2 ≠ 0 → (tk 8 xs e).2.1 = [] := by
    obtain ⟨_, _, _, _, _, _, _, _, h5⟩ := h
    unfold tk
    split
    · rename_i he; exact fun _ => h5 he
    · split
      · exact fun _ => rfl
      · exact fun h => absurd rfl h
  unfold tkNum
  generalize unum 8 xs e = v at *
  generalize (tk 8 xs e).2 = r at *
  obtain ⟨ys, e1⟩ := r
  dsimp only at *
  have h0 := hub.1
  clear h hx hub
  by_cases hm : most < v
  · rw [if_pos hm]
    by_cases he : e1 = 0
    · subst he
      rw [if_neg (by simp)]
      go_enter Tryd.func28, Tryd.ntmps28
      go_wp2_with (first
        | (go_at_call 41; refine hc.out.mono ?_; rintro en w1 ⟨rfl, hr, hg⟩)
        | (go_at_call 42; refine (pabove_any v most _ h0 hu m0 m1).mono ?_; rintro en w2 ⟨rfl, rfl⟩)
        | (go_at_call 43; refine (fail_new _ hr 5).mono ?_; rintro en w2 ⟨rfl, hr2, hg2⟩))
      go_ret
      exact ⟨rfl, hr2, grown_trans hg hg2⟩
    · rw [if_pos he]
      have hys := hide (hnil he)
      clear hnil
      go_enter Tryd.func28, Tryd.ntmps28
      go_wp2_with (first
        | (go_at_call 41; refine hc.out.mono ?_; rintro en w1 ⟨rfl, hr, hg⟩)
        | (go_at_call 42; refine (pabove_any v most _ h0 hu m0 m1).mono ?_; rintro en w2 ⟨rfl, rfl⟩)
        | (go_at_call 43; refine (fail_old _ hr he 5).mono ?_; rintro en w2 ⟨rfl, rfl⟩))
      go_ret
      exact ⟨rfl, by rw [← hys.out]; exact hr, hg⟩
  · rw [if_neg hm]
    go_enter Tryd.func28, Tryd.ntmps28
    go_wp2_with (first
      | (go_at_call 41; refine hc.out.mono ?_; rintro en w1 ⟨rfl, hr, hg⟩)
      | (go_at_call 42; refine (pabove_any v most _ h0 hu m0 m1).mono ?_; rintro en w2 ⟨rfl, rfl⟩))
    go_ret
    exact ⟨rfl, hr, hg⟩
def endV (xs : List Int) (e : Int) : Int := if e = 0 ∧ 0 < xs.length then 3 else e
set_option maxRecDepth 100000 in
theorem end_any {lo g : Nat} {xs : List Int} {e : Int} (w : World) (h : Rd w lo g xs e) :
    Calls Tryd.prog 30 #[.pointer (some ⟨g, 0, none⟩)] w fun en w' => en = .returned (.int .i64 (endV xs e)) ∧ w = w' := by
  unfold endV
  by_cases he : e = 0
  · subst he
    by_cases hl : 0 < xs.length
    · rw [if_pos ⟨rfl, hl⟩]
      go_enter Tryd.func30, Tryd.ntmps30
      go_wp2_with (first
        | (go_at_call 44; refine (err_any _ h).mono ?_; rintro en w1 ⟨rfl, rfl⟩)
        | (go_at_call 45; refine (left_any _ h).mono ?_; rintro en w1 ⟨rfl, rfl⟩))
      go_ret
      exact ⟨rfl, rfl⟩
    · rw [if_neg (fun h => hl h.2)]
      have hl0 : ¬ (0 : Int) < (xs.length : Int) := by omega
      go_enter Tryd.func30, Tryd.ntmps30
      go_wp2_with (first
        | (go_at_call 44; refine (err_any _ h).mono ?_; rintro en w1 ⟨rfl, rfl⟩)
        | (go_at_call 45; refine (left_any _ h).mono ?_; rintro en w1 ⟨rfl, rfl⟩))
      go_ret
      exact ⟨rfl, rfl⟩
  · rw [if_neg (fun h => he h.1)]
    have hd : (e == 0) = false := beq_eq_false_iff_ne.2 he
    go_enter Tryd.func30, Tryd.ntmps30
    go_wp2_with (go_at_call 44; refine (err_any _ h).mono ?_; rintro en w1 ⟨rfl, rfl⟩)
    go_ret
    exact ⟨rfl, rfl⟩
set_option maxRecDepth 100000 in
theorem tk_nil {n : Nat} {xs : List Int} {e : Int} (h5 : e ≠ 0 → xs = []) : (tk n xs e).2.2 ≠ 0 → (tk n xs e).2.1 = [] := by
  unfold tk
  split
  · rename_i he; exact fun _ => h5 he
  · split
    · exact fun _ => rfl
    · exact fun h => absurd rfl h
def Id (w : World) (lo g : Nat) (xs : List Int) (e : Int) : Prop :=
  ∃ A n c, lo ≤ g ∧ Blk w g 57 #[.slice A n c, .int .i64 e] ∧ Sp w lo g A n xs ∧ n ≤ c ∧ (c ≤ 9223372036854775807 ∧ n ≤ 140737488355328) ∧ (e ≠ 0 → xs = [])
set_option maxRecDepth 100000 in
theorem Id.grown {w w' : World} {lo g g' : Nat} {xs : List Int} {e : Int} (h : Id w lo g xs e) (hg : w.grownBy w' (some g')) (hne : g' < lo ∨ g < g') : Id w' lo g xs e := by
  obtain ⟨A, n, c, h0, h1, h2, h3, h4, h5⟩ := h
  exact ⟨A, n, c, h0, h1.grown hg (by intro e; injection e with e; omega), h2.grown hg (by omega), h3, h4, h5⟩
set_option maxRecDepth 100000 in
theorem Id.later {w w' : World} {lo g : Nat} {xs : List Int} {e : Int} (h : Id w lo g xs e) (hb : Below w.heap.size w w') : Id w' lo g xs e := by
  obtain ⟨A, n, c, h0, h1, h2, h3, h4, h5⟩ := h
  exact ⟨A, n, c, h0, h1.below hb h1.lt, h2.later hb, h3, h4, h5⟩
set_option maxRecDepth 100000 in
theorem Id.nil_ {w : World} {lo g : Nat} {xs : List Int} {e : Int} (h : Id w lo g xs e) (he : e ≠ 0) : xs = [] := by
  obtain ⟨A, n, c, _, _, _, _, _, h5⟩ := h; exact h5 he
set_option maxRecDepth 100000 in
theorem ifail_new {lo g : Nat} {xs : List Int} (w : World) (h : Id w lo g xs 0) (code : Int) :
    Calls Tryd.prog 47 #[.pointer (some ⟨g, 0, none⟩), .int .i64 code] w fun en w' => en = .returned (.tuple #[]) ∧ Id w' lo g [] code ∧ w.grownBy w' (some g) := by
  obtain ⟨A, n, c, hlo, hb, hs, _⟩ := h
  have c0 := hb.cell 0
  have c1 := hb.cell 1
  simp only [List.getElem?_toArray, List.getElem?_cons_zero, List.getElem?_cons_succ] at c0 c1
  have f0 := hb.frozen 0
  have f1 := hb.frozen 1
  have HB := hide hb
  clear hb
  go_enter Tryd.func47, Tryd.ntmps47
  go_wp2
  go_end0
  exact ⟨rfl, ⟨none, 0, 0, hlo, (HB.out.set 1 _).set 0 _, Sp.nil_, Nat.le_refl _, ⟨by omega, by omega⟩, fun _ => rfl⟩, grown_trans (grown_set _ _ _ _) (grown_set _ _ _ _)⟩
set_option maxRecDepth 100000 in
theorem ifail_old {lo g : Nat} {xs : List Int} {e : Int} (w : World) (h : Id w lo g xs e) (he : e ≠ 0) (code : Int) :
    Calls Tryd.prog 47 #[.pointer (some ⟨g, 0, none⟩), .int .i64 code] w fun en w' => en = .returned (.tuple #[]) ∧ Id w' lo g [] e ∧ w.grownBy w' (some g) := by
  obtain ⟨A, n, c, hlo, hb, hs, _⟩ := h
  have hd : (e == 0) = false := beq_eq_false_iff_ne.2 he
  have c0 := hb.cell 0
  have c1 := hb.cell 1
  simp only [List.getElem?_toArray, List.getElem?_cons_zero, List.getElem?_cons_succ] at c0 c1
  have f0 := hb.frozen 0
  have f1 := hb.frozen 1
  have HB := hide hb
  clear hb
  go_enter Tryd.func47, Tryd.ntmps47
  go_wp2
  go_end0
  exact ⟨rfl, ⟨none, 0, 0, hlo, HB.out.set 0 _, Sp.nil_, Nat.le_refl _, ⟨by omega, by omega⟩, fun _ => rfl⟩, grown_set _ _ _ _⟩
def INumPost (w : World) (lo g : Nat) (k : IntKind) (v : Int) (xs : List Int) (e : Int) (en : Ending) (w' : World) : Prop := en = .returned (.int k v) ∧ Id w' lo g xs e ∧ w.grownBy w' (some g)
set_option maxRecDepth 100000 in
theorem step256 (k : Nat) (hk : k < 8) {q b : Int} (q0 : 0 ≤ q) (q1 : q < 256 ^ k) (b0 : 0 ≤ b) (b1 : b < 256) : 0 ≤ 256 * q ∧ 256 * q + b < 18446744073709551616 := by
  have := pow256_mono (show k + 1 ≤ 8 by omega)
  rw [Int.pow_succ, show (256 : Int) ^ 8 = 18446744073709551616 from by decide] at this
  omega
set_option maxHeartbeats 400000 in
set_option maxRecDepth 100000 in
theorem iu_any {lo g : Nat} {xs : List Int} {e : Int} (w : World) (h : Id w lo g xs e) (hx : IsBy xs) (n : Nat) (hn0 : 0 < n) (hn : n ≤ 8) :
    Calls Tryd.prog 46 #[.pointer (some ⟨g, 0, none⟩), .int .i64 (n : Int)] w (INumPost w lo g .u64 (unum n xs e) (tk n xs e).2.1 (tk n xs e).2.2) := by
  have h' := hide h
  have hnil := h.nil_
  obtain ⟨A, m, c, hlo, hb, hs, hmc, ⟨hc, hm47⟩, _⟩ := h
  have c0 := hb.cell 0
  simp only [List.getElem?_toArray, List.getElem?_cons_zero, List.getElem?_cons_succ] at c0
  have f0 := hb.frozen 0
  have hml := hs.1
  by_cases hlt : m < n
  · by_cases he : e = 0
    · subst he
      have ht : tk n xs 0 = ([], [], 4) := by simp [tk]; omega
      unfold unum
      rw [ht]
      have HM := hide hml
      clear hml hb hnil
      go_enter Tryd.func46, Tryd.ntmps46
      go_wp2_with (go_at_call 47; refine (ifail_new _ h'.out 4).mono ?_; rintro en w1 ⟨rfl, hr, hg⟩)
      go_ret
      exact ⟨rfl, hr, hg⟩
    · have hxs := hnil he
      have ht : tk n xs e = ([], [], e) := by simp [tk, he, hxs]
      unfold unum
      rw [ht]
      have HM := hide hml
      clear hml hb hnil hxs
      go_enter Tryd.func46, Tryd.ntmps46
      go_wp2_with (go_at_call 47; refine (ifail_old _ h'.out he 4).mono ?_; rintro en w1 ⟨rfl, hr, hg⟩)
      go_ret
      exact ⟨rfl, hr, hg⟩
  · have he : e = 0 := by
      rcases Decidable.em (e = 0) with h | h
      · exact h
      · have := hnil h
        rw [this] at hml
        simp at hml
        omega
    subst he
    have ht : tk n xs 0 = (xs.take n, xs.drop n, 0) := by simp [tk]; omega
    unfold unum
    rw [ht]
    have HM := hide hml
    have HB := hide hb
    clear hml hb hnil
    go_enter Tryd.func46, Tryd.ntmps46
    go_wp2
    go_loop [5, 6] (fun v i => ∃ k : Nat, k ≤ n ∧ i = .int .i64 k ∧ v = .int .u64 (beV (xs.take k))) (fun _ i => n - (intOf i).toNat)
    case atStart => exact ⟨0, Nat.zero_le _, rfl, rfl⟩
    case round =>
      obtain ⟨k, hk, rfl, rfl⟩ := hrel
      obtain ⟨q0, q1⟩ := beV_bound (hx.take k)
      by_cases hkn : k < n
      · obtain ⟨b, o, rfl, hlb, _, hcell⟩ := hs.2 (by omega)
        have hck := hcell k (by omega)
        obtain ⟨b0, b1⟩ := getD_byte hx k
        have hsu := beV_take_succ xs k (by rw [HM.out]; omega)
        rw [List.length_take, HM.out, Nat.min_eq_left (by omega)] at q1
        obtain ⟨s0, s1⟩ := step256 k (by omega) q0 q1 b0 b1
        have S2 := hide (show IntKind.u64.wrap (256 * beV (xs.take k) + IntKind.u64.wrap (xs.getD k 0)) = 256 * beV (xs.take k) + xs.getD k 0 from by rw [u64_wrap_id _ b0 (by omega), u64_wrap_id _ (by omega) s1])
        have HS := hide hsu
        clear hsu q1 hcell
        go_wp2
        go_round
        case rel => exact ⟨k + 1, by omega, by go_num, congrArg (Value.int .u64) (by have h2 := S2.out; rw [HS.out, Int.mul_comm (beV _) 256, ← h2]; simp [List.getD])⟩
        case measure => simp [intOf]; omega
      · have hkn' : k = n := by omega
        go_wp2
        · go_ret
          have hcn : c = n := ‹c = n›
          have hd := hs.drop (k := n) (by omega) hmc
          rw [if_pos hcn] at hd
          exact ⟨rfl, ⟨A, m - n, 0, hlo, HB.out.set 0 _, hd.grown (grown_set _ _ _ _) (.inr (Nat.le_refl _)), by omega, ⟨by omega, by omega⟩, fun h => absurd rfl h⟩, grown_set _ _ _ _⟩
        · go_ret
          have hd := hs.drop (k := n) (by omega) hmc
          rw [if_neg ‹¬c = n›] at hd
          exact ⟨rfl, ⟨_, m - n, c - n, hlo, HB.out.set 0 _, hd.grown (grown_set _ _ _ _) (.inr (Nat.le_refl _)), by omega, ⟨by omega, by omega⟩, fun h => absurd rfl h⟩, grown_set _ _ _ _⟩
set_option maxRecDepth 100000 in
theorem tk_err {n : Nat} {xs : List Int} {e : Int} (h : (tk n xs e).2.2 ≠ 0) : (tk n xs e).1 = [] := by
  unfold tk at h ⊢
  split
  · rfl
  · rename_i he
    rw [if_neg he] at h
    split
    · rfl
    · rename_i hl; rw [if_neg hl] at h; exact absurd rfl h
set_option maxRecDepth 100000 in
theorem unum_err {n : Nat} {xs : List Int} {e : Int} (h : (tk n xs e).2.2 ≠ 0) : unum n xs e = 0 := by unfold unum; rw [tk_err h]; rfl
set_option maxHeartbeats 400000 in
set_option maxRecDepth 100000 in
theorem inum_any {lo g : Nat} {xs : List Int} {e : Int} (w : World) (h : Id w lo g xs e) (hx : IsBy xs) (most : Int) (m0 : -9223372036854775808 ≤ most) (m1 : most ≤ 9223372036854775807) :
    Calls Tryd.prog 32 #[.pointer (some ⟨g, 0, none⟩), .int .i64 most] w (INumPost w lo g .i64 (tkNum most xs e).1 (tkNum most xs e).2.1 (tkNum most xs e).2.2) := by
  have hub := unum_bound (n := 8) (e := e) hx
  have hu : unum 8 xs e < 18446744073709551616 := hub.2
  have hc := hide (iu_any w h hx 8 (by omega) (by omega))
  have hnil := tk_nil (n := 8) h.nil_
  have hz := unum_err (n := 8) (xs := xs) (e := e)
  unfold tkNum
  generalize unum 8 xs e = v at *
  generalize (tk 8 xs e).2 = r at *
  obtain ⟨ys, e1⟩ := r
  dsimp only at *
  have h0 := hub.1
  clear h hx hub
  by_cases he : e1 = 0
  · subst he
    clear hz hnil
    by_cases hm : most < v
    · rw [if_pos hm, if_neg (by simp)]
      by_cases h63 : 9223372036854775808 ≤ v
      · have HV := hide hu
        clear hu
        go_enter Tryd.func32, Tryd.ntmps32
        go_wp2_with (first
          | (go_at_call 46; refine hc.out.mono ?_; rintro en w1 ⟨rfl, hr, hg⟩; obtain ⟨A1, n1, c1, _, hb1, _⟩ := id hr; have cc0 := hb1.cell 0; have cc1 := hb1.cell 1; simp only [List.getElem?_toArray, List.getElem?_cons_zero, List.getElem?_cons_succ] at cc0 cc1; clear hb1)
          | (go_at_call 47; refine (ifail_new _ hr 5).mono ?_; rintro en w2 ⟨rfl, hr2, hg2⟩))
        go_ret
        exact ⟨rfl, hr2, grown_trans hg hg2⟩
      · have HV := hide hu
        clear hu
        go_enter Tryd.func32, Tryd.ntmps32
        go_wp2_with (first
          | (go_at_call 46; refine hc.out.mono ?_; rintro en w1 ⟨rfl, hr, hg⟩; obtain ⟨A1, n1, c1, _, hb1, _⟩ := id hr; have cc0 := hb1.cell 0; have cc1 := hb1.cell 1; simp only [List.getElem?_toArray, List.getElem?_cons_zero, List.getElem?_cons_succ] at cc0 cc1; clear hb1)
          | (go_at_call 47; refine (ifail_new _ hr 5).mono ?_; rintro en w2 ⟨rfl, hr2, hg2⟩))
        go_ret
        exact ⟨rfl, hr2, grown_trans hg hg2⟩
    · rw [if_neg hm]
      have h63 : ¬ 9223372036854775808 ≤ v := by omega
      have HV := hide hu
      clear hu
      go_enter Tryd.func32, Tryd.ntmps32
      go_wp2_with (go_at_call 46; refine hc.out.mono ?_; rintro en w1 ⟨rfl, hr, hg⟩; obtain ⟨A1, n1, c1, _, hb1, _⟩ := id hr; have cc0 := hb1.cell 0; have cc1 := hb1.cell 1; simp only [List.getElem?_toArray, List.getElem?_cons_zero, List.getElem?_cons_succ] at cc0 cc1; clear hb1)
      go_ret
      exact ⟨rfl, hr, hg⟩
  · have hd : (e1 == 0) = false := beq_eq_false_iff_ne.2 he
    obtain rfl := hz he
    obtain rfl := hnil he
    clear hz hnil
    have hif : (if most < 0 then ((0 : Int), ([] : List Int), if e1 ≠ 0 then e1 else 5) else (0, [], e1)) = (0, [], e1) := by
      rw [if_pos he]; split <;> rfl
    rw [hif]
    clear hu h0
    go_enter Tryd.func32, Tryd.ntmps32
    go_wp2_with (go_at_call 46; refine hc.out.mono ?_; rintro en w1 ⟨rfl, hr, hg⟩; obtain ⟨A1, n1, c1, _, hb1, _⟩ := id hr; have cc0 := hb1.cell 0; have cc1 := hb1.cell 1; simp only [List.getElem?_toArray, List.getElem?_cons_zero, List.getElem?_cons_succ] at cc0 cc1; clear hb1)
    go_ret
    exact ⟨rfl, hr, hg⟩
set_option maxRecDepth 100000 in
theorem putNum_any (A : Option Addr) (m c : Nat) (xs : List Int) (x : Int) (w : World) (h : Bs w w.heap.size A m xs) (hm : m ≤ 1000000) (h0 : -9223372036854775808 ≤ x) (h1 : x ≤ 9223372036854775807) :
    Calls Tryd.prog 25 #[.slice A m c, .int .i64 x] w (RetBs (xs ++ highB (max x 0) 8) w) := by
  by_cases hx : 0 ≤ x
  · rw [show max x 0 = x from by omega]
    go_enter Tryd.func25, Tryd.ntmps25
    go_wp2_with (go_at_call 38; refine (put64_any A m c xs x _ h hm hx (by omega)).mono ?_; rintro e w1 ⟨A1, n1, c1, rfl, hb, hn, hc, hl⟩)
    go_ret
    exact ⟨A1, n1, c1, rfl, hb, hn, hc, hl⟩
  · rw [show max x 0 = 0 from by omega]
    go_enter Tryd.func25, Tryd.ntmps25
    go_wp2_with (go_at_call 38; refine (put64_any A m c xs 0 _ h hm (by omega) (by omega)).mono ?_; rintro e w1 ⟨A1, n1, c1, rfl, hb, hn, hc, hl⟩)
    go_ret
    exact ⟨A1, n1, c1, rfl, hb, hn, hc, hl⟩
set_option maxRecDepth 100000 in
theorem refPut64_any (A : Option Addr) (m c : Nat) (xs : List Int) (x : Int) (w : World) (h : Bs w w.heap.size A m xs) (hm : m ≤ 1000000) (h0 : 0 ≤ x) (h1 : x < 2 ^ 64) :
    Calls Tryd.prog 39 #[.slice A m c, .int .u64 x] w (RetBs (xs ++ highB x 8) w) := by
  go_enter Tryd.func39, Tryd.ntmps39
  go_wp2_with (first
    | (go_at_call 51
       refine (high_any x 8 _ h0 (by omega) (by omega)).mono ?_
       rintro e w1 ⟨A1, n1, c1, rfl, hb1, hn1, hc1, hl1⟩
       have hlen : n1 ≤ 8 := by have := hb1.1; rw [highB_length] at this; omega
       have h2 := h.later hl1)
    | (go_at_call 31; refine (both_any A A1 m n1 c c1 xs (highB x 8) _ h2 hb1 (by omega)).mono ?_; intro e w2 hr; obtain ⟨A2, n2, c2, rfl, hb2, hn2, hc2, hl2⟩ := hr.trans hl1))
  go_ret
  exact ⟨A2, n2, c2, rfl, hb2, hn2, hc2, hl2⟩
set_option maxRecDepth 100000 in
theorem refPutNum_any (A : Option Addr) (m c : Nat) (xs : List Int) (x : Int) (w : World) (h : Bs w w.heap.size A m xs) (hm : m ≤ 1000000) (h0 : -9223372036854775808 ≤ x) (h1 : x ≤ 9223372036854775807) :
    Calls Tryd.prog 26 #[.slice A m c, .int .i64 x] w (RetBs (xs ++ highB (max x 0) 8) w) := by
  by_cases hx : 0 ≤ x
  · rw [show max x 0 = x from by omega]
    go_enter Tryd.func26, Tryd.ntmps26
    go_wp2_with (go_at_call 39; refine (refPut64_any A m c xs x _ h hm hx (by omega)).mono ?_; rintro e w1 ⟨A1, n1, c1, rfl, hb, hn, hc, hl⟩)
    go_ret
    exact ⟨A1, n1, c1, rfl, hb, hn, hc, hl⟩
  · rw [show max x 0 = 0 from by omega]
    go_enter Tryd.func26, Tryd.ntmps26
    go_wp2_with (go_at_call 39; refine (refPut64_any A m c xs 0 _ h hm (by omega) (by omega)).mono ?_; rintro e w1 ⟨A1, n1, c1, rfl, hb, hn, hc, hl⟩)
    go_ret
    exact ⟨A1, n1, c1, rfl, hb, hn, hc, hl⟩
end Go.Proofs.YtllhboennfljlaaDoor

/-
  Keys: names as six numbers, small contracts. Own work.
-/
namespace Go.Proofs.YtllhboennfljlaaDoor
open Go.RowKit
/-- A number that an int may be. -/
def isI (x : Int) : Prop := -9223372036854775808 ≤ x ∧ x ≤ 9223372036854775807
set_option maxRecDepth 100000 in
theorem eqId (a b c d e f a' b' c' d' e' f' : Int) (w : World) : (Op.equalIn 10000 23 (.agg (vk .i64 [a, b, c, d, e, f]).toArray) (.agg (vk .i64 [a', b', c', d', e', f']).toArray)).run Tryd.prog w = .ok (decide ([a, b, c, d, e, f] = [a', b', c', d', e', f'])) w := by
  rw [show (10000 : Nat) = 9999 + 1 from rfl, run_equalIn_struct w 9999 _ _ _ Tryd.underlying23 (by kernel_rfl)]
  have he : ∀ (x y : Int) (w : World), (Op.equalIn 9999 3 (.int .i64 x) (.int .i64 y)).run Tryd.prog w = .ok (x == y) w := fun x y w => run_equalIn_int w 9998 _ .i64 .i64 x y Tryd.underlying3
  go_simp
  simp only [vk, List.map_cons, List.map_nil, List.getElem?_cons_zero, List.getElem?_cons_succ, Sem.run_pure, Result.andThen_ok, he]
  by_cases h0 : a = a'
  · by_cases h1 : b = b'
    · by_cases h2 : c = c'
      · by_cases h3 : d = d'
        · by_cases h4 : e = e'
          · by_cases h5 : f = f' <;> simp [h0, h1, h2, h3, h4, h5]
          · simp [h0, h1, h2, h3, h4]
        · simp [h0, h1, h2, h3]
      · simp [h0, h1, h2]
    · simp [h0, h1]
  · simp [h0]
theorem in_any (x : Int) (w : World) (hx : isI x) : Calls Tryd.prog 23 #[.int .i64 x] w fun e w' => e = .returned (.bool (decide (0 ≤ x) && decide (x ≤ 1099511627776))) ∧ w = w' := by
  obtain ⟨h0, h1⟩ := hx
  by_cases g1 : 0 ≤ x
  · by_cases g2 : x ≤ 1099511627776
    · have hd1 : decide (0 ≤ x) = true := by simp; omega
      have hd2 : decide (x ≤ 1099511627776) = true := by simp; omega
      go_enter Tryd.func23, Tryd.ntmps23
      go_wp2
      go_ret
      exact ⟨by first | rfl | (rw [hd1, hd2]; rfl), rfl⟩
    · have hd1 : decide (0 ≤ x) = true := by simp; omega
      have hd2 : decide (x ≤ 1099511627776) = false := by simp; omega
      go_enter Tryd.func23, Tryd.ntmps23
      go_wp2
      go_ret
      exact ⟨by first | rfl | (rw [hd1, hd2]; rfl), rfl⟩
  · have hd1 : decide (0 ≤ x) = false := by simp; omega
    go_enter Tryd.func23, Tryd.ntmps23
    go_wp2
    go_ret
    exact ⟨by first | rfl | (rw [hd1]; rfl), rfl⟩
/-- The next number, or why there is none. -/
def nextV (x y : Int) : Int × Int := if x < 0 then (0, 1) else if y ≤ x then (0, 7) else (x + 1, 0)
theorem next_any (x y : Int) (w : World) (hx : isI x) (hy : isI y) : Calls Tryd.prog 21 #[.int .i64 x, .int .i64 y] w fun e w' => e = .returned (.tuple #[.int .i64 (nextV x y).1, .int .i64 (nextV x y).2]) ∧ w = w' := by
  obtain ⟨h0, h1⟩ := hx
  obtain ⟨k0, k1⟩ := hy
  unfold nextV
  by_cases g1 : x < 0
  · rw [if_pos g1]
    go_enter Tryd.func21, Tryd.ntmps21
    go_wp2
    go_ret2
    exact ⟨rfl, rfl⟩
  · rw [if_neg g1]
    by_cases g2 : y ≤ x
    · rw [if_pos g2]
      go_enter Tryd.func21, Tryd.ntmps21
      go_wp2
      go_ret2
      exact ⟨rfl, rfl⟩
    · rw [if_neg g2]
      go_enter Tryd.func21, Tryd.ntmps21
      go_wp2
      go_ret2
      exact ⟨rfl, rfl⟩
theorem size6i {xs : List Int} (h : xs.length = 6) : (Tryd.prog.info? 46).map (·.size) = some (vk .i64 xs).length := by rw [vk_len, h]; kernel_rfl
theorem sizeId {xs : List Int} (h : xs.length = 6) : (Tryd.prog.info? 23).map (·.size) = some (vk .i64 xs).length := by rw [vk_len, h]; kernel_rfl
theorem zero6i : (Tryd.prog.info? 46).map (fun i => i.zero) = some (some (.agg (vk .i64 [0, 0, 0, 0, 0, 0]).toArray)) := by kernel_rfl
theorem zeroId : (Tryd.prog.info? 23).map (fun i => i.zero) = some (some (.agg (vk .i64 [0, 0, 0, 0, 0, 0]).toArray)) := by kernel_rfl
theorem built6 (a b c d e f : Int) : Tryd.prog.built 46 [(0, .int .i64 a), (1, .int .i64 b), (2, .int .i64 c), (3, .int .i64 d), (4, .int .i64 e), (5, .int .i64 f)] = some (vk .i64 [a, b, c, d, e, f]).toArray := by kernel_rfl
theorem builtId (a b c d e f : Int) : Tryd.prog.built 23 [(0, .int .i64 a), (1, .int .i64 b), (2, .int .i64 c), (3, .int .i64 d), (4, .int .i64 e), (5, .int .i64 f)] = some (vk .i64 [a, b, c, d, e, f]).toArray := by kernel_rfl
set_option maxRecDepth 100000 in
set_option maxHeartbeats 1000000 in
theorem numbers_any (a b c d e f : Int) (w : World) : Calls Tryd.prog 24 #[.agg (vk .i64 [a, b, c, d, e, f]).toArray] w fun en w' => en = .returned (.agg (vk .i64 [a, b, c, d, e, f]).toArray) ∧ Below w.heap.size w w' := by
  have bt := built6 a b c d e f
  have zf := hide (size6i (xs := [a, b, c, d, e, f]) rfl)
  go_enter Tryd.func24, Tryd.ntmps24
  go_wp2_with (first
    | (with_reducible refine wl_box rfl 23 (.tmp 0) _ (vk .i64 [a, b, c, d, e, f]) rfl rfl rfl ?_; intro g1 w1 r1 p1 l1 b1)
    | (with_reducible refine wl_alloc rfl 46 _ (vk .i64 [0, 0, 0, 0, 0, 0]) rfl zero6i rfl ?_; intro g2 w2 r2 p2 l2 b2; have r1' := r1.later b2; have c0 := r1'.cell (j := 0) (v := .int .i64 a) rfl; have c1 := r1'.cell (j := 1) (v := .int .i64 b) rfl; have c2 := r1'.cell (j := 2) (v := .int .i64 c) rfl; have c3 := r1'.cell (j := 3) (v := .int .i64 d) rfl; have c4 := r1'.cell (j := 4) (v := .int .i64 e) rfl; have c5 := r1'.cell (j := 5) (v := .int .i64 f) rfl)
    | ((with_reducible refine wl_build rfl 46 _ rfl _ ?hv _ bt ?hk); case hv => rfl)
    | (with_reducible refine wl_store_row rfl 46 (.tmp 2) (.tmp 15) g2 46 _ (vk .i64 [a, b, c, d, e, f]) rfl rfl rfl r2 zf.out rfl (vk_one' _ _) ?_; intro w3 r3 o3))
  refine bodyPost_ret (v := .agg (vk .i64 [a, b, c, d, e, f]).toArray) ?_ rfl ⟨rfl, ?_⟩
  · exact results_cell_row Tryd.results24 _ _ g2 46 _ (0, 0) _ rfl r3 Tryd.underlying46 rfl zf.out
  · exact (b1.trans (b2.mono b1.size)).trans (o3.below (Nat.le_trans b1.size p2))
set_option maxRecDepth 100000 in
set_option maxHeartbeats 1000000 in
theorem named_any (a b c d e f : Int) (w : World) : Calls Tryd.prog 29 #[.agg (vk .i64 [a, b, c, d, e, f]).toArray] w fun en w' => en = .returned (.agg (vk .i64 [a, b, c, d, e, f]).toArray) ∧ Below w.heap.size w w' := by
  have bt := builtId a b c d e f
  have zf := hide (sizeId (xs := [a, b, c, d, e, f]) rfl)
  go_enter Tryd.func29, Tryd.ntmps29
  go_wp2_with (first
    | (with_reducible refine wl_box rfl 46 (.tmp 0) _ (vk .i64 [a, b, c, d, e, f]) rfl rfl rfl ?_; intro g1 w1 r1 p1 l1 b1)
    | (with_reducible refine wl_alloc rfl 23 _ (vk .i64 [0, 0, 0, 0, 0, 0]) rfl zeroId rfl ?_; intro g2 w2 r2 p2 l2 b2; have r1' := r1.later b2; have c0 := r1'.cell (j := 0) (v := .int .i64 a) rfl; have c1 := r1'.cell (j := 1) (v := .int .i64 b) rfl; have c2 := r1'.cell (j := 2) (v := .int .i64 c) rfl; have c3 := r1'.cell (j := 3) (v := .int .i64 d) rfl; have c4 := r1'.cell (j := 4) (v := .int .i64 e) rfl; have c5 := r1'.cell (j := 5) (v := .int .i64 f) rfl)
    | ((with_reducible refine wl_build rfl 23 _ rfl _ ?hv _ bt ?hk); case hv => rfl)
    | (with_reducible refine wl_store_row rfl 23 (.tmp 2) (.tmp 15) g2 23 _ (vk .i64 [a, b, c, d, e, f]) rfl rfl rfl r2 zf.out rfl (vk_one' _ _) ?_; intro w3 r3 o3))
  refine bodyPost_ret (v := .agg (vk .i64 [a, b, c, d, e, f]).toArray) ?_ rfl ⟨rfl, ?_⟩
  · exact results_cell_row Tryd.results29 _ _ g2 23 _ (0, 0) _ rfl r3 Tryd.underlying23 rfl zf.out
  · exact (b1.trans (b2.mono b1.size)).trans (o3.below (Nat.le_trans b1.size p2))

end Go.Proofs.YtllhboennfljlaaDoor

/-
  Keys: which names may be: the program's contracts. Own work.
-/
namespace Go.Proofs.YtllhboennfljlaaDoor
open Go.RowKit
def boundsL : List Int := [1, 6, 0, 1099511627776, 0, 1099511627776, 0, 1099511627776, 0, 1, 0, 1099511627776]
/-- What the walks know of the table. -/
def TabK (w : World) : Prop := 0 < w.heap.size ∧ ∀ j, j < 12 → w.cell? ⟨0, j, none⟩ = some (.int .i64 (boundsL.getD j 0))
theorem TabK.later {w w' : World} (h : TabK w) (hb : Below w.heap.size w w') : TabK w' := ⟨Nat.lt_of_lt_of_le h.1 hb.size, fun j hj => (hb.cell (p := ⟨0, j, none⟩) h.1).trans (h.2 j hj)⟩
/-- A number brought within bounds. -/
def nr (lo hi x : Int) : Int := if hi < (if x < lo then lo else x) then hi else (if x < lo then lo else x)
def nrAt (ns : List Int) (j : Nat) : Int := nr (boundsL.getD (2 * j) 0) (boundsL.getD (2 * j + 1) 0) (ns.getD j 0)
def nrP (ns : List Int) : Nat → List Int
  | 0 => ns
  | k + 1 => (nrP ns k).set k (nrAt ns k)
theorem nrP_len (ns : List Int) (k : Nat) : (nrP ns k).length = ns.length := by
  induction k with
  | zero => rfl
  | succ k ih => unfold nrP; rw [List.length_set, ih]
theorem nrP_at (ns : List Int) (k j : Nat) (h : k ≤ j) : (nrP ns k).getD j 0 = ns.getD j 0 := by
  induction k with
  | zero => rfl
  | succ k ih =>
    unfold nrP
    simp only [List.getD] at ih ⊢
    rw [List.getElem?_set_ne (by omega)]
    exact ih (by omega)
/-- Whether a name may be. -/
def okB (a b c d e f : Int) : Bool := decide (1 ≤ a ∧ a ≤ 6 ∧ (0 ≤ b ∧ b ≤ 1099511627776) ∧ (0 ≤ c ∧ c ≤ 1099511627776) ∧ (0 ≤ d ∧ d ≤ 1099511627776) ∧ (0 ≤ f ∧ f ≤ 1099511627776) ∧ (e = 0 ∨ e = 1))
theorem nr_eq (lo hi x : Int) (h : lo ≤ hi) : nr lo hi x = x ↔ lo ≤ x ∧ x ≤ hi := by unfold nr; split <;> split <;> omega
theorem nr_all (a b c d e f : Int) : decide ([a, b, c, d, e, f] = nrP [a, b, c, d, e, f] 6) = okB a b c d e f := by
  unfold okB
  have h : nrP [a, b, c, d, e, f] 6 = [nr 1 6 a, nr 0 1099511627776 b, nr 0 1099511627776 c, nr 0 1099511627776 d, nr 0 1 e, nr 0 1099511627776 f] := rfl
  rw [h]
  congr 1
  have h0 := nr_eq 1 6 a (by decide)
  have h1 := nr_eq 0 1099511627776 b (by decide)
  have h2 := nr_eq 0 1099511627776 c (by decide)
  have h3 := nr_eq 0 1099511627776 d (by decide)
  have h4 := nr_eq 0 1 e (by decide)
  have h5 := nr_eq 0 1099511627776 f (by decide)
  generalize nr 1 6 a = A at *
  generalize nr 0 1099511627776 b = B at *
  generalize nr 0 1099511627776 c = C at *
  generalize nr 0 1099511627776 d = D at *
  generalize nr 0 1 e = E at *
  generalize nr 0 1099511627776 f = F at *
  simp only [List.cons.injEq, and_true, eq_iff_iff]
  omega
theorem run_max2 {P : Program} {o : Oper} {a : Act} {w : World} (x y : Operand) (t : TypeId) (u v : Int) (ho : o.op = .call { callee := .builtin .max, args := #[x, y], argTypes := #[t, t] }) (hx : a.eval x = .int .i64 u) (hy : a.eval y = .int .i64 v) :
    (execOp a.eval o).run P w = .ok (.value (.int .i64 (if u < v then v else u))) w := by
  unfold execOp
  simp only [ho, resolve, invoke, builtin, Sem.run_bind, Sem.run_pure, Result.andThen_ok, List.map_toArray, List.map_cons, List.map_nil, hx, hy, run_max_int2]
  skip
theorem run_min2 {P : Program} {o : Oper} {a : Act} {w : World} (x y : Operand) (t : TypeId) (u v : Int) (ho : o.op = .call { callee := .builtin .min, args := #[x, y], argTypes := #[t, t] }) (hx : a.eval x = .int .i64 u) (hy : a.eval y = .int .i64 v) :
    (execOp a.eval o).run P w = .ok (.value (.int .i64 (if v < u then v else u))) w := by
  unfold execOp
  simp only [ho, resolve, invoke, builtin, Sem.run_bind, Sem.run_pure, Result.andThen_ok, List.map_toArray, List.map_cons, List.map_nil, hx, hy, run_min_int2]
  skip
def SNr (g3 g5 i : Nat) (x lo hi : Int) (opn : Nat) (v : Value) : Prop :=
  match opn with
  | 0 | 1 => v = .int .i64 (i : Int)
  | 2 | 10 => v = .pointer (some ⟨g3, i, none⟩)
  | 3 => v = .int .i64 x
  | 4 => v = .pointer (some ⟨g5, 0, none⟩)
  | 5 => v = .int .i64 lo
  | 6 => v = .int .i64 (if x < lo then lo else x)
  | 7 => v = .pointer (some ⟨g5, 1, none⟩)
  | 8 => v = .int .i64 hi
  | 9 => v = .int .i64 (nr lo hi x)
  | _ => True

theorem bounds_at (i : Nat) (h : i < 6) : ((vk .i64 boundsL).drop (i * 2)).take 2 = vk .i64 [boundsL.getD (2 * i) 0, boundsL.getD (2 * i + 1) 0] := by
  have : i = 0 ∨ i = 1 ∨ i = 2 ∨ i = 3 ∨ i = 4 ∨ i = 5 := by omega
  rcases this with rfl | rfl | rfl | rfl | rfl | rfl <;> rfl
theorem sizeB : (Tryd.prog.info? 62).map (·.size) = some (vk .i64 boundsL).length := by kernel_rfl
theorem size2 (x y : Int) : (Tryd.prog.info? 61).map (·.size) = some (vk .i64 [x, y]).length := by kernel_rfl
theorem zero2 : (Tryd.prog.info? 61).map (fun i => i.zero) = some (some (.agg (vk .i64 [0, 0]).toArray)) := by kernel_rfl
set_option maxRecDepth 100000 in
set_option maxHeartbeats 2000000 in
theorem nearest_any (a b c d e f : Int) (w : World) (hT : TabK w) : Calls Tryd.prog 22 #[.agg (vk .i64 [a, b, c, d, e, f]).toArray] w fun en w' => en = .returned (.agg (vk .i64 (nrP [a, b, c, d, e, f] 6)).toArray) ∧ Below w.heap.size w w' := by
  have hcells : ∀ w' : World, Below w.heap.size w w' → ∀ j v, (vk .i64 boundsL)[j]? = some v → w'.cell? ⟨0, 0 + j, none⟩ = some v := by
    intro w' hb j v hv
    have hj : j < 12 := by have := (List.getElem?_eq_some_iff.1 hv).1; rw [vk_len] at this; exact this
    have := (hb.cell (p := ⟨0, j, none⟩) hT.1).trans (hT.2 j hj)
    rw [vk_get (by exact hj)] at hv
    rw [Nat.zero_add, this]
    exact hv
  have zId := hide (sizeId (xs := [a, b, c, d, e, f]) rfl)
  have z6 := hide (size6i (xs := [a, b, c, d, e, f]) rfl)
  have hnum := fun w => numbers_any a b c d e f w
  have hn0 : nrP [a, b, c, d, e, f] 0 = [a, b, c, d, e, f] := rfl
  obtain ⟨a', b', c', d', e', f', hfin⟩ : ∃ a' b' c' d' e' f', nrP [a, b, c, d, e, f] 6 = [a', b', c', d', e', f'] := ⟨_, _, _, _, _, _, rfl⟩
  have hnam := fun w => named_any a' b' c' d' e' f' w
  rw [hfin]
  have zF := hide (sizeId (xs := [a', b', c', d', e', f']) rfl)
  have HF := hide hfin
  have hall : ∀ k, (nrP [a, b, c, d, e, f] k).length = 6 := fun k => nrP_len _ k
  have HAll := hide hall
  have HB := hide bounds_at
  have zB := hide sizeB
  have l6 := hide (show (vk .i64 [0, 0, 0, 0, 0, 0]).length = (vk .i64 [a, b, c, d, e, f]).length from rfl)
  have l6b := hide (show (vk .i64 [0, 0, 0, 0, 0, 0]).length = (vk .i64 [a', b', c', d', e', f']).length from rfl)
  clear hfin hall
  generalize hns : [a, b, c, d, e, f] = ns at *
  have Hns := hide hns
  generalize [a', b', c', d', e', f'] = ms at *
  go_enter Tryd.func22, Tryd.ntmps22
  clear hns
  go_wp2_with (first
    | (with_reducible refine wl_box rfl 23 (.tmp 0) _ (vk .i64 ns) rfl rfl rfl ?_; intro g1 w1 r1 p1 l1 b1)
    | (with_reducible refine wl_alloc rfl 23 _ (vk .i64 [0, 0, 0, 0, 0, 0]) rfl zeroId rfl ?_; intro g2 w2 r2 p2 l2 b2; have r1a := r1.later b2)
    | (with_reducible refine wl_load_row rfl 23 (.tmp 1) g1 23 (vk .i64 ns) _ rfl rfl r1a Tryd.underlying23 rfl zId.out ?_))
  have B2 := b1.trans (b2.mono b1.size)
  refine (hnum w2).mono ?_
  rintro en w3 ⟨rfl, b3⟩
  have B3 := B2.trans (b3.mono B2.size)
  have r2a := r2.later b3
  clear r1 r1a r2 b3 hnum
  go_wp2_with (first
    | (with_reducible refine wl_alloc rfl 46 _ (vk .i64 [0, 0, 0, 0, 0, 0]) rfl zero6i rfl ?_; intro g3 w4 r3 p3 l3 b4)
    | (with_reducible refine wl_store_row rfl 46 (.tmp 3) (.tmp 7) g3 46 _ (vk .i64 ns) rfl rfl rfl r3 z6.out l6.out (vk_one' _ _) ?_; intro w5 r3a o5)
    | (with_reducible refine wl_load_cells rfl 62 (.global 0) _ 0 (vk .i64 boundsL) _ rfl rfl (hcells _ ((B3.trans (b4.mono B3.size)).trans (o5.below (Nat.le_trans B3.size p3)))) Tryd.underlying62 rfl zB.out ?_))
  have q3 : w.heap.size ≤ g3 := Nat.le_trans B3.size p3
  have q2 : w.heap.size ≤ g2 := Nat.le_trans b1.size p2
  have h23 : g2 ≠ g3 := by have := r2a.lt; omega
  have B5 := (B3.trans (b4.mono B3.size)).trans (o5.below q3)
  have r2b := (r2a.later b4).only o5 h23
  have r3b : Row w5 46 g3 (vk .i64 (nrP ns 0)) := r3a
  clear r3 r3a r2a b4 o5 hn0
  go_loopw [9] (fun iv wr => ∃ i : Nat, i ≤ 6 ∧ iv = .int .i64 i ∧ Row wr 46 g3 (vk .i64 (nrP ns i)) ∧ Row wr 23 g2 (vk .i64 [0, 0, 0, 0, 0, 0]) ∧ Below w.heap.size w wr) (fun iv _ => 6 - (intOf iv).toNat)
  case atStart => exact ⟨0, Nat.zero_le _, rfl, r3b, r2b, B5⟩
  case round =>
    clear r3b r2b B5
    obtain ⟨i, hi, rfl, r3, r2, br⟩ := hrel
    by_cases hlt : i < 6
    · have hIx : ∀ w, (Instr.index 62 (.agg (vk .i64 boundsL).toArray) (.int .i64 (i : Int))).run Tryd.prog w = .ok (.agg (vk .i64 [boundsL.getD (2 * i) 0, boundsL.getD (2 * i + 1) 0]).toArray) w := by
        intro w
        rw [run_index_part (P := Tryd.prog) w 62 61 6 2 (vk .i64 boundsL) i Tryd.underlying62 Tryd.isAgg61 Tryd.sizeOf61 hlt, HB.out i hlt]
      have hnew : nrP ns (i + 1) = (nrP ns i).set i (nr (boundsL.getD (2 * i) 0) (boundsL.getD (2 * i + 1) 0) ((nrP ns i).getD i 0)) := by rw [nrP_at ns i i (Nat.le_refl _)]; rfl
      have hcl := HAll.out i
      have hxc : (vk .i64 (nrP ns i))[i]? = some (.int .i64 ((nrP ns i).getD i 0)) := vk_get (by omega)
      have HN := hide hnew; have HC := hide hcl; have HX := hide hxc
      clear hnew hcl hxc
      generalize boundsL.getD (2 * i) 0 = lo at *
      generalize boundsL.getD (2 * i + 1) 0 = hi' at *
      generalize (nrP ns i).getD i 0 = x at *
      generalize hcur : nrP ns i = cur at *
      clear hcur
      have z2 := hide (size2 lo hi')
      go_wp2_with (first
        | rw [hIx]
        | (with_reducible refine wl_alloc rfl 61 _ (vk .i64 [0, 0]) rfl zero2 rfl ?_; intro g5 w6 r5 p5 l5 b6)
        | (with_reducible refine wl_store_row rfl 61 (.tmp 5) (.tmp 12) g5 61 _ (vk .i64 [lo, hi']) rfl rfl rfl r5 z2.out rfl (vk_one' _ _) ?_; intro w7 r5a o7))
      rename_i Q1 K1 hK1
      have h53 : g5 ≠ g3 := by have := r3.lt; omega
      have h25 : g2 ≠ g5 := by have := r2.lt; omega
      have q5 : w.heap.size ≤ g5 := Nat.le_trans br.size p5
      have B7 := (br.trans (b6.mono br.size)).trans (o7.below q5)
      have r3a := (r3.later b6).only o7 (Ne.symm h53)
      have r2a := (r2.later b6).only o7 h25
      clear r3 r2 r5 b6 o7 hIx
      have hcl := HC.out; have hxc := HX.out
      have r5 := r5a
      refine wp_region_vals [11] (SNr g3 g5 i x lo hi') (JB g3 46 w7 0 (vk .i64 cur) (vk .i64 (cur.set i (nr lo hi' x)))) (by kernel_rfl) (by kernel_rfl) (by kernel_rfl) (by kernel_rfl) (by kernel_rfl) (JB.start r3a rfl) ?obs ?he
      case obs =>
        refine ⟨?_, ?_, ?_, ?_, ?_, ?_, ?_, ?_, ?_, ?_, ?_, ?_, trivial⟩
        · exact .inl ⟨by kernel_rfl, fun L a1 w1 n' h => ⟨_, rfl, run_move (.tmp 4) rfl (h.var n' 4 (by kernel_rfl))⟩⟩
        · exact .inl ⟨by kernel_rfl, fun L a1 w1 n' h => ⟨_, rfl, run_move (.tmp 4) rfl (h.var n' 4 (by kernel_rfl))⟩⟩
        · exact .inl ⟨by kernel_rfl, fun L a1 w1 n' h => ⟨_, rfl, run_index0 46 (.tmp 3) (.tmp 14) 6 3 g3 (i) rfl Tryd.underlying46 Tryd.sizeOf3 (h.var n' 3 (by kernel_rfl)) (h.dep n' 1 14 (by kernel_rfl) rfl) (by omega)⟩⟩
        · exact .inl ⟨by kernel_rfl, fun L a1 w1 n' h => ⟨_, rfl, run_loadA 3 (.tmp 15) ⟨g3, i, none⟩ rfl Tryd.isAgg3 (h.dep n' 2 15 (by kernel_rfl) rfl) ((h.inv.1 (n'.later (by kernel_rfl))).cell hxc)⟩⟩
        · refine .inl ⟨by kernel_rfl, fun L a1 w1 n' h => ⟨.pointer (some ⟨g5, 0, none⟩), rfl, ?_⟩⟩
          have e0 : a1.eval (.tmp 5) = _ := h.var n' 5 (by kernel_rfl)
          unfold execOp
          simp only [e0]
          go_simp
        · exact .inl ⟨by kernel_rfl, fun L a1 w1 n' h => ⟨_, rfl, run_loadA 3 (.tmp 17) ⟨g5, 0, none⟩ rfl Tryd.isAgg3 (h.dep n' 4 17 (by kernel_rfl) rfl) ((r5.but h.inv.2.2 h53).cell rfl)⟩⟩
        · exact .inl ⟨by kernel_rfl, fun L a1 w1 n' h => ⟨_, rfl, run_max2 (.tmp 16) (.tmp 18) 3 _ _ rfl (h.dep n' 3 16 (by kernel_rfl) rfl) (h.dep n' 5 18 (by kernel_rfl) rfl)⟩⟩
        · refine .inl ⟨by kernel_rfl, fun L a1 w1 n' h => ⟨.pointer (some ⟨g5, 1, none⟩), rfl, ?_⟩⟩
          have e0 : a1.eval (.tmp 5) = _ := h.var n' 5 (by kernel_rfl)
          unfold execOp
          simp only [e0]
          go_simp
        · exact .inl ⟨by kernel_rfl, fun L a1 w1 n' h => ⟨_, rfl, run_loadA 3 (.tmp 20) ⟨g5, 1, none⟩ rfl Tryd.isAgg3 (h.dep n' 7 20 (by kernel_rfl) rfl) ((r5.but h.inv.2.2 h53).cell rfl)⟩⟩
        · exact .inl ⟨by kernel_rfl, fun L a1 w1 n' h => ⟨_, rfl, run_min2 (.tmp 19) (.tmp 21) 3 _ _ rfl (h.dep n' 6 19 (by kernel_rfl) rfl) (h.dep n' 8 21 (by kernel_rfl) rfl)⟩⟩
        · exact .inl ⟨by kernel_rfl, fun L a1 w1 n' h => ⟨_, rfl, run_index0 46 (.tmp 3) (.tmp 13) 6 3 g3 (i) rfl Tryd.underlying46 Tryd.sizeOf3 (h.var n' 3 (by kernel_rfl)) (h.dep n' 0 13 (by kernel_rfl) rfl) (by omega)⟩⟩
        · refine .inr fun L a1 w1 n' h K hK => ?_
          have no : L.getD 11 false = false := n'.not_yet
          refine st_store 3 (.tmp 23) (.tmp 22) g3 i 46 (vk .i64 cur) _ rfl (by kernel_rfl) (h.dep n' 10 23 (by kernel_rfl) rfl) (h.dep n' 9 22 (by kernel_rfl) rfl) (h.inv.1 no) (by rw [vk_len, hcl]; omega) rfl ?_
          intro w3 r3 o3
          rw [vk_set] at r3
          exact hK undef w3 trivial (JB.store h.inv o3 r3 rfl)
      case he =>
        intro V w8 hV hJ
        have r8 := hJ.2.1 rfl
        have bu := hJ.2.2
        clear hV hJ hcl hxc
        simp only [putOps, List.setIfInBounds_toArray, List.set_cons_succ, List.set_cons_zero, Nat.reduceAdd]
        refine hK1 _ _ ?_
        go_wp2
        go_roundw
        case rel => exact ⟨i + 1, by omega, by go_num, by rw [HN.out]; exact r8, r2a.but bu h23, B7.trans (bu.below q3 B7.size)⟩
        case measure => simp [intOf]; omega
    · have h6 : i = 6 := by omega
      subst h6
      rw [HF.out] at r3
      have z6b := hide (show (Tryd.prog.info? 46).map (·.size) = some (vk .i64 ms).length from size6i (by rw [← HF.out]; exact HAll.out 6))
      clear hlt hi
      go_wp2_with (first
        | (with_reducible refine wl_load_row rfl 46 (.tmp 3) g3 46 (vk .i64 ms) _ rfl rfl r3 Tryd.underlying46 rfl z6b.out ?_))
      refine (hnam wr).mono ?_
      rintro en w6 ⟨rfl, b6⟩
      have r2a := r2.later b6
      have B6 := br.trans (b6.mono br.size)
      go_wp2_with (first
        | (with_reducible refine wl_store_row rfl 23 (.tmp 2) (.tmp 26) g2 23 _ (vk .i64 ms) rfl rfl rfl r2a zF.out l6b.out (vk_one' _ _) ?_; intro w7 r7 o7))
      refine bodyPost_ret (v := .agg (vk .i64 ms).toArray) ?_ rfl ⟨rfl, ?_⟩
      · exact results_cell_row Tryd.results22 _ _ g2 23 _ (0, 0) _ rfl r7 Tryd.underlying23 rfl zF.out
      · exact B6.trans (o7.below q2)
end Go.Proofs.YtllhboennfljlaaDoor

/-
  Keys: which names may be, and their bytes: contracts. Own work.
-/
namespace Go.Proofs.YtllhboennfljlaaDoor
open Go.RowKit
theorem run_eqlS {P : Program} {o : Oper} {a : Act} {w : World} {t u : Nat} {xs ys : Array Value} {r : Bool} (x y : Operand) (ho : o.op = .binOp .eql t x y u) (hE : ∀ w, (Op.equalIn 10000 t (.agg xs) (.agg ys)).run P w = .ok r w) (hx : a.eval x = .agg xs) (hy : a.eval y = .agg ys) (hm : P.eqGuardType P.depth t = false) :
    (execOp a.eval o).run P w = .ok (.value (.bool r)) w := by
  unfold execOp
  simp only [ho, hx, hy]
  go_simp
theorem run_index1 {P : Program} (w : World) (T elem len : Nat) (cs : List Value) (i : Nat) (v : Value) (hu : P.underlying T = some (.array len elem)) (ha : ∀ w, (isAgg elem).run P w = .ok false w) (hs : ∀ w, (sizeOf elem).run P w = .ok 1 w) (hi : i < len) (hv : cs[i]? = some v) :
    (Instr.index T (.agg cs.toArray) (.int .i64 i)).run P w = .ok v w := by
  have h2 : ((0 : Int) ≤ i ∧ (i : Int) < len) := by omega
  have h3 : ¬ len ≤ i := by omega
  simp [Instr.index, asIntOf, underlying, hu, part, ha, hs, h2, h3, hv]
def SVa (ns ms : List Int) (ok : Bool) (opn : Nat) (v : Value) : Prop :=
  match opn with
  | 0 | 1 => v = .agg (vk .i64 ns).toArray
  | 2 => v = .agg (vk .i64 ms).toArray
  | 3 | 4 => v = .bool ok
  | _ => True

set_option maxRecDepth 100000 in
set_option maxHeartbeats 1000000 in
theorem valid_any (a b c d e f : Int) (w : World) (hT : TabK w) : Calls Tryd.prog 9 #[.agg (vk .i64 [a, b, c, d, e, f]).toArray] w fun en w' => en = .returned (.bool (okB a b c d e f)) ∧ Below w.heap.size w w' := by
  have zId := hide (sizeId (xs := [a, b, c, d, e, f]) rfl)
  have hN := nearest_any a b c d e f
  have hok := nr_all a b c d e f
  obtain ⟨a', b', c', d', e', f', hfin⟩ : ∃ a' b' c' d' e' f', nrP [a, b, c, d, e, f] 6 = [a', b', c', d', e', f'] := ⟨_, _, _, _, _, _, rfl⟩
  have hE := eqId a b c d e f a' b' c' d' e' f'
  rw [hfin] at hN hok
  rw [hok] at hE
  clear hok hfin
  generalize okB a b c d e f = ok at *
  generalize [a, b, c, d, e, f] = ns at *
  generalize [a', b', c', d', e', f'] = ms at *
  go_enter Tryd.func9, Tryd.ntmps9
  go_wp2_with (first
    | (with_reducible refine wl_box rfl 23 (.tmp 0) _ (vk .i64 ns) rfl rfl rfl ?_; intro g1 w1 r1 p1 l1 b1))
  rename_i K1 hK1
  have hT1 := hT.later b1
  clear hT
  have hT := hT1
  clear hT1
  refine wp_region_vals [2] (SVa ns ms ok) (JR w1) (by kernel_rfl) (by kernel_rfl) (by kernel_rfl) (by kernel_rfl) (by kernel_rfl) (Below.refl _ _).drew ?obs ?he
  case obs =>
    refine ⟨?_, ?_, ?_, ?_, ?_, trivial⟩
    · exact .inl ⟨by kernel_rfl, fun L a1 w1 n' h => ⟨_, rfl, run_loadRow 23 (.tmp 1) g1 23 _ _ rfl (h.var n' 1 (by kernel_rfl)) (r1.later h.inv) Tryd.underlying23 rfl (zId.out)⟩⟩
    · exact .inl ⟨by kernel_rfl, fun L a1 w1 n' h => ⟨_, rfl, run_loadRow 23 (.tmp 1) g1 23 _ _ rfl (h.var n' 1 (by kernel_rfl)) (r1.later h.inv) Tryd.underlying23 rfl (zId.out)⟩⟩
    · refine .inr fun L a1 w1 n' h K hK => ?_
      have e0 : a1.eval (.tmp 4) = .agg (vk .i64 ns).toArray := h.dep n' 1 4 (by kernel_rfl) rfl
      refine st_call 22 _ _ #[.agg (vk .i64 ns).toArray] rfl Tryd.call22 ?_ (hN w1 (hT.later h.inv)) ?_
      · simp only [List.map_toArray, List.map_cons, List.map_nil, e0]
      · rintro e w3 ⟨rfl, b9⟩
        exact ⟨_, rfl, hK _ w3 rfl (JR.call h.inv b9)⟩
    · exact .inl ⟨by kernel_rfl, fun L a1 w1 n' h => ⟨_, rfl, run_eqlS (.tmp 3) (.tmp 5) rfl hE (h.dep n' 0 3 (by kernel_rfl) rfl) (h.dep n' 2 5 (by kernel_rfl) rfl) (by kernel_rfl)⟩⟩
    · exact .inl ⟨by kernel_rfl, fun L a1 w1 n' h => ⟨_, rfl, run_assign (.tmp 6) rfl (h.dep n' 3 6 (by kernel_rfl) rfl)⟩⟩
  case he =>
    intro V w5 hV hJ
    have h4 : V 4 = .bool ok := hV 4 2 rfl
    have hB : Below w1.heap.size w1 w5 := hJ
    clear hV hJ
    simp only [putOps, List.setIfInBounds_toArray, List.set_cons_succ, List.set_cons_zero]
    refine hK1 _ _ ?_
    go_wp2
    go_ret
    exact ⟨congrArg Ending.returned h4, b1.trans (hB.mono b1.size)⟩
/-- The bytes of the first numbers. -/
def idP (ns : List Int) : Nat → List Int
  | 0 => []
  | k + 1 => idP ns k ++ highB (max (ns.getD k 0) 0) 8
theorem idP_len (ns : List Int) (k : Nat) : (idP ns k).length = 8 * k := by
  induction k with
  | zero => rfl
  | succ k ih => unfold idP; rw [List.length_append, ih, highB_length]; omega
set_option maxRecDepth 100000 in
set_option maxHeartbeats 1000000 in
theorem bytes_no (a b c d e f : Int) (w : World) (hT : TabK w) (hok : okB a b c d e f = false) : Calls Tryd.prog 12 #[.agg (vk .i64 [a, b, c, d, e, f]).toArray] w fun en w' => en = .returned (.slice none 0 0) ∧ Below w.heap.size w w' := by
  have zId := hide (sizeId (xs := [a, b, c, d, e, f]) rfl)
  have hV := valid_any a b c d e f
  rw [hok] at hV
  clear hok
  generalize [a, b, c, d, e, f] = ns at *
  go_enter Tryd.func12, Tryd.ntmps12
  go_wp2_with (first
    | (with_reducible refine wl_box rfl 23 (.tmp 0) _ (vk .i64 ns) rfl rfl rfl ?_; intro g1 w1 r1 p1 l1 b1)
    | (with_reducible refine wl_load_row rfl 23 (.tmp 1) g1 23 (vk .i64 ns) _ rfl rfl r1 Tryd.underlying23 rfl zId.out ?_))
  refine (hV w1 (hT.later b1)).mono ?_
  rintro en w2 ⟨rfl, b2⟩
  go_wp2_with fail
  go_ret
  exact ⟨rfl, b1.trans (b2.mono b1.size)⟩
set_option maxRecDepth 100000 in
set_option maxHeartbeats 2000000 in
theorem bytes_yes (a b c d e f : Int) (w : World) (hT : TabK w) (hok : okB a b c d e f = true) : Calls Tryd.prog 12 #[.agg (vk .i64 [a, b, c, d, e, f]).toArray] w (RetBs (idP [a, b, c, d, e, f] 6) w) := by
  have zId := hide (sizeId (xs := [a, b, c, d, e, f]) rfl)
  have hV := valid_any a b c d e f
  have hnum := fun w => numbers_any a b c d e f w
  rw [hok] at hV
  have hin : ∀ i, i < 6 → isI ([a, b, c, d, e, f].getD i 0) := by
    unfold okB at hok
    simp only [decide_eq_true_eq] at hok
    intro i hi
    have : i = 0 ∨ i = 1 ∨ i = 2 ∨ i = 3 ∨ i = 4 ∨ i = 5 := by omega
    unfold isI
    rcases this with rfl | rfl | rfl | rfl | rfl | rfl <;> simp only [List.getD_cons_zero, List.getD_cons_succ] <;> omega
  have Hin := hide hin
  have Hl := hide (show [a, b, c, d, e, f].length = 6 from rfl)
  clear hok hin
  generalize [a, b, c, d, e, f] = ns at *
  go_enter Tryd.func12, Tryd.ntmps12
  go_wp2_with (first
    | (with_reducible refine wl_box rfl 23 (.tmp 0) _ (vk .i64 ns) rfl rfl rfl ?_; intro g1 w1 r1 p1 l1 b1)
    | (with_reducible refine wl_load_row (o := ⟨some 6, _, _, _, _, _⟩) rfl 23 (.tmp 1) g1 23 (vk .i64 ns) _ rfl rfl r1 Tryd.underlying23 rfl zId.out ?_))
  refine (hV w1 (hT.later b1)).mono ?_
  rintro en w2 ⟨rfl, b2⟩
  have B2 := b1.trans (b2.mono b1.size)
  have r1a := r1.later b2
  clear r1 hV
  go_wp2_with (first
    | (with_reducible refine wl_load_row rfl 23 (.tmp 1) g1 23 (vk .i64 ns) _ rfl rfl r1a Tryd.underlying23 rfl zId.out ?_))
  refine (hnum w2).mono ?_
  rintro en w3 ⟨rfl, b3⟩
  have B3 := B2.trans (b3.mono B2.size)
  clear r1a hnum
  go_wp2_with fail
  go_loopw [3, 11] (fun ov iv wr => ∃ (i : Nat) (A : Option Addr) (c : Nat), i ≤ 6 ∧ iv = .int .i64 i ∧ ov = .slice A (8 * i) c ∧ Bs wr wr.heap.size A (8 * i) (idP ns i) ∧ 8 * i ≤ c ∧ c ≤ maxLen ∧ Below w.heap.size w wr) (fun _ iv _ => 6 - (intOf iv).toNat)
  case atStart => exact ⟨0, none, 0, Nat.zero_le _, rfl, rfl, Bs.nil_, Nat.le_refl _, by simp [maxLen], B3⟩
  case round =>
    clear B3
    obtain ⟨i, A, c, hi, rfl, rfl, hbs, hc1, hc2, br⟩ := hrel
    by_cases hlt : i < 6
    · have hIx := fun w => run_index1 (P := Tryd.prog) w 46 3 6 (vk .i64 ns) i _ Tryd.underlying46 Tryd.isAgg3 Tryd.sizeOf3 hlt (vk_get (by rw [Hl.out]; exact hlt))
      have hxi := Hin.out i hlt
      have hnew : idP ns (i + 1) = idP ns i ++ highB (max (ns.getD i 0) 0) 8 := rfl
      have HN := hide hnew
      have hm : 8 * i ≤ 1000000 := by omega
      have H8 := hide (show 8 * (i + 1) = 8 * i + 8 by omega)
      obtain ⟨L, hL⟩ : ∃ L, L = 8 * i := ⟨_, rfl⟩
      rw [← hL] at hbs hm ⊢
      have HL := hide hL
      clear hnew hL hc1
      generalize ns.getD i 0 = x at *
      generalize idP ns i = X0 at *
      have hP := fun w hb => putNum_any A L c X0 x w hb hm hxi.1 hxi.2
      go_wp2_with (first | rw [hIx])
      refine (hP wr hbs).mono ?_
      rintro en w5 ⟨A5, n5, c5, rfl, h5, hn5, hc5, b5⟩
      have hn : n5 = L + 8 := by rw [← h5.1, List.length_append, hbs.1, highB_length]
      subst hn
      have B5 := br.trans (b5.mono br.size)
      have h5' : Bs w5 w5.heap.size A5 (8 * (i + 1)) (idP ns (i + 1)) := by rw [HN.out, H8.out, ← HL.out]; exact h5
      have hn5' : 8 * (i + 1) ≤ c5 := by have := HL.out; omega
      have hq : (Value.slice A5 (L + 8) c5) = .slice A5 (8 * (i + 1)) c5 := by rw [H8.out, ← HL.out]
      rw [hq]
      clear h5 hn5 hq hIx hbs hP b5
      go_wp2_with fail
      refine ⟨⟨i + 1, A5, c5, by omega, by go_num, rfl, h5', hn5', hc5, B5⟩, by simp [intOf]; omega⟩
    · have h6 : i = 6 := by omega
      subst h6
      have hfin : RetBs (idP ns 6) w (.returned (.slice A (8 * 6) c)) wr := ⟨A, 8 * 6, c, rfl, hbs, hc1, hc2, br⟩
      have HF := hide hfin
      clear hbs hc1 hfin hlt hi
      go_wp2_with fail
      go_ret
      exact HF.out
end Go.Proofs.YtllhboennfljlaaDoor

/-
  Keys, the document's answers: which names may be, and their bytes; the laws KeysIds and KeysNext: contracts. Own work.
-/
namespace Go.Proofs.YtllhboennfljlaaDoor
open Go.RowKit
theorem equal_same (A B : Option Addr) (n m c d : Nat) (xs : List Int) (w : World) (h1 : Bs w w.heap.size A n xs) (h2 : Bs w w.heap.size B m xs) :
    Calls Tryd.prog 11 #[.slice A n c, .slice B m d] w fun e w' => e = .returned (.bool true) ∧ Below w.heap.size w w' := by
  refine (equal_any A B n m c d xs xs w h1 h2).mono ?_
  rintro e w' ⟨rfl, rfl⟩
  exact ⟨by rw [equal_self], Below.refl _ _⟩
theorem in_t (x : Int) (w : World) (hx : isI x) (h : 0 ≤ x ∧ x ≤ 1099511627776) : Calls Tryd.prog 23 #[.int .i64 x] w fun e w' => e = .returned (.bool true) ∧ w = w' :=
  (in_any x w hx).mono fun e w' ⟨h1, h2⟩ => ⟨by rw [h1, decide_eq_true h.1, decide_eq_true h.2]; rfl, h2⟩
theorem in_f (x : Int) (w : World) (hx : isI x) (h : ¬ (0 ≤ x ∧ x ≤ 1099511627776)) : Calls Tryd.prog 23 #[.int .i64 x] w fun e w' => e = .returned (.bool false) ∧ w = w' :=
  (in_any x w hx).mono fun e w' ⟨h1, h2⟩ => ⟨by rw [h1, show (decide (0 ≤ x) && decide (x ≤ 1099511627776)) = false by rw [← Bool.decide_and]; exact decide_eq_false h], h2⟩
set_option maxRecDepth 100000 in
set_option maxHeartbeats 4000000 in
theorem refValid_any (a b c d e f : Int) (w : World) (ha : isI a) (hb : isI b) (hc : isI c) (hd : isI d) (he : isI e) (hf : isI f) : Calls Tryd.prog 10 #[.agg (vk .i64 [a, b, c, d, e, f]).toArray] w fun en w' => en = .returned (.bool (okB a b c d e f)) ∧ Below w.heap.size w w' := by
  by_cases g0 : 1 ≤ a
  · have hd0 : decide (1 ≤ a) = true := decide_eq_true g0
    by_cases g1 : a ≤ 6
    · have hd1 : decide (a ≤ 6) = true := decide_eq_true g1
      by_cases gb : 0 ≤ b ∧ b ≤ 1099511627776
      · by_cases gc : 0 ≤ c ∧ c ≤ 1099511627776
        · by_cases gd : 0 ≤ d ∧ d ≤ 1099511627776
          · by_cases gf : 0 ≤ f ∧ f ≤ 1099511627776
            · by_cases ge0 : e = 0
              · subst ge0
                have hok : okB a b c d 0 f = true := by unfold okB; exact decide_eq_true (by omega)
                have HOK := hide hok
                clear hok
                go_enter Tryd.func10, Tryd.ntmps10
                go_wp2_with (first
                  | (with_reducible refine wl_box rfl 23 (.tmp 0) _ (vk .i64 [a, b, c, d, 0, f]) rfl rfl rfl ?_; intro g1 w1 r1 p1 l1 b1; have c0 := r1.cell (j := 0) (v := .int .i64 a) rfl; have c1 := r1.cell (j := 1) (v := .int .i64 b) rfl; have c2 := r1.cell (j := 2) (v := .int .i64 c) rfl; have c3 := r1.cell (j := 3) (v := .int .i64 d) rfl; have c4 := r1.cell (j := 4) (v := .int .i64 0) rfl; have c5 := r1.cell (j := 5) (v := .int .i64 f) rfl; clear r1))
                refine (in_t b w1 hb gb).mono ?_
                rintro e1 w' ⟨rfl, rfl⟩
                go_wp2_with fail
                refine (in_t c w1 hc gc).mono ?_
                rintro e1 w' ⟨rfl, rfl⟩
                go_wp2_with fail
                refine (in_t d w1 hd gd).mono ?_
                rintro e1 w' ⟨rfl, rfl⟩
                go_wp2_with fail
                refine (in_t f w1 hf gf).mono ?_
                rintro e1 w' ⟨rfl, rfl⟩
                go_wp2_with fail
                go_ret
                exact ⟨by rw [HOK.out]; rfl, b1⟩
              · by_cases ge1 : e = 1
                · subst ge1
                  have hok : okB a b c d 1 f = true := by unfold okB; exact decide_eq_true (by omega)
                  have HOK := hide hok
                  clear hok
                  go_enter Tryd.func10, Tryd.ntmps10
                  go_wp2_with (first
                    | (with_reducible refine wl_box rfl 23 (.tmp 0) _ (vk .i64 [a, b, c, d, 1, f]) rfl rfl rfl ?_; intro g1 w1 r1 p1 l1 b1; have c0 := r1.cell (j := 0) (v := .int .i64 a) rfl; have c1 := r1.cell (j := 1) (v := .int .i64 b) rfl; have c2 := r1.cell (j := 2) (v := .int .i64 c) rfl; have c3 := r1.cell (j := 3) (v := .int .i64 d) rfl; have c4 := r1.cell (j := 4) (v := .int .i64 1) rfl; have c5 := r1.cell (j := 5) (v := .int .i64 f) rfl; clear r1))
                  refine (in_t b w1 hb gb).mono ?_
                  rintro e1 w' ⟨rfl, rfl⟩
                  go_wp2_with fail
                  refine (in_t c w1 hc gc).mono ?_
                  rintro e1 w' ⟨rfl, rfl⟩
                  go_wp2_with fail
                  refine (in_t d w1 hd gd).mono ?_
                  rintro e1 w' ⟨rfl, rfl⟩
                  go_wp2_with fail
                  refine (in_t f w1 hf gf).mono ?_
                  rintro e1 w' ⟨rfl, rfl⟩
                  go_wp2_with fail
                  go_ret
                  exact ⟨by rw [HOK.out]; rfl, b1⟩
                · have he0 : (e == 0) = false := by simp; omega
                  have he1 : (e == 1) = false := by simp; omega
                  have hok : okB a b c d e f = false := by unfold okB; exact decide_eq_false (by omega)
                  have HOK := hide hok
                  clear hok
                  go_enter Tryd.func10, Tryd.ntmps10
                  go_wp2_with (first
                    | (with_reducible refine wl_box rfl 23 (.tmp 0) _ (vk .i64 [a, b, c, d, e, f]) rfl rfl rfl ?_; intro g1 w1 r1 p1 l1 b1; have c0 := r1.cell (j := 0) (v := .int .i64 a) rfl; have c1 := r1.cell (j := 1) (v := .int .i64 b) rfl; have c2 := r1.cell (j := 2) (v := .int .i64 c) rfl; have c3 := r1.cell (j := 3) (v := .int .i64 d) rfl; have c4 := r1.cell (j := 4) (v := .int .i64 e) rfl; have c5 := r1.cell (j := 5) (v := .int .i64 f) rfl; clear r1))
                  refine (in_t b w1 hb gb).mono ?_
                  rintro e1 w' ⟨rfl, rfl⟩
                  go_wp2_with fail
                  refine (in_t c w1 hc gc).mono ?_
                  rintro e1 w' ⟨rfl, rfl⟩
                  go_wp2_with fail
                  refine (in_t d w1 hd gd).mono ?_
                  rintro e1 w' ⟨rfl, rfl⟩
                  go_wp2_with fail
                  refine (in_t f w1 hf gf).mono ?_
                  rintro e1 w' ⟨rfl, rfl⟩
                  go_wp2_with fail
                  go_ret
                  exact ⟨by rw [HOK.out]; rfl, b1⟩
            · have hok : okB a b c d e f = false := by unfold okB; exact decide_eq_false (by omega)
              have HOK := hide hok
              clear hok
              go_enter Tryd.func10, Tryd.ntmps10
              go_wp2_with (first
                | (with_reducible refine wl_box rfl 23 (.tmp 0) _ (vk .i64 [a, b, c, d, e, f]) rfl rfl rfl ?_; intro g1 w1 r1 p1 l1 b1; have c0 := r1.cell (j := 0) (v := .int .i64 a) rfl; have c1 := r1.cell (j := 1) (v := .int .i64 b) rfl; have c2 := r1.cell (j := 2) (v := .int .i64 c) rfl; have c3 := r1.cell (j := 3) (v := .int .i64 d) rfl; have c4 := r1.cell (j := 4) (v := .int .i64 e) rfl; have c5 := r1.cell (j := 5) (v := .int .i64 f) rfl; clear r1))
              refine (in_t b w1 hb gb).mono ?_
              rintro e1 w' ⟨rfl, rfl⟩
              go_wp2_with fail
              refine (in_t c w1 hc gc).mono ?_
              rintro e1 w' ⟨rfl, rfl⟩
              go_wp2_with fail
              refine (in_t d w1 hd gd).mono ?_
              rintro e1 w' ⟨rfl, rfl⟩
              go_wp2_with fail
              refine (in_f f w1 hf gf).mono ?_
              rintro e1 w' ⟨rfl, rfl⟩
              go_wp2_with fail
              go_ret
              exact ⟨by rw [HOK.out]; rfl, b1⟩
          · have hok : okB a b c d e f = false := by unfold okB; exact decide_eq_false (by omega)
            have HOK := hide hok
            clear hok
            go_enter Tryd.func10, Tryd.ntmps10
            go_wp2_with (first
              | (with_reducible refine wl_box rfl 23 (.tmp 0) _ (vk .i64 [a, b, c, d, e, f]) rfl rfl rfl ?_; intro g1 w1 r1 p1 l1 b1; have c0 := r1.cell (j := 0) (v := .int .i64 a) rfl; have c1 := r1.cell (j := 1) (v := .int .i64 b) rfl; have c2 := r1.cell (j := 2) (v := .int .i64 c) rfl; have c3 := r1.cell (j := 3) (v := .int .i64 d) rfl; have c4 := r1.cell (j := 4) (v := .int .i64 e) rfl; have c5 := r1.cell (j := 5) (v := .int .i64 f) rfl; clear r1))
            refine (in_t b w1 hb gb).mono ?_
            rintro e1 w' ⟨rfl, rfl⟩
            go_wp2_with fail
            refine (in_t c w1 hc gc).mono ?_
            rintro e1 w' ⟨rfl, rfl⟩
            go_wp2_with fail
            refine (in_f d w1 hd gd).mono ?_
            rintro e1 w' ⟨rfl, rfl⟩
            go_wp2_with fail
            go_ret
            exact ⟨by rw [HOK.out]; rfl, b1⟩
        · have hok : okB a b c d e f = false := by unfold okB; exact decide_eq_false (by omega)
          have HOK := hide hok
          clear hok
          go_enter Tryd.func10, Tryd.ntmps10
          go_wp2_with (first
            | (with_reducible refine wl_box rfl 23 (.tmp 0) _ (vk .i64 [a, b, c, d, e, f]) rfl rfl rfl ?_; intro g1 w1 r1 p1 l1 b1; have c0 := r1.cell (j := 0) (v := .int .i64 a) rfl; have c1 := r1.cell (j := 1) (v := .int .i64 b) rfl; have c2 := r1.cell (j := 2) (v := .int .i64 c) rfl; have c3 := r1.cell (j := 3) (v := .int .i64 d) rfl; have c4 := r1.cell (j := 4) (v := .int .i64 e) rfl; have c5 := r1.cell (j := 5) (v := .int .i64 f) rfl; clear r1))
          refine (in_t b w1 hb gb).mono ?_
          rintro e1 w' ⟨rfl, rfl⟩
          go_wp2_with fail
          refine (in_f c w1 hc gc).mono ?_
          rintro e1 w' ⟨rfl, rfl⟩
          go_wp2_with fail
          go_ret
          exact ⟨by rw [HOK.out]; rfl, b1⟩
      · have hok : okB a b c d e f = false := by unfold okB; exact decide_eq_false (by omega)
        have HOK := hide hok
        clear hok
        go_enter Tryd.func10, Tryd.ntmps10
        go_wp2_with (first
          | (with_reducible refine wl_box rfl 23 (.tmp 0) _ (vk .i64 [a, b, c, d, e, f]) rfl rfl rfl ?_; intro g1 w1 r1 p1 l1 b1; have c0 := r1.cell (j := 0) (v := .int .i64 a) rfl; have c1 := r1.cell (j := 1) (v := .int .i64 b) rfl; have c2 := r1.cell (j := 2) (v := .int .i64 c) rfl; have c3 := r1.cell (j := 3) (v := .int .i64 d) rfl; have c4 := r1.cell (j := 4) (v := .int .i64 e) rfl; have c5 := r1.cell (j := 5) (v := .int .i64 f) rfl; clear r1))
        refine (in_f b w1 hb gb).mono ?_
        rintro e1 w' ⟨rfl, rfl⟩
        go_wp2_with fail
        go_ret
        exact ⟨by rw [HOK.out]; rfl, b1⟩
    · have hd1 : decide (a ≤ 6) = false := decide_eq_false g1
      have hok : okB a b c d e f = false := by unfold okB; exact decide_eq_false (by omega)
      have HOK := hide hok
      clear hok
      go_enter Tryd.func10, Tryd.ntmps10
      go_wp2_with (first
        | (with_reducible refine wl_box rfl 23 (.tmp 0) _ (vk .i64 [a, b, c, d, e, f]) rfl rfl rfl ?_; intro g1 w1 r1 p1 l1 b1; have c0 := r1.cell (j := 0) (v := .int .i64 a) rfl; have c1 := r1.cell (j := 1) (v := .int .i64 b) rfl; have c2 := r1.cell (j := 2) (v := .int .i64 c) rfl; have c3 := r1.cell (j := 3) (v := .int .i64 d) rfl; have c4 := r1.cell (j := 4) (v := .int .i64 e) rfl; have c5 := r1.cell (j := 5) (v := .int .i64 f) rfl; clear r1))
      go_ret
      exact ⟨by rw [HOK.out]; rfl, b1⟩
  · have hd0 : decide (1 ≤ a) = false := decide_eq_false g0
    have hok : okB a b c d e f = false := by unfold okB; exact decide_eq_false (by omega)
    have HOK := hide hok
    clear hok
    go_enter Tryd.func10, Tryd.ntmps10
    go_wp2_with (first
      | (with_reducible refine wl_box rfl 23 (.tmp 0) _ (vk .i64 [a, b, c, d, e, f]) rfl rfl rfl ?_; intro g1 w1 r1 p1 l1 b1; have c0 := r1.cell (j := 0) (v := .int .i64 a) rfl; have c1 := r1.cell (j := 1) (v := .int .i64 b) rfl; have c2 := r1.cell (j := 2) (v := .int .i64 c) rfl; have c3 := r1.cell (j := 3) (v := .int .i64 d) rfl; have c4 := r1.cell (j := 4) (v := .int .i64 e) rfl; have c5 := r1.cell (j := 5) (v := .int .i64 f) rfl; clear r1))
    go_ret
    exact ⟨by rw [HOK.out]; rfl, b1⟩

end Go.Proofs.YtllhboennfljlaaDoor

/-
  Keys: the document's bytes; the laws' own 'awake'; the law KeysNext: contracts. Own work.
-/
namespace Go.Proofs.YtllhboennfljlaaDoor
open Go.RowKit
set_option maxRecDepth 100000 in
set_option maxHeartbeats 1000000 in
theorem refBytes_no (a b c d e f : Int) (w : World) (ha : isI a) (hb : isI b) (hc : isI c) (hd : isI d) (he : isI e) (hf : isI f) (hok : okB a b c d e f = false) : Calls Tryd.prog 13 #[.agg (vk .i64 [a, b, c, d, e, f]).toArray] w fun en w' => en = .returned (.slice none 0 0) ∧ Below w.heap.size w w' := by
  have zId := hide (sizeId (xs := [a, b, c, d, e, f]) rfl)
  have hV := fun w => refValid_any a b c d e f w ha hb hc hd he hf
  rw [hok] at hV
  have hG : (vk .i64 [a, b, c, d, e, f]) = (vk .i64 [a, b, c, d, e, f]) := rfl
  clear hok hG
  generalize [a, b, c, d, e, f] = ns at *
  go_enter Tryd.func13, Tryd.ntmps13
  go_wp2_with (first
    | (with_reducible refine wl_box rfl 23 (.tmp 0) _ (vk .i64 ns) rfl rfl rfl ?_; intro g1 w1 r1 p1 l1 b1)
    | (with_reducible refine wl_load_row rfl 23 (.tmp 1) g1 23 (vk .i64 ns) _ rfl rfl r1 Tryd.underlying23 rfl zId.out ?_))
  refine (hV w1).mono ?_
  rintro en w2 ⟨rfl, b2⟩
  have B2 := b1.trans (b2.mono b1.size)
  have r2 := r1.later b2
  go_wp2_with fail
  go_ret
  exact ⟨rfl, B2⟩
set_option maxRecDepth 100000 in
set_option maxHeartbeats 2000000 in
theorem refBytes_yes (a b c d e f : Int) (w : World) (ha : isI a) (hb : isI b) (hc : isI c) (hd : isI d) (he : isI e) (hf : isI f) (hok : okB a b c d e f = true) : Calls Tryd.prog 13 #[.agg (vk .i64 [a, b, c, d, e, f]).toArray] w (RetBs (idP [a, b, c, d, e, f] 6) w) := by
  have zId := hide (sizeId (xs := [a, b, c, d, e, f]) rfl)
  have hV := fun w => refValid_any a b c d e f w ha hb hc hd he hf
  rw [hok] at hV
  have hG : (vk .i64 [a, b, c, d, e, f]) = (vk .i64 [a, b, c, d, e, f]) := rfl
  clear hok hG

  have H0 := hide (show (vk .i64 [a, b, c, d, e, f])[0]? = some (.int .i64 a) from rfl)
  have hP0 := fun A cc w hbs => refPutNum_any A 0 cc (idP [a, b, c, d, e, f] 0) a w hbs (by decide) ha.1 ha.2
  rw [show idP [a, b, c, d, e, f] 0 ++ highB (max a 0) 8 = idP [a, b, c, d, e, f] 1 from rfl] at hP0
  have HL1 := hide (idP_len [a, b, c, d, e, f] 1)
  have H1 := hide (show (vk .i64 [a, b, c, d, e, f])[1]? = some (.int .i64 b) from rfl)
  have hP1 := fun A cc w hbs => refPutNum_any A 8 cc (idP [a, b, c, d, e, f] 1) b w hbs (by decide) hb.1 hb.2
  rw [show idP [a, b, c, d, e, f] 1 ++ highB (max b 0) 8 = idP [a, b, c, d, e, f] 2 from rfl] at hP1
  have HL2 := hide (idP_len [a, b, c, d, e, f] 2)
  have H2 := hide (show (vk .i64 [a, b, c, d, e, f])[2]? = some (.int .i64 c) from rfl)
  have hP2 := fun A cc w hbs => refPutNum_any A 16 cc (idP [a, b, c, d, e, f] 2) c w hbs (by decide) hc.1 hc.2
  rw [show idP [a, b, c, d, e, f] 2 ++ highB (max c 0) 8 = idP [a, b, c, d, e, f] 3 from rfl] at hP2
  have HL3 := hide (idP_len [a, b, c, d, e, f] 3)
  have H3 := hide (show (vk .i64 [a, b, c, d, e, f])[3]? = some (.int .i64 d) from rfl)
  have hP3 := fun A cc w hbs => refPutNum_any A 24 cc (idP [a, b, c, d, e, f] 3) d w hbs (by decide) hd.1 hd.2
  rw [show idP [a, b, c, d, e, f] 3 ++ highB (max d 0) 8 = idP [a, b, c, d, e, f] 4 from rfl] at hP3
  have HL4 := hide (idP_len [a, b, c, d, e, f] 4)
  have H4 := hide (show (vk .i64 [a, b, c, d, e, f])[4]? = some (.int .i64 e) from rfl)
  have hP4 := fun A cc w hbs => refPutNum_any A 32 cc (idP [a, b, c, d, e, f] 4) e w hbs (by decide) he.1 he.2
  rw [show idP [a, b, c, d, e, f] 4 ++ highB (max e 0) 8 = idP [a, b, c, d, e, f] 5 from rfl] at hP4
  have HL5 := hide (idP_len [a, b, c, d, e, f] 5)
  have H5 := hide (show (vk .i64 [a, b, c, d, e, f])[5]? = some (.int .i64 f) from rfl)
  have hP5 := fun A cc w hbs => refPutNum_any A 40 cc (idP [a, b, c, d, e, f] 5) f w hbs (by decide) hf.1 hf.2
  rw [show idP [a, b, c, d, e, f] 5 ++ highB (max f 0) 8 = idP [a, b, c, d, e, f] 6 from rfl] at hP5
  have HL6 := hide (idP_len [a, b, c, d, e, f] 6)
  have hz0 : idP [a, b, c, d, e, f] 0 = [] := rfl
  rw [hz0] at hP0
  clear hz0
  generalize idP [a, b, c, d, e, f] 1 = X1 at *
  generalize idP [a, b, c, d, e, f] 2 = X2 at *
  generalize idP [a, b, c, d, e, f] 3 = X3 at *
  generalize idP [a, b, c, d, e, f] 4 = X4 at *
  generalize idP [a, b, c, d, e, f] 5 = X5 at *
  generalize idP [a, b, c, d, e, f] 6 = X6 at *
  generalize [a, b, c, d, e, f] = ns at *
  go_enter Tryd.func13, Tryd.ntmps13
  go_wp2_with (first
    | (with_reducible refine wl_box rfl 23 (.tmp 0) _ (vk .i64 ns) rfl rfl rfl ?_; intro g1 w1 r1 p1 l1 b1)
    | (with_reducible refine wl_load_row rfl 23 (.tmp 1) g1 23 (vk .i64 ns) _ rfl rfl r1 Tryd.underlying23 rfl zId.out ?_))
  refine (hV w1).mono ?_
  rintro en w2 ⟨rfl, b2⟩
  have B2 := b1.trans (b2.mono b1.size)
  have r2 := r1.later b2
  clear r1 hV
  have c0 := r2.cell (H0.out)
  go_wp2_with fail
  refine (hP0 none 0 w2 (Bs.nil_)).mono ?_
  rintro en v1 ⟨A1, n1, k1, rfl, e1, hn1, hk1, b3⟩
  have hl1 : n1 = 8 := by rw [← e1.1]; exact HL1.out
  subst hl1
  have D1 := B2.trans (b3.mono B2.size)
  have q1 := r2.later b3
  have h1 := e1
  clear c0
  have c1 := q1.cell (H1.out)
  go_wp2_with fail
  refine (hP1 A1 k1 v1 (h1)).mono ?_
  rintro en v2 ⟨A2, n2, k2, rfl, e2, hn2, hk2, b4⟩
  have hl2 : n2 = 16 := by rw [← e2.1]; exact HL2.out
  subst hl2
  have D2 := D1.trans (b4.mono D1.size)
  have q2 := q1.later b4
  have h2 := e2
  clear c1
  have c2 := q2.cell (H2.out)
  go_wp2_with fail
  refine (hP2 A2 k2 v2 (h2)).mono ?_
  rintro en v3 ⟨A3, n3, k3, rfl, e3, hn3, hk3, b5⟩
  have hl3 : n3 = 24 := by rw [← e3.1]; exact HL3.out
  subst hl3
  have D3 := D2.trans (b5.mono D2.size)
  have q3 := q2.later b5
  have h3 := e3
  clear c2
  have c3 := q3.cell (H3.out)
  go_wp2_with fail
  refine (hP3 A3 k3 v3 (h3)).mono ?_
  rintro en v4 ⟨A4, n4, k4, rfl, e4, hn4, hk4, b6⟩
  have hl4 : n4 = 32 := by rw [← e4.1]; exact HL4.out
  subst hl4
  have D4 := D3.trans (b6.mono D3.size)
  have q4 := q3.later b6
  have h4 := e4
  clear c3
  have c4 := q4.cell (H4.out)
  go_wp2_with fail
  refine (hP4 A4 k4 v4 (h4)).mono ?_
  rintro en v5 ⟨A5, n5, k5, rfl, e5, hn5, hk5, b7⟩
  have hl5 : n5 = 40 := by rw [← e5.1]; exact HL5.out
  subst hl5
  have D5 := D4.trans (b7.mono D4.size)
  have q5 := q4.later b7
  have h5 := e5
  clear c4
  have c5 := q5.cell (H5.out)
  go_wp2_with fail
  refine (hP5 A5 k5 v5 (h5)).mono ?_
  rintro en v6 ⟨A6, n6, k6, rfl, e6, hn6, hk6, b8⟩
  have hl6 : n6 = 48 := by rw [← e6.1]; exact HL6.out
  subst hl6
  have D6 := D5.trans (b8.mono D5.size)
  have q6 := q5.later b8
  have h6 := e6
  clear c5
  go_wp2_with fail
  go_ret
  exact ⟨A6, _, k6, rfl, h6, hn6, hk6, D6⟩
theorem builtA : Tryd.prog.built 23 [(0, .int .i64 3), (2, .int .i64 2)] = some (vk .i64 [3, 0, 2, 0, 0, 0]).toArray := by kernel_rfl
set_option maxRecDepth 100000 in
set_option maxHeartbeats 1000000 in
theorem awake_any (w : World) (hT : TabK w) : Calls Tryd.prog 14 #[] w fun e w' => e = .returned (.bool true) ∧ Below w.heap.size w w' := by
  have hB := fun w hT => bytes_yes 3 0 2 0 0 0 w hT (by decide)
  have h7 := hide (show (idP [3, 0, 2, 0, 0, 0] 6).getD 7 0 = 3 by decide +kernel)
  have h23 := hide (show (idP [3, 0, 2, 0, 0, 0] 6).getD 23 0 = 2 by decide +kernel)
  have hl := hide (idP_len [3, 0, 2, 0, 0, 0] 6)
  have bA := builtA
  generalize idP [3, 0, 2, 0, 0, 0] 6 = X at *
  generalize [(3 : Int), 0, 2, 0, 0, 0] = ns at *
  go_enter Tryd.func14, Tryd.ntmps14
  go_wp2_with (first
    | ((with_reducible refine wl_build rfl 23 _ rfl _ ?hv _ bA ?hk); case hv => rfl))
  refine (hB w hT).mono ?_
  rintro en w2 ⟨A, n, c, rfl, h2, hn, hc, b2⟩
  have hn48 : n = 48 := by rw [← h2.1]; exact hl.out
  subst hn48
  obtain ⟨b, o, rfl, hlt, hcs⟩ := h2.2 (by decide)
  have c7 := hcs 7 (by decide)
  have c23 := hcs 23 (by decide)
  rw [h7.out] at c7
  rw [h23.out] at c23
  clear hcs h2
  go_wp2_with fail
  go_ret
  exact ⟨rfl, b2⟩
set_option maxRecDepth 100000 in
set_option maxHeartbeats 1000000 in
theorem keysNext_any (x y : Int) (w : World) (hT : TabK w) (hx : isI x) (hy : isI y) : Calls Tryd.prog 8 #[.int .i64 x, .int .i64 y] w fun e w' => e = .returned (.bool true) ∧ Below w.heap.size w w' := by
  have hN := next_any x y w hx hy
  obtain ⟨h0, h1⟩ := hx
  obtain ⟨k0, k1⟩ := hy
  unfold nextV at hN
  by_cases g1 : x < 0
  · rw [if_pos g1] at hN
    have hd : decide (x < 0) = true := by simp; omega
    go_enter Tryd.func8, Tryd.ntmps8
    go_wp2_with fail
    refine hN.mono ?_
    rintro e w' ⟨rfl, rfl⟩
    go_wp2_with fail
    refine (awake_any w hT).mono ?_
    rintro e w2 ⟨rfl, b2⟩
    go_wp2_with fail
    go_ret
    exact ⟨rfl, b2⟩
  · rw [if_neg g1] at hN
    have hd : decide (x < 0) = false := by simp; omega
    by_cases g2 : y ≤ x
    · rw [if_pos g2] at hN
      have hd2 : decide (y ≤ x) = true := by simp; omega
      go_enter Tryd.func8, Tryd.ntmps8
      go_wp2_with fail
      refine hN.mono ?_
      rintro e w' ⟨rfl, rfl⟩
      go_wp2_with fail
      refine (awake_any w hT).mono ?_
      rintro e w2 ⟨rfl, b2⟩
      go_wp2_with fail
      go_ret
      exact ⟨rfl, b2⟩
    · rw [if_neg g2] at hN
      have hd2 : decide (y ≤ x) = false := by simp; omega
      have hd3 : decide (x < x + 1) = true := by simp; omega
      have hd4 : decide (x + 1 ≤ y) = true := by simp; omega
      go_enter Tryd.func8, Tryd.ntmps8
      go_wp2_with fail
      refine hN.mono ?_
      rintro e w' ⟨rfl, rfl⟩
      go_wp2_with fail
      refine (awake_any w hT).mono ?_
      rintro e w2 ⟨rfl, b2⟩
      go_wp2_with fail
      go_ret
      exact ⟨rfl, b2⟩
end Go.Proofs.YtllhboennfljlaaDoor

/-
  From the cards' premise to the table of keys; from a reading of a name to its numbers. Own work.
-/
namespace Go.Proofs.YtllhboennfljlaaDoor
open Go.RowKit Go.ChangeShapes Go.WideShapes
theorem gBounds : Tryd.prog.globalNamed "intaglio/keys.bounds" = some 0 := by kernel_rfl
theorem tBounds : (Tryd.prog.globals[0]?).map (·.type) = some 62 := by kernel_rfl
def laidK : List (String × DataW Unit) := [("intaglio/keys.bounds", Rows.laid_intaglio_keys_bounds)]
theorem fieldsB : (Tryd.prog.fieldsOf 61)[0]?.map (fun f => (f.offset, f.type)) = some (0, 3) ∧ (Tryd.prog.fieldsOf 61)[1]?.map (fun f => (f.offset, f.type)) = some (1, 3) ∧ (Tryd.prog.fieldsOf 61).size = 2 := ⟨by kernel_rfl, by kernel_rfl, by kernel_rfl⟩
theorem two_cells {α : Type} {l : List α} {x y : α} (hl : l.length = 2) (h0 : l[0]? = some x) (h1 : l[1]? = some y) : l = [x, y] := by
  match l, hl with
  | [a, b], _ => simp at h0 h1; rw [h0, h1]
section
variable {H : Type} {enc : TypeId × Value → H} {w : World} {spare : Nat → Bool} {held : Bool} {base : Nat}
set_option maxRecDepth 100000 in
/-- A number among a struct's fields. -/
theorem field_int {t n fuel : Nat} {fs : Array Field} {cs : List Value} {xs : List (DataW H × List MemPlace)} (hlen : xs.length = fs.size)
    (hf : ∀ (i : Nat) (f : Field), fs[i]? = some f → DataW.trod enc Tryd.prog w base spare held n f.type ((cs.drop f.offset).take (Tryd.prog.cellsOf f.type)) = xs[i]?)
    (i : Nat) (hi : fs[i]?.map (fun f => (f.offset, f.type)) = some (i, 3)) : ∃ z : Int, cs[i]? = some (.int .i64 z) ∧ xs[i]? = some (.lit (.int .i64 z), []) ∧ isI z := by
  obtain ⟨f, hfi, hft⟩ := Option.map_eq_some_iff.1 hi
  injection hft with h1 h2
  have hlt : i < xs.length := by rw [hlen]; exact (Array.getElem?_eq_some_iff.1 hfi).1
  have h := hf i f hfi
  rw [h1, h2, show Tryd.prog.cellsOf 3 = 1 by kernel_rfl, List.getElem?_eq_getElem hlt] at h
  obtain ⟨z, hz, hx, hw⟩ := DataW.trod_int Tryd.underlying3 h
  refine ⟨z, ?_, by rw [List.getElem?_eq_getElem hlt, hx], wf_i64 hw⟩
  have := congrArg (·[0]?) hz
  simpa [List.getElem?_take, List.getElem?_drop] using this
theorem field_id0 : (Tryd.prog.fieldsOf 23)[0]?.map (fun f => (f.offset, f.type)) = some (0, 3) := by kernel_rfl
theorem field_id1 : (Tryd.prog.fieldsOf 23)[1]?.map (fun f => (f.offset, f.type)) = some (1, 3) := by kernel_rfl
theorem field_id2 : (Tryd.prog.fieldsOf 23)[2]?.map (fun f => (f.offset, f.type)) = some (2, 3) := by kernel_rfl
theorem field_id3 : (Tryd.prog.fieldsOf 23)[3]?.map (fun f => (f.offset, f.type)) = some (3, 3) := by kernel_rfl
theorem field_id4 : (Tryd.prog.fieldsOf 23)[4]?.map (fun f => (f.offset, f.type)) = some (4, 3) := by kernel_rfl
theorem field_id5 : (Tryd.prog.fieldsOf 23)[5]?.map (fun f => (f.offset, f.type)) = some (5, 3) := by kernel_rfl
set_option maxRecDepth 100000 in
theorem field_id (i : Nat) (hi : i < 6) : (Tryd.prog.fieldsOf 23)[i]?.map (fun f => (f.offset, f.type)) = some (i, 3) :=
  match i, hi with
  | 0, _ => field_id0
  | 1, _ => field_id1
  | 2, _ => field_id2
  | 3, _ => field_id3
  | 4, _ => field_id4
  | 5, _ => field_id5
theorem six_cells {l : List Value} (hl : l.length = 6) (key : ∀ i, i < 6 → ∃ z : Int, l[i]? = some (.int .i64 z) ∧ isI z) : ∃ a b c d e f : Int, l = vk .i64 [a, b, c, d, e, f] ∧ isI a ∧ isI b ∧ isI c ∧ isI d ∧ isI e ∧ isI f := by
  obtain ⟨a, ha, a'⟩ := key 0 (by decide)
  obtain ⟨b, hb, b'⟩ := key 1 (by decide)
  obtain ⟨c, hc, c'⟩ := key 2 (by decide)
  obtain ⟨d, hd, d'⟩ := key 3 (by decide)
  obtain ⟨e, he, e'⟩ := key 4 (by decide)
  obtain ⟨f, hf, f'⟩ := key 5 (by decide)
  refine ⟨a, b, c, d, e, f, ?_, a', b', c', d', e', f'⟩
  match l, hl with
  | [v0, v1, v2, v3, v4, v5], _ =>
    simp at ha hb hc hd he hf
    rw [ha, hb, hc, hd, he, hf]
    rfl
set_option maxRecDepth 100000 in
/-- A name, as it was read. -/
theorem open_id {fuel : Nat} {cs : List Value} {x : DataW H × List MemPlace} (h : DataW.trod enc Tryd.prog w base spare held fuel 23 cs = some x) :
    ∃ a b c d e f : Int, cs = vk .i64 [a, b, c, d, e, f] ∧ isI a ∧ isI b ∧ isI c ∧ isI d ∧ isI e ∧ isI f := by
  obtain ⟨xs, n, _, rfl, hl, hlen, hf⟩ := DataW.trod_struct (fs := Tryd.prog.fieldsOf 23) Tryd.underlying23 h
  rw [show Tryd.prog.cellsOf 23 = 6 by kernel_rfl] at hl
  exact six_cells hl fun i hi => by
    obtain ⟨z, h1, _, h2⟩ := field_int (t := 0) (fuel := 0) hlen hf i (field_id i hi)
    exact ⟨z, h1, h2⟩
end
theorem rows6 {α : Type} (cs : List α) (h : cs.length = 12) (r : Nat → List α) (hr : ∀ i, i < 6 → (cs.drop (i * 2)).take 2 = r i) : cs = r 0 ++ (r 1 ++ (r 2 ++ (r 3 ++ (r 4 ++ r 5)))) := by
  rw [← hr 0 (by omega), ← hr 1 (by omega), ← hr 2 (by omega), ← hr 3 (by omega), ← hr 4 (by omega), ← hr 5 (by omega)]
  have e5 : (cs.drop (5 * 2)).take 2 = cs.drop 10 := List.take_of_length_le (by simp; omega)
  have st : ∀ k, (cs.drop k).take 2 ++ cs.drop (k + 2) = cs.drop k := fun k => by rw [← List.drop_drop, List.take_append_drop]
  rw [e5]
  simp only [show 4 * 2 = 8 from rfl, show 3 * 2 = 6 from rfl, show 2 * 2 = 4 from rfl, show 1 * 2 = 2 from rfl, show 0 * 2 = 0 from rfl]
  rw [st 8, st 6, st 4, st 2, st 0, List.drop_zero]
set_option maxRecDepth 100000 in
theorem tabK_of {W : World} {g : Nat} {cs : Array Value} {fuel base : Nat} {spare : Nat → Bool} {held : Bool} {H : Type} {enc : TypeId × Value → H} {p : List MemPlace} (hg : g = 0)
    (hd : DataW.trod enc Tryd.prog W base spare held fuel 62 cs.toList = some (Rows.laid_intaglio_keys_bounds, p)) : cs.toList = vk .i64 boundsL := by
  have c2 : Tryd.prog.cellsOf 61 = 2 := by kernel_rfl
  have c12 : Tryd.prog.cellsOf 62 = 12 := by kernel_rfl
  obtain ⟨xs, m1, rfl, hx1, hlen, hn, hel⟩ := DataW.trod_array Tryd.underlying62 hd
  rw [c12] at hlen
  rw [c2] at hel
  have hxs : xs.map (·.1) = (List.range 6).map fun i => (DataW.agg [.lit (.int .i64 (boundsL.getD (2 * i) 0)), .lit (.int .i64 (boundsL.getD (2 * i + 1) 0))] : DataW H) := by
    have := congrArg Prod.fst hx1
    simp only [Rows.laid_intaglio_keys_bounds] at this
    injection this with this
    exact this.symm
  have hrow : ∀ i, i < 6 → (cs.toList.drop (i * 2)).take 2 = vk .i64 [boundsL.getD (2 * i) 0, boundsL.getD (2 * i + 1) 0] := by
    intro i hi
    have h1 := hel i hi
    rw [List.getElem?_eq_getElem (show i < xs.length by omega)] at h1
    have h2 : (xs[i]'(by omega)).1 = (DataW.agg [.lit (.int .i64 (boundsL.getD (2 * i) 0)), .lit (.int .i64 (boundsL.getD (2 * i + 1) 0))] : DataW H) := by
      have := congrArg (·[i]?) hxs
      simpa [hi, List.getElem?_eq_getElem (show i < xs.length by omega)] using this
    obtain ⟨ys, n, _, hy, hl, hyl, hf⟩ := DataW.trod_struct (fs := Tryd.prog.fieldsOf 61) Tryd.underlying61 h1
    obtain ⟨z0, q0, d0, _⟩ := field_int (t := 0) (fuel := 0) hyl hf 0 fieldsB.1
    obtain ⟨z1, q1, d1, _⟩ := field_int (t := 0) (fuel := 0) hyl hf 1 fieldsB.2.1
    rw [hy] at h2
    have hy2 := two_cells (by rw [hyl]; exact fieldsB.2.2) d0 d1
    rw [hy2] at h2
    simp only [List.map_cons, List.map_nil] at h2
    injection h2 with h2
    injection h2 with e0 h2
    injection h2 with e1 _
    injection e0 with e0
    injection e0 with _ e0
    injection e1 with e1
    injection e1 with _ e1
    rw [e0] at q0
    rw [e1] at q1
    exact two_cells (by rw [hl, c2]) q0 q1
  rw [rows6 cs.toList hlen _ hrow]
  rfl
set_option maxRecDepth 100000 in
theorem tabsK_of_laid {W : World} (h : laidMetH Tryd.prog laidK W) : TabK W := by
  rw [MakeChecks.laidMetH_plain _ _ _ (by kernel_rfl)] at h
  obtain ⟨ps, ⟨g0, t0, cs0, f0, p0, q0, hg0, ht0, hv0, hd0, _, _⟩, _, _⟩ := h
  obtain rfl := Option.some.inj (gBounds.symm.trans hg0)
  obtain rfl := Option.some.inj (tBounds.symm.trans ht0)
  have e0 := tabK_of rfl hd0
  have b0 : 0 < W.heap.size := block_lt_of_cell (v := .int .i64 (boundsL.getD 0 0)) (by rw [World.var?_cell hg0 hv0 0, ← Array.getElem?_toList, e0]; rfl)
  refine ⟨b0, fun j hj => ?_⟩
  rw [World.var?_cell hg0 hv0 j, ← Array.getElem?_toList, e0]
  exact vk_get (by exact hj)
end Go.Proofs.YtllhboennfljlaaDoor

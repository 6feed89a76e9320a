/-
  Pack: eight bytes behind others, and what is joined: a contract each. Own work.
-/
import Derived.Test.YtcinhofapkddpaaPolyA
namespace Go.Proofs.Ytcinhofapkddpaa
set_option linter.unusedVariables false
set_option linter.unusedSimpArgs false
open Go.RowKit
set_option maxRecDepth 100000 in
set_option maxHeartbeats 400000 in
theorem lay64_low (A : Option Addr) (m c : Nat) (xs : List Int) (x : Int) (w : World) (h : Bs w w.heap.size A m xs) (hm : m ≤ 1000000) (h0 : 0 ≤ x) (h1 : x < 2 ^ 64) :
    Calls Try.prog 41 #[.slice A m c, .int .u64 x, .bool true] w (RetBs (xs ++ lowB x 8) w) := by
  obtain ⟨i0, hi, hz, hsz, hby⟩ := u8_info
  go_enter Try.func41, Try.ntmps41
  go_wp2_with (first
    | (go_at_call 44; refine (width64_any _).mono ?_; rintro e w' ⟨rfl, rfl⟩)
    | (refine wpList_make_bs rfl _ _ _ rfl 5 i0 Try.underlying23 hi hz hsz hby (m + 8) rfl rfl (by omega) ?_; intro w1 hown hs1 hb1)
    | (refine wpList_copy_bs rfl (.tmp 17) (.tmp 18) _ _ rfl 5 Try.underlying23 u8_size w.heap.size 0 _ _ m c A rfl rfl _ xs 5 w.heap.size hown (h.below hb1) (by omega) (by rw [List.length_replicate]; omega) w.heap.size w hb1 (Nat.le_refl _) ?_; intro w2 hown2 hb2))
  go_loopw [21] (fun i wr => ∃ k : Nat, k ≤ 8 ∧ i = .int .i64 k ∧ Own wr 5 w.heap.size (xs ++ (lowB x k ++ List.replicate (8 - k) 0)) ∧ Below w.heap.size w wr) (fun i _ => 8 - (intOf i).toNat)
  case atStart => exact ⟨0, Nat.zero_le _, rfl, by simpa [lowB, h.1] using hown2, hb2⟩
  case round =>
    obtain ⟨k, hk, rfl, hown, hb⟩ := hrel
    by_cases hlt : k < 8
    · have hc := hown.cell (j := m + k) (by simp [lowB_length, h.1]; omega)
      have hf := hown.frozen (m + k)
      have hs := hown.set (m + k) (x / 2 ^ (8 * k) % 256)
      have he := set_low hlt (lowB x k) (lowB_length x k) (x / 2 ^ (8 * k) % 256) xs
      rw [h.1] at he
      rw [he, ← pow256_two, ← lowB_snoc, pow256_two] at hs
      have HS := hide hs
      clear hs he
      go_wp2
      go_roundw
      case rel => exact ⟨k + 1, by omega, by go_num, HS.out, hb.setCell (Nat.le_refl _) _⟩
      case measure => simp [intOf]; omega
    · go_wp2
      go_ret
      obtain rfl : k = 8 := by omega
      exact ret_own hown hb (by simp) (by simp [lowB_length, h.1]) (Nat.le_refl _) (by simp only [maxLen]; omega)
set_option maxRecDepth 100000 in
theorem putLe64_any (A : Option Addr) (m c : Nat) (xs : List Int) (x : Int) (w : World) (h : Bs w w.heap.size A m xs) (hm : m ≤ 1000000) (h0 : 0 ≤ x) (h1 : x < 2 ^ 64) :
    Calls Try.prog 32 #[.slice A m c, .int .u64 x] w (RetBs (xs ++ lowB x 8) w) := by
  go_enter Try.func32, Try.ntmps32
  go_wp2_with (go_at_call 41; refine (lay64_low A m c xs x _ h hm h0 h1).mono ?_; rintro e w1 ⟨A1, n1, c1, rfl, hb, hn, hc, hl⟩)
  go_ret
  exact ⟨A1, n1, c1, rfl, hb, hn, hc, hl⟩
set_option maxRecDepth 100000 in
set_option maxHeartbeats 800000 in
theorem join_any (A : Option Addr) (m c : Nat) (xss : List (List Int)) (w : World) (h : Bss w w.heap.size A m xss) (hm : m ≤ 1000000) (hs : sumLen xss m ≤ 140737488355328) :
    Calls Try.prog 31 #[.slice A m c] w (RetBs xss.flatten w) := by
  obtain ⟨i0, hi, hz, hsz, hby⟩ := u8_info
  have hlen := h.1
  have HL := hide hlen
  clear hlen
  go_enter Try.func31, Try.ntmps31
  go_wp2
  go_loop [3, 11] (fun s i => ∃ k : Nat, k ≤ m ∧ i = .int .i64 k ∧ s = .int .i64 (sumLen xss k)) (fun _ i => m - (intOf i).toNat)
  case atStart => exact ⟨0, Nat.zero_le _, rfl, rfl⟩
  case round =>
    obtain ⟨k, hk, rfl, rfl⟩ := hrel
    have hle := sumLen_le xss k
    rw [HL.out] at hle
    by_cases hlt : k < m
    · obtain ⟨b, o, rfl, hb, hc⟩ := h.2 (by omega)
      obtain ⟨A', n', c', hcell, hbs⟩ := hc k hlt
      have hsu := sumLen_succ xss k (by rw [HL.out]; exact hlt)
      rw [hbs.1] at hsu
      have hle2 := sumLen_le xss (k + 1)
      rw [HL.out] at hle2
      have hb2 : sumLen xss k + n' ≤ 140737488355328 := by omega
      have HS := hide hsu
      clear hsu hle2 hc
      go_wp2
      go_round
      case rel => exact ⟨k + 1, by omega, by go_num, by rw [HS.out]; go_num⟩
      case measure => simp [intOf]; omega
    · obtain rfl : k = m := by omega
      go_wp2_with (refine wpList_make0_bs rfl _ _ _ rfl 5 i0 Try.underlying23 hi hz hsz hby (sumLen xss k) rfl rfl hs ?_; intro w1 hown1 hb1)
      go_loopw [6, 24] (fun v i wr => ∃ j : Nat, j ≤ k ∧ i = .int .i64 j ∧ wr.ownsRow w.heap.size 5 1 v (sumLen xss j) (bv (xss.take j).flatten) ∧ Below w.heap.size w wr) (fun _ i _ => k - (intOf i).toNat)
      case atStart => exact ⟨0, Nat.zero_le _, rfl, by simpa [sumLen] using hown1, hb1⟩
      case round =>
        obtain ⟨j, hj, rfl, hown, hbr⟩ := hrel
        by_cases hjl : j < k
        · obtain ⟨b, o, rfl, hb, hc⟩ := h.2 (by omega)
          obtain ⟨A', n', c', hcell, hbs⟩ := hc j hjl
          have hcell' := (hbr.cell (p := ⟨b, o + j, none⟩) hb).trans hcell
          have hsu := sumLen_succ xss j (by rw [HL.out]; exact hjl)
          have htf := take_flat xss j (by rw [HL.out]; exact hjl)
          rw [hbs.1] at hsu
          have hle2 := sumLen_le xss (j + 1)
          rw [HL.out] at hle2
          have hb2 : sumLen xss j + n' ≤ 140737488355328 := by omega
          have HS := hide hsu
          have HT := hide htf
          clear hsu htf hle2 hc hcell
          go_wp2_with (at_builtin; refine wpList_append_bs rfl (.tmp 28) (.tmp 29) _ rfl w.heap.size 5 i0 Try.underlying23 hi hz hsz hby _ (sumLen xss j) (xss.take j).flatten rfl hown w.heap.size A' n' c' (xss.getD j []) rfl (hbs.below hbr) hb2 hbr.size ?_; intro v1 w2 hown1 hg1)
          have hb3 := grown_below hbr hown (Nat.le_refl _) hg1
          go_roundw
          case rel => exact ⟨j + 1, by omega, by go_num, by rw [HS.out, HT.out]; exact hown1, hb3⟩
          case measure => simp [intOf]; omega
        · obtain rfl : j = k := by omega
          go_wp2
          go_ret
          exact ret_owns hown hbr (by rw [List.take_of_length_le (by rw [HL.out]; exact Nat.le_refl _)])
end Go.Proofs.Ytcinhofapkddpaa

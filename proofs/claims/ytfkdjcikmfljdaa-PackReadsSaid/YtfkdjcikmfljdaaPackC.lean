/-
  Joining, reading numbers with the lowest byte first, comparing: a contract each; the law's own 'awake'. Own work.
-/
import Derived.Test.YtfkdjcikmfljdaaPackB
namespace Go.Proofs.Ytfkdjcikmfljdaa
set_option linter.unusedVariables false
set_option linter.unusedSimpArgs false
open Go.RowKit
set_option maxHeartbeats 800000 in
theorem join_any (A : Option Addr) (m c : Nat) (xss : List (List Int)) (w : World) (h : Bss w w.heap.size A m xss) (hm : m ≤ 1000000) (hs : sumLen xss m ≤ 140737488355328) :
    Calls Try.prog 24 #[.slice A m c] w (RetBs xss.flatten w) := by
  obtain ⟨i0, hi, hz, hsz, hby⟩ := u8_info
  have hlen := h.1
  have HL := hide hlen
  clear hlen
  go_enter Try.func24, Try.ntmps24
  go_wp2
  go_loop [3, 11] (fun s i => ∃ k : Nat, k ≤ m ∧ i = .int .i64 k ∧ s = .int .i64 (sumLen xss k)) (fun _ i => m - (intOf i).toNat)
  case atStart => exact ⟨0, Nat.zero_le _, rfl, rfl⟩
  case round =>
    obtain ⟨k, hk, rfl, rfl⟩ := hrel
    have hle := sumLen_le xss k
    rw [HL.out] at hle
    by_cases hlt : k < m
    · obtain ⟨b, o, rfl, hb, hc⟩ := h.2 (by omega)
      obtain ⟨A', n', c', hcell, hbs⟩ := hc k hlt
      have hsu := sumLen_succ xss k (by rw [HL.out]; exact hlt)
      rw [hbs.1] at hsu
      have hle2 := sumLen_le xss (k + 1)
      rw [HL.out] at hle2
      have hb2 : sumLen xss k + n' ≤ 140737488355328 := by omega
      have HS := hide hsu
      clear hsu hle2 hc
      go_wp2
      go_round
      case rel => exact ⟨k + 1, by omega, by go_num, by rw [HS.out]; go_num⟩
      case measure => simp [intOf]; omega
    · obtain rfl : k = m := by omega
      go_wp2_with (refine wpList_make0_bs rfl _ _ _ rfl 5 i0 Try.underlying22 hi hz hsz hby (sumLen xss k) rfl rfl hs ?_; intro w1 hown1 hb1)
      go_loopw [6, 24] (fun v i wr => ∃ j : Nat, j ≤ k ∧ i = .int .i64 j ∧ wr.ownsRow w.heap.size 5 1 v (sumLen xss j) (bv (xss.take j).flatten) ∧ Below w.heap.size w wr) (fun _ i _ => k - (intOf i).toNat)
      case atStart => exact ⟨0, Nat.zero_le _, rfl, by simpa [sumLen] using hown1, hb1⟩
      case round =>
        obtain ⟨j, hj, rfl, hown, hbr⟩ := hrel
        by_cases hjl : j < k
        · obtain ⟨b, o, rfl, hb, hc⟩ := h.2 (by omega)
          obtain ⟨A', n', c', hcell, hbs⟩ := hc j hjl
          have hcell' := (hbr.cell (p := ⟨b, o + j, none⟩) hb).trans hcell
          have hsu := sumLen_succ xss j (by rw [HL.out]; exact hjl)
          have htf := take_flat xss j (by rw [HL.out]; exact hjl)
          rw [hbs.1] at hsu
          have hle2 := sumLen_le xss (j + 1)
          rw [HL.out] at hle2
          have hb2 : sumLen xss j + n' ≤ 140737488355328 := by omega
          have HS := hide hsu
          have HT := hide htf
          clear hsu htf hle2 hc hcell
          go_wp2_with (at_builtin; refine wpList_append_bs rfl (.tmp 28) (.tmp 29) _ rfl w.heap.size 5 i0 Try.underlying22 hi hz hsz hby _ (sumLen xss j) (xss.take j).flatten rfl hown w.heap.size A' n' c' (xss.getD j []) rfl (hbs.below hbr) hb2 hbr.size ?_; intro v1 w2 hown1 hg1)
          have hb3 := grown_below hbr hown (Nat.le_refl _) hg1
          go_roundw
          case rel => exact ⟨j + 1, by omega, by go_num, by rw [HS.out, HT.out]; exact hown1, hb3⟩
          case measure => simp [intOf]; omega
        · obtain rfl : j = k := by omega
          go_wp2
          go_ret
          exact ret_owns hown hbr (by rw [List.take_of_length_le (by rw [HL.out]; exact Nat.le_refl _)])
set_option maxHeartbeats 400000 in
theorem fromLow32_any (A : Option Addr) (m c p : Nat) (xs : List Int) (w : World) (h : Bs w w.heap.size A m xs) (hx : IsBy xs) (hm : m ≤ 1000000) (hp : p ≤ 1000000) :
    Calls Try.prog 58 #[.slice A m c, .int .i64 (p : Int)] w fun e w' => e = .returned (.int .u32 (leV xs p 4)) ∧ w = w' := by
  go_enter Try.func58, Try.ntmps58
  go_wp2_with (go_at_call 59; refine (width32_any _).mono ?_; rintro e w' ⟨rfl, rfl⟩)
  go_loop [5, 9] (fun v i => ∃ k : Nat, k ≤ 4 ∧ i = .int .i64 k ∧ v = .int .u32 (leV xs p k)) (fun _ i => 4 - (intOf i).toNat)
  case atStart => exact ⟨0, Nat.zero_le _, rfl, rfl⟩
  case round =>
    obtain ⟨k, hk, rfl, rfl⟩ := hrel
    obtain ⟨q0, q1⟩ := leV_bound hx p k
    by_cases hlt : k < 4
    · by_cases hin : p + k < m
      · obtain ⟨b, o, rfl, hb, hc⟩ := h.at_ hin
        obtain ⟨b0, b1⟩ := getD_byte hx (p + k)
        have HO := hide (or_next32 k hlt q0 q1 b0 b1)
        go_wp2
        go_round
        case rel => exact ⟨k + 1, by omega, by go_num, congrArg (Value.int .u32) (by have := HO.out; simpa [leV, List.getD] using this)⟩
        case measure => simp [intOf]; omega
      · have hz : xs.getD (p + k) 0 = 0 := by
          have := h.1
          simp [List.getD, List.getElem?_eq_none (show xs.length ≤ p + k by omega)]
        have HZ := hide hz
        clear hz
        go_wp2
        go_round
        case rel => exact ⟨k + 1, by omega, by go_num, congrArg (Value.int .u32) (by rw [leV, HZ.out]; omega)⟩
        case measure => simp [intOf]; omega
    · go_wp2
      go_ret
      obtain rfl : k = 4 := by omega
      exact ⟨rfl, rfl⟩
set_option maxHeartbeats 400000 in
theorem fromLow64_any (A : Option Addr) (m c p : Nat) (xs : List Int) (w : World) (h : Bs w w.heap.size A m xs) (hx : IsBy xs) (hm : m ≤ 1000000) (hp : p ≤ 1000000) :
    Calls Try.prog 57 #[.slice A m c, .int .i64 (p : Int)] w fun e w' => e = .returned (.int .u64 (leV xs p 8)) ∧ w = w' := by
  go_enter Try.func57, Try.ntmps57
  go_wp2_with (go_at_call 60; refine (width64_any _).mono ?_; rintro e w' ⟨rfl, rfl⟩)
  go_loop [5, 9] (fun v i => ∃ k : Nat, k ≤ 8 ∧ i = .int .i64 k ∧ v = .int .u64 (leV xs p k)) (fun _ i => 8 - (intOf i).toNat)
  case atStart => exact ⟨0, Nat.zero_le _, rfl, rfl⟩
  case round =>
    obtain ⟨k, hk, rfl, rfl⟩ := hrel
    obtain ⟨q0, q1⟩ := leV_bound hx p k
    by_cases hlt : k < 8
    · by_cases hin : p + k < m
      · obtain ⟨b, o, rfl, hb, hc⟩ := h.at_ hin
        obtain ⟨b0, b1⟩ := getD_byte hx (p + k)
        have HO := hide (or_next64 k hlt q0 q1 b0 b1)
        go_wp2
        go_round
        case rel => exact ⟨k + 1, by omega, by go_num, congrArg (Value.int .u64) (by have := HO.out; simpa [leV, List.getD] using this)⟩
        case measure => simp [intOf]; omega
      · have hz : xs.getD (p + k) 0 = 0 := by
          have := h.1
          simp [List.getD, List.getElem?_eq_none (show xs.length ≤ p + k by omega)]
        have HZ := hide hz
        clear hz
        go_wp2
        go_round
        case rel => exact ⟨k + 1, by omega, by go_num, congrArg (Value.int .u64) (by rw [leV, HZ.out]; omega)⟩
        case measure => simp [intOf]; omega
    · go_wp2
      go_ret
      obtain rfl : k = 8 := by omega
      exact ⟨rfl, rfl⟩
theorem le32_any (A : Option Addr) (m c p : Nat) (xs : List Int) (w : World) (h : Bs w w.heap.size A m xs) (hx : IsBy xs) (hm : m ≤ 1000000) (hp : p ≤ 1000000) :
    Calls Try.prog 44 #[.slice A m c, .int .i64 (p : Int)] w fun e w' => e = .returned (.int .u32 (leV xs p 4)) ∧ w = w' := by
  go_enter Try.func44, Try.ntmps44
  go_wp2_with (go_at_call 58; refine (fromLow32_any A m c p xs _ h hx hm hp).mono ?_; rintro e w' ⟨rfl, rfl⟩)
  go_ret
  exact ⟨rfl, rfl⟩
theorem le64_any (A : Option Addr) (m c p : Nat) (xs : List Int) (w : World) (h : Bs w w.heap.size A m xs) (hx : IsBy xs) (hm : m ≤ 1000000) (hp : p ≤ 1000000) :
    Calls Try.prog 43 #[.slice A m c, .int .i64 (p : Int)] w fun e w' => e = .returned (.int .u64 (leV xs p 8)) ∧ w = w' := by
  go_enter Try.func43, Try.ntmps43
  go_wp2_with (go_at_call 57; refine (fromLow64_any A m c p xs _ h hx hm hp).mono ?_; rintro e w' ⟨rfl, rfl⟩)
  go_ret
  exact ⟨rfl, rfl⟩
set_option maxHeartbeats 400000 in
theorem put_any (A B : Option Addr) (m c n d : Nat) (xs ys : List Int) (w : World) (h : Bs w w.heap.size A m xs) (hy : Bs w w.heap.size B n ys) (hm : m ≤ 100000) (hn : n ≤ 100000) :
    Calls Try.prog 22 #[.slice A m c, .slice B n d] w (RetBs (xs ++ highB n 4 ++ ys) w) := by
  go_enter Try.func22, Try.ntmps22
  go_wp2_with (first
    | (go_at_call 12
       refine (put32_any none 0 0 [] n _ Bs.nil_ (by omega) (by omega) (by omega)).mono ?_
       rintro e w1 ⟨A1, n1, c1, rfl, hb1, hn1, hc1, hl1⟩
       rw [List.nil_append] at hb1
       have hl : n1 ≤ 4 := by have := hb1.1; rw [highB_length] at this; omega
       have hss := Bss.lit w1 22 [(A, m, c, xs), (A1, n1, c1, highB n 4), (B, n, d, ys)] (by
         intro x hx
         simp only [List.mem_cons, List.not_mem_nil, or_false] at hx
         rcases hx with rfl | rfl | rfl
         · exact h.later hl1
         · exact hb1
         · exact hy.later hl1)
       have HS := hide hss
       clear hss)
    | (go_at_call 24
       refine (join_any _ 3 3 [xs, highB n 4, ys] _ (HS.out.up (by simp)) (by omega) (by simp [sumLen, highB_length, h.1, hy.1]; omega)).mono ?_
       intro e w2 hr
       obtain ⟨A2, n2, c2, rfl, hb2, hn2, hc2, hl2⟩ := hr.trans (hl1.alloc hl1.size _)))
  go_ret
  exact ⟨A2, n2, c2, rfl, by simpa using hb2, hn2, hc2, hl2⟩
set_option maxHeartbeats 400000 in
theorem awake_any (w : World) : Calls Try.prog 9 #[] w fun e w' => e = .returned (.bool true) ∧ Below w.heap.size w w' := by
  have kc := fun (w : World) (C : Array Value) (n c : Nat) => Lib.run_convert_bytes_const (P := Try.prog) w 22 5 C n c Try.underlying22 Try.underlying5
  have q := equal_self [0, 0, 0, 2, 97, 98]
  have q2 : (leV [1, 2] 0 4 == 513) = true := by decide
  go_enter Try.func9, Try.ntmps9
  go_wp2_with (first
    | (go_at_call 22
       refine (put_any none _ 0 0 2 2 [] [97, 98] _ Bs.nil_ (Bs.lit' w 5 (2, 3) [97, 98] #[.int .u8 97, .int .u8 98] 2 _ rfl rfl rfl) (by omega) (by omega)).mono ?_
       rintro e w1 ⟨A1, n1, c1, rfl, hb1, hn1, hc1, hl1⟩
       have hl1' := hl1.mono (B' := w.heap.size) (by simp)
       have hb1' : Bs w1 w1.heap.size A1 n1 [0, 0, 0, 2, 97, 98] := by rw [show ([0, 0, 0, 2, 97, 98] : List Int) = [] ++ highB ((2 : Nat) : Int) 4 ++ [97, 98] from by decide]; exact hb1
       clear hb1 hl1)
    | (go_at_call 11
       refine (equal_any _ _ n1 6 c1 6 [0, 0, 0, 2, 97, 98] [0, 0, 0, 2, 97, 98] _ (hb1'.new _) (Bs.lit' w1 5 (0, 0) [0, 0, 0, 2, 97, 98] #[.int .u8 0, .int .u8 0, .int .u8 0, .int .u8 2, .int .u8 97, .int .u8 98] 6 _ rfl rfl rfl)).mono ?_
       rintro e w2 ⟨rfl, rfl⟩)
    | (go_at_call 44
       refine (le32_any _ 2 2 0 [1, 2] _ (Bs.lit' (w1.alloc (.cells #[.int .u8 0, .int .u8 0, .int .u8 0, .int .u8 2, .int .u8 97, .int .u8 98] 5)) 5 (0, 0) [1, 2] #[.int .u8 1, .int .u8 2] 2 (w1.heap.size + 1) (by simp) rfl rfl) (by intro x hx; simp at hx; omega) (by omega) (by omega)).mono ?_
       rintro e w3 ⟨rfl, rfl⟩))
  go_ret
  have hb := ((Below.refl w.heap.size w).alloc (Nat.le_refl _) (.cells #[.int .u8 97, .int .u8 98] 5 (2, 3))).trans hl1'
  exact ⟨rfl, (hb.alloc hb.size _).alloc (by have := hb.size; simp; omega) _⟩
end Go.Proofs.Ytfkdjcikmfljdaa

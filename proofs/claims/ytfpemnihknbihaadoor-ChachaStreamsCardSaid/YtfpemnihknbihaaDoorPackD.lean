/-
  Of pack and of its document's answers, what the cipher calls: a contract each. Own work.
-/
import Derived.Test.YtfpemnihknbihaaDoorRows
import Derived.Test.YtfpemnihknbihaaDoorBytes
namespace Go.Proofs.YtfpemnihknbihaaDoor
set_option linter.unusedVariables false
set_option linter.unusedSimpArgs false
open Go.RowKit
theorem u8_info_ : (Tryd.prog.info? 5).map (fun i => (i.zero, i.size, i.bytes)) = some (some (.int .u8 0), 1, 1) := by kernel_rfl
theorem u8_info : ∃ i, Tryd.prog.info? 5 = some i ∧ i.zero = some (.int .u8 0) ∧ i.size = 1 ∧ i.bytes = 1 := by
  obtain ⟨i, h0, h1, h2, h3⟩ := info_parts u8_info_
  exact ⟨i, h0, h1, h2, h3⟩
theorem u8_size : (Tryd.prog.info? 5).map (·.size) = some 1 := by kernel_rfl
theorem equal_any (A B : Option Addr) (n m c d : Nat) (xs ys : List Int) (w : World) (h1 : Bs w w.heap.size A n xs) (h2 : Bs w w.heap.size B m ys) :
    Calls Tryd.prog 16 #[.slice A n c, .slice B m d] w fun e w' => e = .returned (.bool (Lib.bytesOf xs == Lib.bytesOf ys)) ∧ w = w' := by
  have e1 := h1.convert c 30 5 9 Tryd.underlying30 Tryd.underlying5 Tryd.underlying9
  have e2 := h2.convert d 30 5 9 Tryd.underlying30 Tryd.underlying5 Tryd.underlying9
  go_enter Tryd.func16, Tryd.ntmps16
  go_wp2
  go_ret
  refine ⟨?_, rfl⟩
  rw [← Lib.strOfNums_toList, ← Lib.strOfNums_toList]
  rfl
theorem clone_any (A : Option Addr) (n c : Nat) (xs : List Int) (w : World) (h : Bs w w.heap.size A n xs) (hn : n ≤ 140737488355328) :
    Calls Tryd.prog 19 #[.slice A n c] w (RetBs xs w) := by
  have q : ∀ (w : World) (a : Option Addr) (n c n' c' : Nat), (binOp .eql 30 (.slice a n c) (.slice none n' c')).run Tryd.prog w = .ok (.bool a.isNone) w := fun w a n c n' c' => Lib.run_eql_slice_nil w _ _ a n c n' c' Tryd.underlying30
  obtain ⟨i0, hi, hz, hsz, hby⟩ := u8_info
  rcases A with _ | ad
  · have h0 : n = 0 := by
      rcases Nat.eq_zero_or_pos n with h0 | h0
      · exact h0
      · obtain ⟨_, _, h, _⟩ := h.2 h0; cases h
    subst h0
    obtain rfl : xs = [] := List.eq_nil_of_length_eq_zero h.1
    go_enter Tryd.func19, Tryd.ntmps19
    go_wp2
    go_ret
    exact ⟨none, 0, 0, rfl, Bs.nil_, Nat.le_refl _, by simp, Below.refl _ _⟩
  · have hown := World.ownsRow_lit (base := w.heap.size) (e := 5) (size := 1) w #[] 0 (Nat.le_refl _) (by simp) rfl
    go_enter Tryd.func19, Tryd.ntmps19
    go_wp2_with (at_builtin; refine wpList_append_bs rfl (.tmp 5) (.tmp 6) _ rfl w.heap.size 5 i0 Tryd.underlying30 hi hz hsz hby (.slice (some ⟨w.heap.size, 0, none⟩) 0 0) 0 [] rfl hown w.heap.size (some ad) n c xs rfl (h.below ((Below.refl _ _).alloc (Nat.le_refl _) _)) (by omega) (by simp) ?_; intro v1 w1 hown1 hg1)
    go_ret
    exact ret_owns hown1 (grown_below ((Below.refl _ _).alloc (Nat.le_refl _) _) hown (Nat.le_refl _) hg1) (by simp)
set_option maxRecDepth 100000 in
set_option maxHeartbeats 400000 in
theorem low_any (x : Int) (n : Nat) (w : World) (h0 : 0 ≤ x) (h1 : x < 18446744073709551616) (hn : n ≤ 8) :
    Calls Tryd.prog 39 #[.int .u64 x, .int .i64 (n : Int)] w (RetBs (lowB x n) w) := by
  obtain ⟨i0, hi, hz, hsz, hby⟩ := u8_info
  go_enter Tryd.func39, Tryd.ntmps39
  go_wp2
  go_loopw [0, 5, 6] (fun y o i wr => ∃ k : Nat, k ≤ n ∧ i = .int .i64 k ∧ y = .int .u64 (x / 256 ^ k) ∧ wr.ownsRow w.heap.size 5 1 o k (bv (lowB x k)) ∧ Below w.heap.size w wr) (fun _ _ i _ => n - (intOf i).toNat)
  case atStart => exact ⟨0, Nat.zero_le _, rfl, by simp, World.ownsRow_nil _ _ _ _, Below.refl _ _⟩
  case round =>
    obtain ⟨k, hk, rfl, rfl, hown, hb⟩ := hrel
    have p0 := div_pow_nonneg h0 k
    have p1 : x / 256 ^ k < 18446744073709551616 := by have := div_pow_le h0 k; omega
    by_cases hlt : k < n
    · go_wp2_with (at_builtin; refine wpList_append_bs rfl (.tmp 12) (.tmp 16) _ rfl w.heap.size 5 i0 Tryd.underlying30 hi hz hsz hby _ k (lowB x k) rfl (hown.alloc _) _ _ 1 1 [x / 256 ^ k % 256] rfl (Bs.new1 wr _ _) (by omega) (by have := hb.size; simp; omega) ?_; intro v1 w1 hown1 hg1)
      have hb1 := (hb.alloc hb.size _).grown hg1 (by have := hb.size; simp; omega) (fun j hj => (hown.lt j hj).1)
      clear hown hg1
      go_wp2
      go_roundw
      case rel => exact ⟨k + 1, by omega, by go_num, by rw [div_pow_succ], by rw [lowB_snoc]; exact hown1, hb1⟩
      case measure => simp [intOf]; omega
    · go_wp2
      go_ret
      obtain rfl : k = n := by omega
      exact ret_owns hown hb rfl
set_option maxRecDepth 100000 in
set_option maxHeartbeats 400000 in
theorem len64_32 (w : World) : Calls Tryd.prog 82 #[.int .u64 4294967295] w fun e w' => e = .returned (.int .i64 32) ∧ w = w' := by
  go_enter Tryd.func82, Tryd.ntmps82
  go_wp2
  go_ret
  exact ⟨by kernel_rfl, rfl⟩
set_option maxRecDepth 100000 in
theorem width32_any (w : World) : Calls Tryd.prog 71 #[] w fun e w' => e = .returned (.int .i64 4) ∧ w = w' := by
  go_enter Tryd.func71, Tryd.ntmps71
  go_wp2_with (go_at_call 82; refine (len64_32 _).mono ?_; rintro e w' ⟨rfl, rfl⟩)
  go_ret
  exact ⟨rfl, rfl⟩
set_option maxRecDepth 100000 in
set_option maxHeartbeats 400000 in
theorem lay32_low (A : Option Addr) (m c : Nat) (xs : List Int) (x : Int) (w : World) (h : Bs w w.heap.size A m xs) (hm : m ≤ 1000000) (h0 : 0 ≤ x) (h1 : x < 2 ^ 32) :
    Calls Tryd.prog 54 #[.slice A m c, .int .u32 x, .bool true] w (RetBs (xs ++ lowB x 4) w) := by
  obtain ⟨i0, hi, hz, hsz, hby⟩ := u8_info
  go_enter Tryd.func54, Tryd.ntmps54
  go_wp2_with (first
    | (go_at_call 71; refine (width32_any _).mono ?_; rintro e w' ⟨rfl, rfl⟩)
    | (refine wpList_make_bs rfl _ _ _ rfl 5 i0 Tryd.underlying30 hi hz hsz hby (m + 4) rfl rfl (by omega) ?_; intro w1 hown hs1 hb1)
    | (refine wpList_copy_bs rfl (.tmp 17) (.tmp 18) _ _ rfl 5 Tryd.underlying30 u8_size w.heap.size 0 _ _ m c A rfl rfl _ xs 5 w.heap.size hown (h.below hb1) (by omega) (by rw [List.length_replicate]; omega) w.heap.size w hb1 (Nat.le_refl _) ?_; intro w2 hown2 hb2))
  go_loopw [21] (fun i wr => ∃ k : Nat, k ≤ 4 ∧ i = .int .i64 k ∧ Own wr 5 w.heap.size (xs ++ (lowB x k ++ List.replicate (4 - k) 0)) ∧ Below w.heap.size w wr) (fun i _ => 4 - (intOf i).toNat)
  case atStart => exact ⟨0, Nat.zero_le _, rfl, by simpa [lowB, h.1] using hown2, hb2⟩
  case round =>
    obtain ⟨k, hk, rfl, hown, hb⟩ := hrel
    by_cases hlt : k < 4
    · have hc := hown.cell (j := m + k) (by simp [lowB_length, h.1]; omega)
      have hf := hown.frozen (m + k)
      have hs := hown.set (m + k) (x / 2 ^ (8 * k) % 256)
      have he := set_low hlt (lowB x k) (lowB_length x k) (x / 2 ^ (8 * k) % 256) xs
      rw [h.1] at he
      rw [he, ← pow256_two, ← lowB_snoc, pow256_two] at hs
      have HS := hide hs
      clear hs he
      go_wp2
      go_roundw
      case rel => exact ⟨k + 1, by omega, by go_num, HS.out, hb.setCell (Nat.le_refl _) _⟩
      case measure => simp [intOf]; omega
    · go_wp2
      go_ret
      obtain rfl : k = 4 := by omega
      exact ret_own hown hb (by simp) (by simp [lowB_length, h.1]) (Nat.le_refl _) (by simp only [maxLen]; omega)
theorem putLe32_any (A : Option Addr) (m c : Nat) (xs : List Int) (x : Int) (w : World) (h : Bs w w.heap.size A m xs) (hm : m ≤ 1000000) (h0 : 0 ≤ x) (h1 : x < 2 ^ 32) :
    Calls Tryd.prog 36 #[.slice A m c, .int .u32 x] w (RetBs (xs ++ lowB x 4) w) := by
  go_enter Tryd.func36, Tryd.ntmps36
  go_wp2_with (go_at_call 54; refine (lay32_low A m c xs x _ h hm h0 h1).mono ?_; rintro e w1 ⟨A1, n1, c1, rfl, hb, hn, hc, hl⟩)
  go_ret
  exact ⟨A1, n1, c1, rfl, hb, hn, hc, hl⟩
set_option maxRecDepth 100000 in
set_option maxHeartbeats 400000 in
theorem fromLow32_any (A : Option Addr) (m c p : Nat) (xs : List Int) (w : World) (h : Bs w w.heap.size A m xs) (hx : IsBy xs) (hm : m ≤ 1000000) (hp : p ≤ 1000000) :
    Calls Tryd.prog 70 #[.slice A m c, .int .i64 (p : Int)] w fun e w' => e = .returned (.int .u32 (leV xs p 4)) ∧ w = w' := by
  go_enter Tryd.func70, Tryd.ntmps70
  go_wp2_with (go_at_call 71; refine (width32_any _).mono ?_; rintro e w' ⟨rfl, rfl⟩)
  go_loop [5, 9] (fun v i => ∃ k : Nat, k ≤ 4 ∧ i = .int .i64 k ∧ v = .int .u32 (leV xs p k)) (fun _ i => 4 - (intOf i).toNat)
  case atStart => exact ⟨0, Nat.zero_le _, rfl, rfl⟩
  case round =>
    obtain ⟨k, hk, rfl, rfl⟩ := hrel
    obtain ⟨q0, q1⟩ := leV_bound hx p k
    by_cases hlt : k < 4
    · by_cases hin : p + k < m
      · obtain ⟨b, o, rfl, hb, hc⟩ := h.at_ hin
        obtain ⟨b0, b1⟩ := getD_byte hx (p + k)
        have HO := hide (or_next32 k hlt q0 q1 b0 b1)
        go_wp2
        go_round
        case rel => exact ⟨k + 1, by omega, by go_num, congrArg (Value.int .u32) (by have := HO.out; simpa [leV, List.getD] using this)⟩
        case measure => simp [intOf]; omega
      · have hz : xs.getD (p + k) 0 = 0 := by
          have := h.1
          simp [List.getD, List.getElem?_eq_none (show xs.length ≤ p + k by omega)]
        have HZ := hide hz
        clear hz
        go_wp2
        go_round
        case rel => exact ⟨k + 1, by omega, by go_num, congrArg (Value.int .u32) (by rw [leV, HZ.out]; omega)⟩
        case measure => simp [intOf]; omega
    · go_wp2
      go_ret
      obtain rfl : k = 4 := by omega
      exact ⟨rfl, rfl⟩
theorem le32_any (A : Option Addr) (m c p : Nat) (xs : List Int) (w : World) (h : Bs w w.heap.size A m xs) (hx : IsBy xs) (hm : m ≤ 1000000) (hp : p ≤ 1000000) :
    Calls Tryd.prog 52 #[.slice A m c, .int .i64 (p : Int)] w fun e w' => e = .returned (.int .u32 (leV xs p 4)) ∧ w = w' := by
  go_enter Tryd.func52, Tryd.ntmps52
  go_wp2_with (go_at_call 70; refine (fromLow32_any A m c p xs _ h hx hm hp).mono ?_; rintro e w' ⟨rfl, rfl⟩)
  go_ret
  exact ⟨rfl, rfl⟩
end Go.Proofs.YtfpemnihknbihaaDoor

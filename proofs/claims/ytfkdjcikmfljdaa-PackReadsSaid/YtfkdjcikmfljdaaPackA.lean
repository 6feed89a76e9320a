/-
  What the leaf functions of pack and of its document's answers do: a contract each. Own work.
-/
import Derived.Test.YtfkdjcikmfljdaaRows
import Derived.Test.YtfkdjcikmfljdaaBytes
namespace Go.Proofs.Ytfkdjcikmfljdaa
set_option linter.unusedVariables false
set_option linter.unusedSimpArgs false
open Go.RowKit
theorem u8_info_ : (Try.prog.info? 5).map (fun i => (i.zero, i.size, i.bytes)) = some (some (.int .u8 0), 1, 1) := by kernel_rfl
theorem u8_info : ∃ i, Try.prog.info? 5 = some i ∧ i.zero = some (.int .u8 0) ∧ i.size = 1 ∧ i.bytes = 1 := by
  obtain ⟨i, h0, h1, h2, h3⟩ := info_parts u8_info_
  exact ⟨i, h0, h1, h2, h3⟩
theorem u8_size : (Try.prog.info? 5).map (·.size) = some 1 := by kernel_rfl
theorem equal_any (A B : Option Addr) (n m c d : Nat) (xs ys : List Int) (w : World) (h1 : Bs w w.heap.size A n xs) (h2 : Bs w w.heap.size B m ys) :
    Calls Try.prog 11 #[.slice A n c, .slice B m d] w fun e w' => e = .returned (.bool (Lib.bytesOf xs == Lib.bytesOf ys)) ∧ w = w' := by
  have e1 := h1.convert c 22 5 9 Try.underlying22 Try.underlying5 Try.underlying9
  have e2 := h2.convert d 22 5 9 Try.underlying22 Try.underlying5 Try.underlying9
  go_enter Try.func11, Try.ntmps11
  go_wp2
  go_ret
  refine ⟨?_, rfl⟩
  rw [← Lib.strOfNums_toList, ← Lib.strOfNums_toList]
  rfl
theorem clone_any (A : Option Addr) (n c : Nat) (xs : List Int) (w : World) (h : Bs w w.heap.size A n xs) (hn : n ≤ 140737488355328) :
    Calls Try.prog 10 #[.slice A n c] w (RetBs xs w) := by
  have q : ∀ (w : World) (a : Option Addr) (n c n' c' : Nat), (binOp .eql 22 (.slice a n c) (.slice none n' c')).run Try.prog w = .ok (.bool a.isNone) w := fun w a n c n' c' => Lib.run_eql_slice_nil w _ _ a n c n' c' Try.underlying22
  obtain ⟨i0, hi, hz, hsz, hby⟩ := u8_info
  rcases A with _ | ad
  · have h0 : n = 0 := by
      rcases Nat.eq_zero_or_pos n with h0 | h0
      · exact h0
      · obtain ⟨_, _, h, _⟩ := h.2 h0; cases h
    subst h0
    obtain rfl : xs = [] := List.eq_nil_of_length_eq_zero h.1
    go_enter Try.func10, Try.ntmps10
    go_wp2
    go_ret
    exact ⟨none, 0, 0, rfl, Bs.nil_, Nat.le_refl _, by simp, Below.refl _ _⟩
  · have hown := World.ownsRow_lit (base := w.heap.size) (e := 5) (size := 1) w #[] 0 (Nat.le_refl _) (by simp) rfl
    go_enter Try.func10, Try.ntmps10
    go_wp2_with (at_builtin; refine wpList_append_bs rfl (.tmp 5) (.tmp 6) _ rfl w.heap.size 5 i0 Try.underlying22 hi hz hsz hby (.slice (some ⟨w.heap.size, 0, none⟩) 0 0) 0 [] rfl hown w.heap.size (some ad) n c xs rfl (h.below ((Below.refl _ _).alloc (Nat.le_refl _) _)) (by omega) (by simp) ?_; intro v1 w1 hown1 hg1)
    go_ret
    exact ret_owns hown1 (grown_below ((Below.refl _ _).alloc (Nat.le_refl _) _) hown (Nat.le_refl _) hg1) (by simp)
theorem both_any (A B : Option Addr) (n m c d : Nat) (xs ys : List Int) (w : World) (h1 : Bs w w.heap.size A n xs) (h2 : Bs w w.heap.size B m ys) (hn : n + m ≤ 140737488355328) :
    Calls Try.prog 19 #[.slice A n c, .slice B m d] w (RetBs (xs ++ ys) w) := by
  obtain ⟨i0, hi, hz, hsz, hby⟩ := u8_info
  have hown0 := World.ownsRow_nil w w.heap.size 5 1
  go_enter Try.func19, Try.ntmps19
  go_wp2_with (first
    | (at_builtin
       refine wpList_append_bs rfl (.tmp 6) (.tmp 7) _ rfl w.heap.size 5 i0 Try.underlying22 hi hz hsz hby (.slice none 0 0) 0 [] rfl hown0 w.heap.size A n c xs rfl h1 (by omega) (by simp) ?_
       intro v1 w1 hown1 hg1
       have hb1 := grown_below (Below.refl _ _) hown0 (Nat.le_refl _) hg1
       have hz1 := hb1.size)
    | (at_builtin
       refine wpList_append_bs rfl (.tmp 9) (.tmp 10) _ rfl w.heap.size 5 i0 Try.underlying22 hi hz hsz hby v1 (0 + n) ([] ++ xs) rfl hown1 w.heap.size B m d ys rfl (h2.below hb1) (by omega) hz1 ?_
       intro v2 w2 hown2 hg2))
  go_ret
  exact ret_owns hown2 (grown_below hb1 hown1 (Nat.le_refl _) hg2) (by simp)
set_option maxHeartbeats 400000 in
theorem low_any (x : Int) (n : Nat) (w : World) (h0 : 0 ≤ x) (h1 : x < 18446744073709551616) (hn : n ≤ 8) :
    Calls Try.prog 20 #[.int .u64 x, .int .i64 (n : Int)] w (RetBs (lowB x n) w) := by
  obtain ⟨i0, hi, hz, hsz, hby⟩ := u8_info
  go_enter Try.func20, Try.ntmps20
  go_wp2
  go_loopw [0, 5, 6] (fun y o i wr => ∃ k : Nat, k ≤ n ∧ i = .int .i64 k ∧ y = .int .u64 (x / 256 ^ k) ∧ wr.ownsRow w.heap.size 5 1 o k (bv (lowB x k)) ∧ Below w.heap.size w wr) (fun _ _ i _ => n - (intOf i).toNat)
  case atStart => exact ⟨0, Nat.zero_le _, rfl, by simp, World.ownsRow_nil _ _ _ _, Below.refl _ _⟩
  case round =>
    obtain ⟨k, hk, rfl, rfl, hown, hb⟩ := hrel
    have p0 := div_pow_nonneg h0 k
    have p1 : x / 256 ^ k < 18446744073709551616 := by have := div_pow_le h0 k; omega
    by_cases hlt : k < n
    · go_wp2_with (at_builtin; refine wpList_append_bs rfl (.tmp 12) (.tmp 16) _ rfl w.heap.size 5 i0 Try.underlying22 hi hz hsz hby _ k (lowB x k) rfl (hown.alloc _) _ _ 1 1 [x / 256 ^ k % 256] rfl (Bs.new1 wr _ _) (by omega) (by have := hb.size; simp; omega) ?_; intro v1 w1 hown1 hg1)
      have hb1 := (hb.alloc hb.size _).grown hg1 (by have := hb.size; simp; omega) (fun j hj => (hown.lt j hj).1)
      clear hown hg1
      go_wp2
      go_roundw
      case rel => exact ⟨k + 1, by omega, by go_num, by rw [div_pow_succ], by rw [lowB_snoc]; exact hown1, hb1⟩
      case measure => simp [intOf]; omega
    · go_wp2
      go_ret
      obtain rfl : k = n := by omega
      exact ret_owns hown hb rfl
end Go.Proofs.Ytfkdjcikmfljdaa

/- PackNobody: the Go text of the law answers true for every input, and writes nothing that was there. -/
import Derived.Test.YtfkdjcikmfljdaaReader2
import Derived.Deep.RegionWith
namespace Go.Proofs.Ytfkdjcikmfljdaa
open Go.RowKit
set_option linter.unusedVariables false
set_option linter.unusedSimpArgs false

/-- A reader that no call made: nil, or one in block g that has nothing. -/
def Nob (w : World) (p : Option Addr) : Prop := p = none ∨ ∃ g, p = some ⟨g, 0, none⟩ ∧ Blk w g 63 #[.bool false, .slice none 0 0, .int .i64 0]

theorem nerr_any {p : Option Addr} (w : World) (h : Nob w p) : Calls Try.prog 37 #[.pointer p] w fun en w' => en = .returned (.int .i64 2) ∧ w = w' := by
  rcases h with rfl | ⟨g, rfl, hb⟩
  · go_enter Try.func37, Try.ntmps37
    go_wp2
    go_ret
    exact ⟨rfl, rfl⟩
  · have c0 := hb.cell 0
    simp only [List.getElem?_toArray, List.getElem?_cons_zero, List.getElem?_cons_succ] at c0
    clear hb
    go_enter Try.func37, Try.ntmps37
    go_wp2
    go_ret
    exact ⟨rfl, rfl⟩
theorem nleft_any {p : Option Addr} (w : World) (h : Nob w p) : Calls Try.prog 36 #[.pointer p] w fun en w' => en = .returned (.int .i64 0) ∧ w = w' := by
  rcases h with rfl | ⟨g, rfl, hb⟩
  · go_enter Try.func36, Try.ntmps36
    go_wp2
    go_ret
    exact ⟨rfl, rfl⟩
  · have c1 := hb.cell 1
    simp only [List.getElem?_toArray, List.getElem?_cons_zero, List.getElem?_cons_succ] at c1
    clear hb
    go_enter Try.func36, Try.ntmps36
    go_wp2
    go_ret
    exact ⟨rfl, rfl⟩
theorem nfail_any {p : Option Addr} (w : World) (h : Nob w p) (code : Int) : Calls Try.prog 53 #[.pointer p, .int .i64 code] w fun en w' => en = .returned (.tuple #[]) ∧ w = w' := by
  go_enter Try.func53, Try.ntmps53
  go_wp2_with (go_at_call 37; refine (nerr_any _ h).mono ?_; rintro e w' ⟨rfl, rfl⟩)
  go_end0
  exact ⟨rfl, rfl⟩
theorem ntake_any {p : Option Addr} (w : World) (h : Nob w p) (n : Int) (hn : 0 ≤ n) : Calls Try.prog 48 #[.pointer p, .int .i64 n] w fun en w' => en = .returned (.slice none 0 0) ∧ w = w' := by
  by_cases h0 : 0 < n
  · go_enter Try.func48, Try.ntmps48
    go_wp2_with (first
      | (go_at_call 36; refine (nleft_any _ h).mono ?_; rintro e w' ⟨rfl, rfl⟩)
      | (go_at_call 53; refine (nfail_any _ h 4).mono ?_; rintro e w1 ⟨rfl, rfl⟩)
      | (go_at_call 37; refine (nerr_any _ h).mono ?_; rintro e w' ⟨rfl, rfl⟩))
    go_ret
    exact ⟨rfl, rfl⟩
  · obtain rfl : n = 0 := by omega
    go_enter Try.func48, Try.ntmps48
    go_wp2_with (first
      | (go_at_call 36; refine (nleft_any _ h).mono ?_; rintro e w' ⟨rfl, rfl⟩)
      | (go_at_call 37; refine (nerr_any _ h).mono ?_; rintro e w' ⟨rfl, rfl⟩))
    go_ret
    exact ⟨rfl, rfl⟩
theorem nu8_any {p : Option Addr} (w : World) (h : Nob w p) : Calls Try.prog 26 #[.pointer p] w fun en w' => en = .returned (.int .i64 0) ∧ w = w' := by
  go_enter Try.func26, Try.ntmps26
  go_wp2_with (go_at_call 48; refine (ntake_any _ h 1 (by omega)).mono ?_; rintro e w' ⟨rfl, rfl⟩)
  go_ret
  exact ⟨rfl, rfl⟩
theorem nfromHigh32_any {p : Option Addr} (w : World) (h : Nob w p) : Calls Try.prog 50 #[.pointer p] w fun en w' => en = .returned (.int .u32 0) ∧ w = w' := by
  go_enter Try.func50, Try.ntmps50
  go_wp2_with (first
    | (go_at_call 59; refine (width32_any _).mono ?_; rintro e w' ⟨rfl, rfl⟩)
    | (go_at_call 48; refine (ntake_any _ h 4 (by omega)).mono ?_; rintro en w1 ⟨rfl, rfl⟩))
  go_loop [3, 10] (fun v i => v = .int .u32 0 ∧ i = .int .i64 0) (fun _ _ => 0)
  case atStart => exact ⟨rfl, rfl⟩
  case round =>
    obtain ⟨rfl, rfl⟩ := hrel
    go_wp2
    go_ret
    exact ⟨rfl, rfl⟩
theorem nu32_any {p : Option Addr} (w : World) (h : Nob w p) : Calls Try.prog 28 #[.pointer p] w fun en w' => en = .returned (.int .u32 0) ∧ w = w' := by
  go_enter Try.func28, Try.ntmps28
  go_wp2_with (go_at_call 50; refine (nfromHigh32_any _ h).mono ?_; rintro en w1 ⟨rfl, rfl⟩)
  go_ret
  exact ⟨rfl, rfl⟩
theorem nfromHigh64_any {p : Option Addr} (w : World) (h : Nob w p) : Calls Try.prog 51 #[.pointer p] w fun en w' => en = .returned (.int .u64 0) ∧ w = w' := by
  go_enter Try.func51, Try.ntmps51
  go_wp2_with (first
    | (go_at_call 60; refine (width64_any _).mono ?_; rintro e w' ⟨rfl, rfl⟩)
    | (go_at_call 48; refine (ntake_any _ h 8 (by omega)).mono ?_; rintro en w1 ⟨rfl, rfl⟩))
  go_loop [3, 10] (fun v i => v = .int .u64 0 ∧ i = .int .i64 0) (fun _ _ => 0)
  case atStart => exact ⟨rfl, rfl⟩
  case round =>
    obtain ⟨rfl, rfl⟩ := hrel
    go_wp2
    go_ret
    exact ⟨rfl, rfl⟩
theorem nu64_any {p : Option Addr} (w : World) (h : Nob w p) : Calls Try.prog 29 #[.pointer p] w fun en w' => en = .returned (.int .u64 0) ∧ w = w' := by
  go_enter Try.func29, Try.ntmps29
  go_wp2_with (go_at_call 51; refine (nfromHigh64_any _ h).mono ?_; rintro en w1 ⟨rfl, rfl⟩)
  go_ret
  exact ⟨rfl, rfl⟩
theorem nnum_any {p : Option Addr} (w : World) (h : Nob w p) (most : Int) (m0 : -9223372036854775808 ≤ most) (m1 : most ≤ 9223372036854775807) : Calls Try.prog 30 #[.pointer p, .int .i64 most] w fun en w' => en = .returned (.int .i64 0) ∧ w = w' := by
  by_cases hm : most < 0
  all_goals
    go_enter Try.func30, Try.ntmps30
    go_wp2_with (first
      | (go_at_call 29; refine (nu64_any _ h).mono ?_; rintro en w1 ⟨rfl, rfl⟩)
      | (go_at_call 52; refine (above_any 0 most _ (by omega) (by omega) m0 m1).mono ?_; rintro en w2 ⟨rfl, rfl⟩)
      | (go_at_call 53; refine (nfail_any _ h 5).mono ?_; rintro en w2 ⟨rfl, rfl⟩))
    go_ret
    exact ⟨rfl, rfl⟩
theorem nclone_any (w : World) : Calls Try.prog 10 #[.slice none 0 0] w fun en w' => en = .returned (.slice none 0 0) ∧ w = w' := by
  have q : ∀ (w : World) (a : Option Addr) (n c n' c' : Nat), (binOp .eql 22 (.slice a n c) (.slice none n' c')).run Try.prog w = .ok (.bool a.isNone) w := fun w a n c n' c' => Lib.run_eql_slice_nil w _ _ a n c n' c' Try.underlying22
  go_enter Try.func10, Try.ntmps10
  go_wp2
  go_ret
  exact ⟨rfl, rfl⟩
theorem nbytes_any {p : Option Addr} (w : World) (h : Nob w p) (most : Int) (m0 : -9223372036854775808 ≤ most) (m1 : most ≤ 9223372036854775807) : Calls Try.prog 32 #[.pointer p, .int .i64 most] w fun en w' => en = .returned (.slice none 0 0) ∧ w = w' := by
  by_cases hm : most < 0
  all_goals
    go_enter Try.func32, Try.ntmps32
    go_wp2_with (first
      | (go_at_call 28; refine (nu32_any _ h).mono ?_; rintro en w1 ⟨rfl, rfl⟩)
      | (go_at_call 52; refine (above_any 0 most _ (by omega) (by omega) m0 m1).mono ?_; rintro en w2 ⟨rfl, rfl⟩)
      | (go_at_call 53; refine (nfail_any _ h 5).mono ?_; rintro en w2 ⟨rfl, rfl⟩)
      | (go_at_call 48; refine (ntake_any _ h 0 (by omega)).mono ?_; rintro en w1 ⟨rfl, rfl⟩)
      | (go_at_call 10; refine (nclone_any _).mono ?_; rintro en w1 ⟨rfl, rfl⟩))
    go_ret
    exact ⟨rfl, rfl⟩
theorem nrest_any {p : Option Addr} (w : World) (h : Nob w p) : Calls Try.prog 34 #[.pointer p] w fun en w' => en = .returned (.slice none 0 0) ∧ w = w' := by
  go_enter Try.func34, Try.ntmps34
  go_wp2_with (first
    | (go_at_call 36; refine (nleft_any _ h).mono ?_; rintro e w' ⟨rfl, rfl⟩)
    | (go_at_call 48; refine (ntake_any _ h 0 (by omega)).mono ?_; rintro en w1 ⟨rfl, rfl⟩)
    | (go_at_call 10; refine (nclone_any _).mono ?_; rintro en w1 ⟨rfl, rfl⟩))
  go_ret
  exact ⟨rfl, rfl⟩
theorem nend_any {p : Option Addr} (w : World) (h : Nob w p) : Calls Try.prog 38 #[.pointer p] w fun en w' => en = .returned (.int .i64 2) ∧ w = w' := by
  go_enter Try.func38, Try.ntmps38
  go_wp2_with (go_at_call 37; refine (nerr_any _ h).mono ?_; rintro e w' ⟨rfl, rfl⟩)
  go_ret
  exact ⟨rfl, rfl⟩

set_option maxHeartbeats 1000000 in
theorem packNobody_any (n : Int) (w : World) (n0 : -9223372036854775808 ≤ n) (n1 : n ≤ 9223372036854775807) :
    Calls Try.prog 8 #[.int .i64 n] w fun e w' => e = .returned (.bool true) ∧ Below w.heap.size w w' := by
  go_enter Try.func8, Try.ntmps8
  go_wp2
  go_loop [4] (fun i => ∃ k : Nat, k ≤ 2 ∧ i = .int .i64 k) (fun i => 2 - (intOf i).toNat)
  case atStart => exact ⟨0, by omega, rfl⟩
  case round =>
    obtain ⟨k, hk, rfl⟩ := hrel
    have hb : Below w.heap.size w ((w.alloc (.cells #[.bool false, .slice none 0 0, .int .i64 0] 63)).alloc (.cells #[.pointer none, .pointer (some ⟨w.heap.size, 0, none⟩)] 38)) :=
      ((Below.refl _ _).alloc (Nat.le_refl _) _).alloc (by simp) _
    by_cases hlt : k < 2
    · obtain rfl | rfl : k = 0 ∨ k = 1 := by omega
      · have H : Nob ((w.alloc (.cells #[.bool false, .slice none 0 0, .int .i64 0] 63)).alloc (.cells #[.pointer none, .pointer (some ⟨w.heap.size, 0, none⟩)] 38)) none := .inl rfl
        go_wp2_with (first
        | (go_at_call 26; refine (nu8_any _ H).mono ?_; rintro en w1 ⟨rfl, rfl⟩)
        | (go_at_call 28; refine (nu32_any _ H).mono ?_; rintro en w1 ⟨rfl, rfl⟩)
        | (go_at_call 29; refine (nu64_any _ H).mono ?_; rintro en w1 ⟨rfl, rfl⟩)
        | (go_at_call 30; refine (nnum_any _ H n n0 n1).mono ?_; rintro en w1 ⟨rfl, rfl⟩)
        | (go_at_call 32; refine (nbytes_any _ H n n0 n1).mono ?_; rintro en w1 ⟨rfl, rfl⟩)
        | (go_at_call 34; refine (nrest_any _ H).mono ?_; rintro en w1 ⟨rfl, rfl⟩)
        | (go_at_call 36; refine (nleft_any _ H).mono ?_; rintro en w1 ⟨rfl, rfl⟩)
        | (go_at_call 37; refine (nerr_any _ H).mono ?_; rintro en w1 ⟨rfl, rfl⟩)
        | (go_at_call 38; refine (nend_any _ H).mono ?_; rintro en w1 ⟨rfl, rfl⟩))
        go_round
        case rel => exact ⟨1, by omega, rfl⟩
        case measure => simp [intOf]
      · have H : Nob ((w.alloc (.cells #[.bool false, .slice none 0 0, .int .i64 0] 63)).alloc (.cells #[.pointer none, .pointer (some ⟨w.heap.size, 0, none⟩)] 38)) (some ⟨w.heap.size, 0, none⟩) := .inr ⟨_, rfl, heap_alloc2_old _ _ _⟩
        go_wp2_with (first
        | (go_at_call 26; refine (nu8_any _ H).mono ?_; rintro en w1 ⟨rfl, rfl⟩)
        | (go_at_call 28; refine (nu32_any _ H).mono ?_; rintro en w1 ⟨rfl, rfl⟩)
        | (go_at_call 29; refine (nu64_any _ H).mono ?_; rintro en w1 ⟨rfl, rfl⟩)
        | (go_at_call 30; refine (nnum_any _ H n n0 n1).mono ?_; rintro en w1 ⟨rfl, rfl⟩)
        | (go_at_call 32; refine (nbytes_any _ H n n0 n1).mono ?_; rintro en w1 ⟨rfl, rfl⟩)
        | (go_at_call 34; refine (nrest_any _ H).mono ?_; rintro en w1 ⟨rfl, rfl⟩)
        | (go_at_call 36; refine (nleft_any _ H).mono ?_; rintro en w1 ⟨rfl, rfl⟩)
        | (go_at_call 37; refine (nerr_any _ H).mono ?_; rintro en w1 ⟨rfl, rfl⟩)
        | (go_at_call 38; refine (nend_any _ H).mono ?_; rintro en w1 ⟨rfl, rfl⟩))
        go_round
        case rel => exact ⟨2, by omega, rfl⟩
        case measure => simp [intOf]
    · obtain rfl : k = 2 := by omega
      go_wp2_with (go_at_call 9; refine (awake_any _).mono ?_; rintro e w3 ⟨rfl, hl3⟩)
      go_ret
      exact ⟨rfl, hb.trans (hl3.mono hb.size)⟩
end Go.Proofs.Ytfkdjcikmfljdaa

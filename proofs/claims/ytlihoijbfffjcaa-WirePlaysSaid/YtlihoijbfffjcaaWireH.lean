/-
  The document's Turn; the law WireTurns: contracts. Own work.
-/
import Derived.Test.YtlihoijbfffjcaaWireG
namespace Go.Proofs.Ytlihoijbfffjcaa
open Go.RowKit Go.Conc
set_option linter.unusedVariables false
set_option linter.unusedSimpArgs false
theorem turn_nil (A : Option Addr) (c : Nat) (at_ b : Int) (w : World) : Calls Try.prog 69 #[.slice A 0 c, .int .i64 at_, .int .u8 b] w fun e w' => e = .returned (.slice none 0 0) ∧ w = w' := by
  go_enter Try.func69, Try.ntmps69
  go_wp2
  go_ret
  exact ⟨rfl, rfl⟩
/-- Bytes with one turned, if there are any. -/
def turnS (xs : List Int) (at_ b : Int) : List Int := if xs.length = 0 then [] else turnL xs (turnP at_ xs.length) b
theorem turnS_len (xs : List Int) (at_ b : Int) : (turnS xs at_ b).length = xs.length := by
  unfold turnS; split
  · simp; omega
  · exact turnL_len _ _ _
theorem turnS_back {xs : List Int} {at_ b : Int} (h : IsBy xs) (hb : 0 ≤ b ∧ b < 256) : turnS (turnS xs at_ b) at_ b = xs := by
  by_cases h0 : xs.length = 0
  · unfold turnS
    rw [if_pos h0]
    simp
    exact List.eq_nil_of_length_eq_zero h0
  · have hl := turnS_len xs at_ b
    unfold turnS at hl ⊢
    rw [if_neg h0] at hl ⊢
    rw [hl, if_neg h0]
    exact turnL_back h (turnP_eq at_ _ (by omega)).2 hb
theorem turnS_by {xs : List Int} {at_ b : Int} (h : IsBy xs) (hb : 0 ≤ b ∧ b < 256) : IsBy (turnS xs at_ b) := by
  unfold turnS; split
  · exact fun _ h => by cases h
  · exact turnL_by h hb
theorem turn_all (A : Option Addr) (m c : Nat) (xs : List Int) (at_ b : Int) (w : World) (h : Bs w w.heap.size A m xs) (hby : IsBy xs) (hm : m ≤ 2000) (hb : 0 ≤ b ∧ b < 256) :
    Calls Try.prog 69 #[.slice A m c, .int .i64 at_, .int .u8 b] w fun e w' => ∃ A' c', e = .returned (.slice A' m c') ∧ Bs w' w'.heap.size A' m (turnS xs at_ b) ∧ Below w.heap.size w w' := by
  have hxl := h.1
  unfold turnS
  by_cases h0 : m = 0
  · subst h0
    rw [if_pos hxl]
    refine (turn_nil A c at_ b w).mono ?_
    rintro e w' ⟨rfl, rfl⟩
    exact ⟨none, 0, rfl, Bs.nil_, Below.refl _ _⟩
  · rw [if_neg (by omega), hxl]
    refine (turn_any A m c xs at_ b w h hby hm (by omega) hb).mono ?_
    rintro e w' ⟨A', c', rfl, ho, hbw⟩
    exact ⟨A', c', rfl, own_bs ho, hbw⟩
theorem turnL_at (xs : List Int) (p i : Nat) (b : Int) (hi : i < xs.length) : (turnL xs p b).take (i + 1) = (turnL xs p b).take i ++ [if i = p then bits .xor .u8 (xs.getD i 0) b else xs.getD i 0] := by
  have hl : i < (turnL xs p b).length := by rw [turnL_len]; exact hi
  rw [List.take_succ_eq_append_getElem hl]
  congr 2
  simp only [turnL, List.getElem_set]
  by_cases h : p = i
  · subst h; simp
  · rw [if_neg h, if_neg (fun e => h e.symm)]
    simp [List.getD, hi]
theorem one_u8 (x : Int) : ∀ u ∈ [Value.int .u8 x], u.oneCell' = true := by intro u hu; simp at hu; subst hu; rfl
set_option maxRecDepth 100000 in
set_option maxHeartbeats 1000000 in
theorem refTurn_any (A : Option Addr) (m c : Nat) (xs : List Int) (at_ b : Int) (w : World) (h : Bs w w.heap.size A m xs) (hby : IsBy xs) (hm : m ≤ 2000) (hb : 0 ≤ b ∧ b < 256) :
    Calls Try.prog 70 #[.slice A m c, .int .i64 at_, .int .u8 b] w fun e w' => ∃ A' c', e = .returned (.slice A' m c') ∧ Bs w' w'.heap.size A' m (turnS xs at_ b) ∧ Below w.heap.size w w' := by
  obtain ⟨i0, hi0, hz0, hs0, hb0⟩ := u8_info
  have hxl := h.1
  have hS : ∀ k, k = m → (turnL xs (turnP at_ m) b).take k = turnS xs at_ b := by
    intro k hk
    unfold turnS
    by_cases h0 : m = 0
    · rw [if_pos (by omega), hk, h0]; rfl
    · rw [if_neg (by omega), hxl, hk, List.take_of_length_le (by rw [turnL_len]; omega)]
  have hP := fun hpos => turnP_eq at_ m hpos
  generalize turnS xs at_ b = ts at *
  generalize turnP at_ m = p at *
  go_enter Try.func70, Try.ntmps70
  go_wp2_with fail
  go_loopw [7, 8] (fun ov iv wr => ∃ i : Nat, i ≤ m ∧ iv = .int .i64 i ∧ wr.ownsRow w.heap.size 5 1 ov i (bv ((turnL xs p b).take i)) ∧ Below w.heap.size w wr) (fun _ iv _ => m - (intOf iv).toNat)
  case atStart => exact ⟨0, by omega, rfl, World.ownsRow_nil _ _ _ _, Below.refl _ _⟩
  case round =>
    obtain ⟨i, him, rfl, hown, hBr⟩ := hrel
    by_cases hi : i < m
    · obtain ⟨bb, oo, rfl, hbb, hcc⟩ := h.2 (by omega)
      obtain ⟨hPe, hpm⟩ := hP (by omega)
      have ci := (hBr.cell (p := ⟨bb, oo + i, none⟩) hbb).trans (hcc i hi)
      have ht := turnL_at xs p i b (by omega)
      have hx0 := by_at hby i
      have hxor := xor_by hx0 hb
      generalize hxe : xs.getD i 0 = x at *
      have HT := hide ht
      have hne : ¬ m = 0 := by omega
      clear ht hcc hP hS h
      by_cases hip : i = p
      · subst hip
        rw [if_pos rfl] at HT
        go_wp2_with (first
          | ((with_reducible refine wl_build1 rfl 35 (.tmp 33) rfl 5 i0 (.int .u8 0) (.int .u8 (bits .xor .u8 x b)) Try.underlying35 hi0 hz0 hs0 rfl rfl rfl ?_); intro g2 w2 r2 p2 l2 b2; have hown2 := own_buts hown (Buts.of b2 []) (fun k hk => by simp))
          | ((with_reducible refine wl_append_at rfl (.tmp 32) (.tmp 34) 35 rfl w.heap.size 5 i0 (.int .u8 0) 1 1 Try.underlying35 hi0 hz0 hs0 hb0 rfl (by decide) u7 i _ rfl hown2 ⟨g2, 0, none⟩ 1 1 [.int .u8 (bits .xor .u8 x b)] rfl rfl (row_src r2) (one_u8 _) (by simp only [maxLen]; omega) (by omega) (Nat.le_trans hBr.size b2.size) ?_); intro ov' w3 hown3 hg3 hloc))
        have hB3 : Below w.heap.size w w3 := (hBr.trans (b2.mono hBr.size)).trans ((buts_own (S := u7.ownBlock.toList) hg3 (fun k hk => hk)).below (fun k hk => (own_lo hown k hk).1) (Nat.le_trans hBr.size b2.size))
        go_roundw
        case rel => exact ⟨i + 1, by omega, by go_num, by rw [HT.out]; simpa [bv] using hown3, hB3⟩
        case measure => simp [intOf]; omega

      · have hip' : ¬ (i : Int) = (p : Int) := by omega
        rw [if_neg hip] at HT
        clear hxor
        go_wp2_with (first
          | ((with_reducible refine wl_build1 rfl 35 (.tmp 33) rfl 5 i0 (.int .u8 0) (.int .u8 x) Try.underlying35 hi0 hz0 hs0 rfl rfl rfl ?_); intro g2 w2 r2 p2 l2 b2; have hown2 := own_buts hown (Buts.of b2 []) (fun k hk => by simp))
          | ((with_reducible refine wl_append_at rfl (.tmp 32) (.tmp 34) 35 rfl w.heap.size 5 i0 (.int .u8 0) 1 1 Try.underlying35 hi0 hz0 hs0 hb0 rfl (by decide) u7 i _ rfl hown2 ⟨g2, 0, none⟩ 1 1 [.int .u8 x] rfl rfl (row_src r2) (one_u8 _) (by simp only [maxLen]; omega) (by omega) (Nat.le_trans hBr.size b2.size) ?_); intro ov' w3 hown3 hg3 hloc))
        have hB3 : Below w.heap.size w w3 := (hBr.trans (b2.mono hBr.size)).trans ((buts_own (S := u7.ownBlock.toList) hg3 (fun k hk => hk)).below (fun k hk => (own_lo hown k hk).1) (Nat.le_trans hBr.size b2.size))
        go_roundw
        case rel => exact ⟨i + 1, by omega, by go_num, by rw [HT.out]; simpa [bv] using hown3, hB3⟩
        case measure => simp [intOf]; omega

    · obtain rfl : i = m := by omega
      rw [hS i rfl] at hown
      have hts : ts.length = i := by have := hown.1; rw [bv_len] at this; omega
      go_wp2_with fail
      obtain ⟨Ao, no, co, e⟩ := own_slice hown
      subst e
      have hno : no = i := by
        rcases hown.2 with ⟨e, h0⟩ | ⟨g, cap, cur, e, _⟩
        · injection e with _ e2 _; omega
        · injection e with _ e2 _
      subst hno
      go_ret
      exact ⟨Ao, co, rfl, own_bs hown, hBr⟩
end Go.Proofs.Ytlihoijbfffjcaa

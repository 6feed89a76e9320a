/- PackTexts: the Go text of the law answers true for every input, and writes nothing that was there. -/
import Derived.Test.YtfkdjcikmfljdaaPackC
import Derived.Deep.RegionWith
namespace Go.Proofs.Ytfkdjcikmfljdaa
open Go.RowKit
set_option linter.unusedVariables false
set_option linter.unusedSimpArgs false

set_option maxHeartbeats 1000000 in
theorem packTexts_any (A B C : Option Addr) (m c n d k f : Nat) (b s : List Int) (l : List (List Int)) (w : World) (h : Bs w w.heap.size A m b) (hs : Bs w w.heap.size B n s) (hl : Bss w w.heap.size C k l) :
    Calls Try.prog 4 #[.slice A m c, .slice B n d, .slice C k f] w fun e w' => e = .returned (.bool true) ∧ Below w.heap.size w w' := by
  by_cases hbig : 5000 < m ∨ 5000 < n ∨ 30 < k
  · by_cases h1 : 5000 < m
    · go_enter Try.func4, Try.ntmps4
      go_wp2_with (go_at_call 9; refine (awake_any _).mono ?_; rintro e w1 ⟨rfl, hb⟩)
      go_ret
      exact ⟨rfl, hb⟩
    · by_cases h2 : 5000 < n
      · go_enter Try.func4, Try.ntmps4
        go_wp2_with (go_at_call 9; refine (awake_any _).mono ?_; rintro e w1 ⟨rfl, hb⟩)
        go_ret
        exact ⟨rfl, hb⟩
      · have h3 : 30 < k := by omega
        go_enter Try.func4, Try.ntmps4
        go_wp2_with (go_at_call 9; refine (awake_any _).mono ?_; rintro e w1 ⟨rfl, hb⟩)
        go_ret
        exact ⟨rfl, hb⟩
  · have h1 : m ≤ 5000 := by omega
    have h2 : n ≤ 5000 := by omega
    have h3 : k ≤ 30 := by omega
    clear hbig
    obtain ⟨i0, hi, hz, hsz, hby⟩ := u8_info
    have HL := hide hl.1
    go_enter Try.func4, Try.ntmps4
    go_wp2
    go_loopw [7, 8] (fun v i wr => ∃ j : Nat, j ≤ k ∧ i = .int .i64 j ∧ sumLen l j ≤ 200 * j ∧ wr.ownsRow w.heap.size 5 1 v (sumLen l j) (bv (l.take j).flatten) ∧ Below w.heap.size w wr) (fun _ i _ => k - (intOf i).toNat)
    case atStart => exact ⟨0, Nat.zero_le _, rfl, by simp [sumLen], by simpa [sumLen, bv] using World.ownsRow_nil w w.heap.size 5 1, Below.refl _ _⟩
    case round =>
      obtain ⟨j, hj, rfl, hsum, hown, hbr⟩ := hrel
      by_cases hjl : j < k
      · obtain ⟨b', o, rfl, hb, hc⟩ := hl.2 (by omega)
        obtain ⟨A', n', c', hcell, hbs⟩ := hc j hjl
        have hcell' := (hbr.cell (p := ⟨b', o + j, none⟩) hb).trans hcell
        clear hcell hc
        by_cases hlen : 200 < n'
        · go_wp2_with (go_at_call 9; refine (awake_any _).mono ?_; rintro e w1 ⟨rfl, hbl⟩)
          go_ret
          exact ⟨rfl, hbr.trans (hbl.mono hbr.size)⟩
        · have hsu := sumLen_succ l j (by rw [HL.out]; exact hjl)
          have htf := take_flat l j (by rw [HL.out]; exact hjl)
          rw [hbs.1] at hsu
          have hle : sumLen l (j + 1) ≤ 200 * (j + 1) := by omega
          have HS := hide hsu
          have HT := hide htf
          have HE := hide hle
          clear hsu htf hle
          go_wp2_with (at_builtin; refine wpList_append_bs rfl (.tmp 37) (.tmp 41) _ rfl w.heap.size 5 i0 Try.underlying22 hi hz hsz hby _ (sumLen l j) (l.take j).flatten rfl hown w.heap.size A' n' c' (l.getD j []) rfl (hbs.below hbr) (by omega) hbr.size ?_; intro v1 w2 hown1 hg1)
          have hb3 := grown_below hbr hown (Nat.le_refl _) hg1
          clear hown hg1
          go_wp2
          go_roundw
          case rel => exact ⟨j + 1, by omega, by go_num, HE.out, by rw [HS.out, HT.out]; exact hown1, hb3⟩
          case measure => simp [intOf]; omega
      · obtain rfl : j = k := by omega
        obtain ⟨Av, cv, rfl, hbv, hv1, hv2⟩ := ownsRow_bs hown
        rw [List.take_of_length_le (by rw [HL.out]; exact Nat.le_refl _)] at hbv
        clear hown
        go_wp2_with (go_at_call 10; refine (clone_any A m c b _ (h.later hbr) (by omega)).mono ?_; rintro e w1 ⟨A1, m1, c1, rfl, hb1, hn1, hc1, hl1⟩)
        have g1 : m1 ≤ 5000 := by have := hb1.1; have := h.1; omega
        have H1 := hbr.trans (hl1.mono hbr.size)
        go_wp2_with (go_at_call 22; refine (put_any A B m c n d b s _ (h.later H1) (hs.later H1) (by omega) (by omega)).mono ?_; rintro e w2 ⟨A2, m2, c2, rfl, hb2, hn2, hc2, hl2⟩)
        have H2 := H1.trans (hl2.mono H1.size)
        go_wp2_with (go_at_call 23; refine (refPut_any A1 B m1 c1 n d b s _ (hb1.later hl2) (hs.later H2) (by omega) (by omega)).mono ?_; rintro e w3 ⟨A3, m3, c3, rfl, hb3, hn3, hc3, hl3⟩)
        have H3 := H2.trans (hl3.mono H2.size)
        go_wp2_with (go_at_call_of 11 A3; refine (equal_any _ _ _ _ _ _ _ _ _ (hb2.later hl3) hb3).mono ?_; rintro e w' ⟨rfl, rfl⟩)
        go_wp2_with (go_at_call 24; refine (join_any C _ f l _ ((hl.below H3).up H3.size) (by omega) (by omega)).mono ?_; rintro e w4 ⟨A4, m4, c4, rfl, hb4, hn4, hc4, hl4⟩)
        have H4 := H3.trans (hl4.mono H3.size)
        have G4 := (hl1.trans ((hl2.trans ((hl3.trans (hl4.mono hl3.size)).mono hl2.size)).mono hl1.size))
        go_wp2_with (go_at_call_of 11 A4; refine (equal_any _ _ _ _ _ _ _ _ _ hb4 (hbv.later G4)).mono ?_; rintro e w' ⟨rfl, rfl⟩)
        go_wp2_with (go_at_call_of 11 A1; refine (equal_any _ _ _ _ _ _ _ _ _ (h.later H4) (hb1.later (hl2.trans ((hl3.trans (hl4.mono hl3.size)).mono hl2.size)))).mono ?_; rintro e w' ⟨rfl, rfl⟩)
        go_wp2_with (go_at_call 9; refine (awake_any _).mono ?_; rintro e w5 ⟨rfl, hl5⟩)
        go_ret
        exact ⟨rfl, H4.trans (hl5.mono H4.size)⟩
end Go.Proofs.Ytfkdjcikmfljdaa

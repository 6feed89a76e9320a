/- PackReads: the Go text of the law answers true for every input, and writes nothing that was there. -/
import Derived.Test.YtfkdjcikmfljdaaRefIn
import Derived.Deep.RegionWith
import Derived.Deep.QuietTactic
import Derived.BigQuiet
namespace Go.Proofs.Ytfkdjcikmfljdaa
open Go.RowKit
set_option linter.unusedVariables false
set_option linter.unusedSimpArgs false

/-- The slice '.slice A n c' reads as these pairs, two cells each. -/
def Asks (w : World) (B : Nat) (A : Option Addr) (n : Nat) (f g : Nat → Int) : Prop :=
  0 < n → ∃ b o, A = some ⟨b, o, none⟩ ∧ b < B ∧ ∀ j, j < n → w.cell? ⟨b, o + j * 2, none⟩ = some (.int .i64 (f j)) ∧ w.cell? ⟨b, o + j * 2 + 1, none⟩ = some (.int .i64 (g j))

theorem int_of_tk {n : Nat} {xs : List Int} {e : Int} (h : xs.length ≤ 5000) : (tk n xs e).2.1.length ≤ 5000 := by have := (tk_len n xs e).2; omega

theorem left_q {lo g : Nat} {xs : List Int} {e : Int} (w : World) (h : Rd w lo g xs e) : Calls Try.prog 36 #[.pointer (some ⟨g, 0, none⟩)] w fun en w' => en = .returned (.int .i64 xs.length) ∧ w' = w := (left_any w h).mono fun _ _ h => ⟨h.1, h.2.symm⟩
theorem err_q {lo g : Nat} {xs : List Int} {e : Int} (w : World) (h : Rd w lo g xs e) : Calls Try.prog 37 #[.pointer (some ⟨g, 0, none⟩)] w fun en w' => en = .returned (.int .i64 e) ∧ w' = w := (err_any w h).mono fun _ _ h => ⟨h.1, h.2.symm⟩
theorem end_q {lo g : Nat} {xs : List Int} {e : Int} (w : World) (h : Rd w lo g xs e) : Calls Try.prog 38 #[.pointer (some ⟨g, 0, none⟩)] w fun en w' => en = .returned (.int .i64 (endV xs e)) ∧ w' = w := (end_any w h).mono fun _ _ h => ⟨h.1, h.2.symm⟩
theorem iend_q {lo g : Nat} {xs : List Int} {e : Int} (w : World) (h : Id w lo g xs e) : Calls Try.prog 39 #[.pointer (some ⟨g, 0, none⟩)] w fun en w' => en = .returned (.int .i64 (endV xs e)) ∧ w' = w := (iend_any w h).mono fun _ _ h => ⟨h.1, h.2.symm⟩
theorem Rd.drewN {w : World} {lo g : Nat} {xs : List Int} {e : Int} (h : Rd w lo g xs e) (n : Nat) : Rd (w.drewN n) lo g xs e := h
theorem Id.drewN {w : World} {lo g : Nat} {xs : List Int} {e : Int} (h : Id w lo g xs e) (n : Nat) : Id (w.drewN n) lo g xs e := h
theorem below_drewN_ {B : Nat} {w w' : World} (h : Below B w w') (n : Nat) : Below B w (w'.drewN n) := ⟨h.os, h.tape, h.output, h.size, h.block⟩
theorem tk_rest {xs : List Int} {e : Int} (h : e ≠ 0 → xs = []) : tk xs.length xs e = (xs, [], e) := by
  by_cases he : e = 0
  · subst he; simp [tk]
  · rw [h he]; simp [tk, he]
theorem tkNum_by {m : Int} {xs : List Int} {e : Int} (h : IsBy xs) : IsBy (tkNum m xs e).2.1 := by
  unfold tkNum
  simp only
  split
  · exact fun _ h => by simp at h
  · exact (tk_by h).2
theorem tkNum_len {m : Int} {xs : List Int} {e : Int} (h : xs.length ≤ 5000) : (tkNum m xs e).2.1.length ≤ 5000 := by
  unfold tkNum
  simp only
  split
  · simp
  · exact int_of_tk h
theorem tkText_by {m : Int} {xs : List Int} {e : Int} (h : IsBy xs) : IsBy (tkText m xs e).2.1 := by
  unfold tkText
  simp only
  split
  · exact fun _ h => by simp at h
  · exact (tk_by (tk_by h).2).2
theorem tkText_len {m : Int} {xs : List Int} {e : Int} (h : xs.length ≤ 5000) : (tkText m xs e).2.1.length ≤ 5000 := by
  unfold tkText
  simp only
  split
  · simp
  · exact int_of_tk (int_of_tk h)
theorem Id.lt {w : World} {lo g : Nat} {xs : List Int} {e : Int} (h : Id w lo g xs e) : g < w.heap.size := by
  obtain ⟨A, n, c, _, hb, _⟩ := h
  exact hb.lt
theorem Id.cells {w : World} {lo g : Nat} {xs : List Int} {e : Int} (h : Id w lo g xs e) : ∃ A c, w.cell? ⟨g, 0, none⟩ = some (.slice A xs.length c) ∧ w.cell? ⟨g, 1, none⟩ = some (.int .i64 e) := by
  obtain ⟨A, n, c, _, hb, hs, _⟩ := h
  obtain rfl := hs.1
  exact ⟨A, c, hb.cell 0, hb.cell 1⟩

set_option maxRecDepth 100000 in
set_option maxHeartbeats 4000000 in
theorem packReads_any (A C : Option Addr) (m c k f : Nat) (b : List Int) (ops ns : Nat → Int) (w : World) (h : Bs w w.heap.size A m b) (hx : IsBy b) (hl : Asks w w.heap.size C k ops ns)
    (ho : ∀ j, j < k → -9223372036854775808 ≤ ops j ∧ ops j ≤ 9223372036854775807) (hn : ∀ j, j < k → -9223372036854775808 ≤ ns j ∧ ns j ≤ 9223372036854775807) :
    Calls Try.prog 5 #[.slice A m c, .slice C k f] w fun e w' => e = .returned (.bool true) ∧ Below w.heap.size w w' := by
  by_cases h1 : 5000 < m
  · go_enter Try.func5, Try.ntmps5
    go_wp2_with (go_at_call 9; refine (awake_any _).mono ?_; rintro e w1 ⟨rfl, hb⟩)
    go_ret
    exact ⟨rfl, hb⟩
  · by_cases h2 : 60 < k
    · go_enter Try.func5, Try.ntmps5
      go_wp2_with (go_at_call 9; refine (awake_any _).mono ?_; rintro e w1 ⟨rfl, hb⟩)
      go_ret
      exact ⟨rfl, hb⟩
    · have hbl := hide (show b.length ≤ 5000 from by have := h.1; omega)
      go_enter Try.func5, Try.ntmps5
      go_wp2_with (go_at_call 25; refine (read_any A m c b _ h (by omega)).mono ?_; rintro e w1 ⟨g1, rfl, hg1, hg1', hr, hl1⟩)
      go_wp2_with (go_at_call 10; refine (clone_new A m c b _ (h.later hl1) (by omega)).mono ?_; rintro e w2 ⟨A2, n2, c2, rfl, hs2, hn2, hc2, hl2⟩)
      have hr2 := (hr.later hl2).later ((Below.refl _ _).alloc (Nat.le_refl _) (.cells #[.slice A2 n2 c2, .int .i64 0] 42))
      have hi2 : Id (w2.alloc (.cells #[.slice A2 n2 c2, .int .i64 0] 42)) w1.heap.size w2.heap.size b 0 := by
        simp only [maxLen] at hc2
        exact ⟨A2, n2, c2, hl2.size, heap_alloc_new w2 _, hs2.later ((Below.refl _ _).alloc (Nat.le_refl _) _), hn2, ⟨by omega, by have := hs2.1; have := h.1; omega⟩, fun h => absurd rfl h⟩
      have H3 := (hl1.trans (hl2.mono hl1.size)).alloc (B := w.heap.size) (Nat.le_trans hl1.size hl2.size) (.cells #[.slice A2 n2 c2, .int .i64 0] 42)
      obtain ⟨g2, hg2⟩ : ∃ g2, g2 = w2.heap.size := ⟨_, rfl⟩
      have hg12 : g1 < w1.heap.size := hg1'
      have hg22 : w1.heap.size ≤ g2 := by have := hl2.size; omega
      go_loopw [7] (fun i wr => ∃ j : Nat, j ≤ k ∧ i = .int .i64 j ∧ (∃ xs e, Rd wr w.heap.size g1 xs e ∧ Id wr w1.heap.size w2.heap.size xs e ∧ IsBy xs ∧ xs.length ≤ 5000) ∧ Below w.heap.size w wr) (fun i _ => k - (intOf i).toNat)
      case atStart => exact ⟨0, Nat.zero_le _, rfl, ⟨b, 0, hr2, hi2, hx, hbl.out⟩, H3⟩
      case round =>
        obtain ⟨j, hj, rfl, ⟨xs, e, hR, hI, hby, hlen⟩, hbr⟩ := hrel
        clear hr2 hi2 hs2 hr
        by_cases hjk : j < k
        · obtain ⟨b', o, rfl, hb', hc'⟩ := hl (by omega)
          obtain ⟨q1, q2⟩ := hc' j hjk
          have q1' := (hbr.cell (p := ⟨b', o + j * 2, none⟩) hb').trans q1
          have q2' := (hbr.cell (p := ⟨b', o + j * 2 + 1, none⟩) hb').trans q2
          obtain ⟨o0, o1⟩ := ho j hjk
          clear q1 q2 hc'
          have hIlt := hI.lt
          go_wp2_with fail
          · obtain ⟨hv0, hv1⟩ := unum_bound (n := 1) (e := e) hby
            have hv2 : unum 1 xs e < 256 := hv1
            clear hv1
            go_wp2_with (first
              | (go_at_call 26; refine (u8_any _ hR hby).mono ?_; rintro en wa ⟨rfl, hRa, hga⟩; have hIa := hI.grown hga (.inl hg12); have hBa := hbr.trans (below_of_grown hga hg1 hbr.size))
              | (go_at_call 27; refine (iu_any _ hIa hby 1 (by omega) (by omega)).mono ?_; rintro en wb ⟨rfl, hIb, hgb⟩; have hRb := hRa.grown hgb (.inr (by omega)); have hBb := hBa.trans (below_of_grown hgb (by omega) hBa.size); obtain ⟨A', c', d0, d1⟩ := hIb.cells))
            go_quiet ((first
              | (go_at_call 36; exact Calls.quiet_of_same (left_q _ hRb))
              | (go_at_call 37; exact Calls.quiet_of_same (err_q _ hRb))
              | (go_at_call 38; exact Calls.quiet_of_same (end_q _ hRb))
              | (go_at_call 39; exact Calls.quiet_of_same (iend_q _ hIb))))
            go_wp2
            go_roundw
            case rel => exact ⟨j + 1, by omega, by go_num, ⟨_, _, hRb.drewN _, hIb.drewN _, (tk_by hby).2, int_of_tk hlen⟩, below_drewN_ hBb _⟩
            case measure => simp [intOf]; omega
          · obtain ⟨hv0, hv1⟩ := unum_bound (n := 4) (e := e) hby
            have hv2 : unum 4 xs e < 4294967296 := hv1
            clear hv1
            go_wp2_with (first
              | (go_at_call 28; refine (u32_any _ hR hby).mono ?_; rintro en wa ⟨rfl, hRa, hga⟩; have hIa := hI.grown hga (.inl hg12); have hBa := hbr.trans (below_of_grown hga hg1 hbr.size))
              | (go_at_call 27; refine (iu_any _ hIa hby 4 (by omega) (by omega)).mono ?_; rintro en wb ⟨rfl, hIb, hgb⟩; have hRb := hRa.grown hgb (.inr (by omega)); have hBb := hBa.trans (below_of_grown hgb (by omega) hBa.size); obtain ⟨A', c', d0, d1⟩ := hIb.cells))
            go_quiet ((first
              | (go_at_call 36; exact Calls.quiet_of_same (left_q _ hRb))
              | (go_at_call 37; exact Calls.quiet_of_same (err_q _ hRb))
              | (go_at_call 38; exact Calls.quiet_of_same (end_q _ hRb))
              | (go_at_call 39; exact Calls.quiet_of_same (iend_q _ hIb))))
            go_wp2
            go_roundw
            case rel => exact ⟨j + 1, by omega, by go_num, ⟨_, _, hRb.drewN _, hIb.drewN _, (tk_by hby).2, int_of_tk hlen⟩, below_drewN_ hBb _⟩
            case measure => simp [intOf]; omega
          · obtain ⟨hv0, hv1⟩ := unum_bound (n := 8) (e := e) hby
            have hv2 : unum 8 xs e < 18446744073709551616 := hv1
            clear hv1
            go_wp2_with (first
              | (go_at_call 29; refine (u64_any _ hR hby).mono ?_; rintro en wa ⟨rfl, hRa, hga⟩; have hIa := hI.grown hga (.inl hg12); have hBa := hbr.trans (below_of_grown hga hg1 hbr.size))
              | (go_at_call 27; refine (iu_any _ hIa hby 8 (by omega) (by omega)).mono ?_; rintro en wb ⟨rfl, hIb, hgb⟩; have hRb := hRa.grown hgb (.inr (by omega)); have hBb := hBa.trans (below_of_grown hgb (by omega) hBa.size); obtain ⟨A', c', d0, d1⟩ := hIb.cells))
            go_quiet ((first
              | (go_at_call 36; exact Calls.quiet_of_same (left_q _ hRb))
              | (go_at_call 37; exact Calls.quiet_of_same (err_q _ hRb))
              | (go_at_call 38; exact Calls.quiet_of_same (end_q _ hRb))
              | (go_at_call 39; exact Calls.quiet_of_same (iend_q _ hIb))))
            go_wp2
            go_roundw
            case rel => exact ⟨j + 1, by omega, by go_num, ⟨_, _, hRb.drewN _, hIb.drewN _, (tk_by hby).2, int_of_tk hlen⟩, below_drewN_ hBb _⟩
            case measure => simp [intOf]; omega
          · obtain ⟨n0, n1⟩ := hn j hjk
            go_wp2_with (first
              | (go_at_call 30; refine (num_any _ hR hby (ns j) n0 n1).mono ?_; rintro en wa ⟨rfl, hRa, hga⟩; have hIa := hI.grown hga (.inl hg12); have hBa := hbr.trans (below_of_grown hga hg1 hbr.size))
              | (go_at_call 31; refine (inum_any _ hIa hby (ns j) n0 n1).mono ?_; rintro en wb ⟨rfl, hIb, hgb⟩; have hRb := hRa.grown hgb (.inr (by omega)); have hBb := hBa.trans (below_of_grown hgb (by omega) hBa.size); obtain ⟨A', c', d0, d1⟩ := hIb.cells))
            go_quiet ((first
              | (go_at_call 36; exact Calls.quiet_of_same (left_q _ hRb))
              | (go_at_call 37; exact Calls.quiet_of_same (err_q _ hRb))
              | (go_at_call 38; exact Calls.quiet_of_same (end_q _ hRb))
              | (go_at_call 39; exact Calls.quiet_of_same (iend_q _ hIb))))
            go_wp2
            go_roundw
            case rel => exact ⟨j + 1, by omega, by go_num, ⟨_, _, hRb.drewN _, hIb.drewN _, (tkNum_by hby), (tkNum_len hlen)⟩, below_drewN_ hBb _⟩
            case measure => simp [intOf]; omega
          · obtain ⟨n0, n1⟩ := hn j hjk
            go_wp2_with (first
              | (go_at_call 32; refine (bytes_any _ hR hby (ns j) n0 n1).mono ?_; rintro en wa ⟨Aa, na, ca, rfl, hba, hRa, hga⟩; have hIa := hI.grown hga (.inl hg12); have hBa := hbr.trans (below_of_grown hga hg1 hbr.size))
              | (go_at_call 33; refine (ibytes_any _ hIa hby (ns j) n0 n1).mono ?_; rintro en wb ⟨Ab, nb, cb, rfl, hbb, hIb, hgb⟩; have hRb := hRa.grown hgb (.inr (by omega)); have hBb := hBa.trans (below_of_grown hgb (by omega) hBa.size); obtain ⟨A', c', d0, d1⟩ := hIb.cells)
              | (go_at_call 11; refine (equal_any _ _ _ _ _ _ _ _ _ (hba.grown hgb (.inl hIlt)).lt_size hbb).mono ?_; rintro en w' ⟨rfl, rfl⟩))
            go_quiet ((first
              | (go_at_call 36; exact Calls.quiet_of_same (left_q _ hRb))
              | (go_at_call 37; exact Calls.quiet_of_same (err_q _ hRb))
              | (go_at_call 38; exact Calls.quiet_of_same (end_q _ hRb))
              | (go_at_call 39; exact Calls.quiet_of_same (iend_q _ hIb))))
            go_wp2
            go_roundw
            case rel => exact ⟨j + 1, by omega, by go_num, ⟨_, _, hRb.drewN _, hIb.drewN _, (tkText_by hby), (tkText_len hlen)⟩, below_drewN_ hBb _⟩
            case measure => simp [intOf]; omega
          · have hcr := hide (rest_any _ hR (by omega))
            have hcr2 := hcr.out
            rw [tk_rest (rd_nil hR)] at hcr2
            have HCR := hide hcr2
            clear hcr hcr2
            go_wp2_with (first
              | (go_at_call 34; refine HCR.out.mono ?_; rintro en wa ⟨Aa, na, ca, rfl, hba, hRa, hga⟩; have hIa := hI.grown hga (.inl hg12); have hBa := hbr.trans (below_of_grown hga hg1 hbr.size))
              | (go_at_call 35; refine (irest_any _ hIa).mono ?_; rintro en wb ⟨Ab, nb, cb, rfl, hbb, hIb, hgb⟩; have hRb := hRa.grown hgb (.inr (by omega)); have hBb := hBa.trans (below_of_grown hgb (by omega) hBa.size); obtain ⟨A', c', d0, d1⟩ := hIb.cells)
              | (go_at_call 11; refine (equal_any _ _ _ _ _ _ _ _ _ (hba.grown hgb (.inl hIlt)).lt_size hbb).mono ?_; rintro en w' ⟨rfl, rfl⟩))
            go_quiet ((first
              | (go_at_call 36; exact Calls.quiet_of_same (left_q _ hRb))
              | (go_at_call 37; exact Calls.quiet_of_same (err_q _ hRb))
              | (go_at_call 38; exact Calls.quiet_of_same (end_q _ hRb))
              | (go_at_call 39; exact Calls.quiet_of_same (iend_q _ hIb))))
            go_wp2
            go_roundw
            case rel => exact ⟨j + 1, by omega, by go_num, ⟨_, _, hRb.drewN _, hIb.drewN _, (fun _ h => by simp at h), (by simp)⟩, below_drewN_ hBb _⟩
            case measure => simp [intOf]; omega
        · go_wp2_with (go_at_call 9; refine (awake_any _).mono ?_; rintro e w5 ⟨rfl, hl5⟩)
          go_ret
          exact ⟨rfl, hbr.trans (hl5.mono hbr.size)⟩
end Go.Proofs.Ytfkdjcikmfljdaa

/-
  The document's answer for poly: the sum, and two numbers added: contracts. Own work.
-/
import Derived.Test.YtcinhofapkddpaaRefP6
namespace Go.Proofs.Ytcinhofapkddpaa
open Go.RowKit
set_option linter.unusedVariables false
set_option linter.unusedSimpArgs false
theorem ownsRow_later {w w' : World} {base e n : Nat} {v : Value} {xs : List Value} (h : w.ownsRow base e 1 v n xs) (hb : Below w.heap.size w w') : w'.ownsRow base e 1 v n xs := by
  refine ⟨h.1, ?_⟩
  rcases h.2 with ⟨rfl, rfl⟩ | ⟨g, cap, cur, rfl, h1, hg, hrest⟩
  · exact .inl ⟨rfl, rfl⟩
  · exact .inr ⟨g, cap, cur, rfl, h1, (hb.block g (Array.getElem?_eq_some_iff.1 hg).1).trans hg, hrest⟩
theorem dg0 : List.replicate 40 (Value.int .i64 0) = vk .i64 (dg 0) := by
  rw [rep_vk]
  exact congrArg (vk .i64) (by decide +kernel : List.replicate 40 (0 : Int) = dg 0)
theorem bv_one1 (x : Int) : [Value.int .u8 x] = bv [x] := rfl
theorem acc_piece {xs : List Int} (h : IsBy xs) (k : Nat) : leN ((xs.drop (16 * k)).take 16 ++ [1]) < 2 * 340282366920938463463374607431768211456 := piece_lt ((h.drop _).take _) (by rw [List.length_take]; omega)
set_option maxRecDepth 100000 in
set_option maxHeartbeats 4000000 in
theorem refSum_any (ks xs : List Int) (A : Option Addr) (m c : Nat) (w : World) (hk : ks.length = 32) (hb : IsBy ks) (hy : IsBy xs) (hbs : Bs w w.heap.size A m xs) (hc : m ≤ c) (hm : m ≤ 1000000) :
    Calls Try.prog 12 #[.agg (bv ks).toArray, .slice A m c] w fun e w' => e = .returned (.agg (bv (pS ks xs)).toArray) ∧ Below w.heap.size w w' := by
  obtain ⟨i0, hi, hz, hsz, hby⟩ := int_info
  obtain ⟨j0, hj, hjz, hjsz, hjby⟩ := u8_info
  have h32 := hide (size32 hk)
  have hR := clN_lt (leN (ks.take 16))
  have hcl := clL_val (ks := ks) (by omega) hb
  have hclb := clL_by hb 16
  have HCL := hide hcl
  have hend : Hid (bv (pS ks xs) = bv (lowB ((accN (clN (leN (ks.take 16))) xs ((xs.length + 15) / 16) + leN (ks.drop 16) : Nat) : Int) 16)) := by
    show bv (pS ks xs) = _
    unfold pS polyL
    rw [endI_acc hR hy]
  have hlx := hbs.1
  have HLX := hide hlx
  have Hk := hide hk
  have hS16 : leN (ks.drop 16) < 340282366920938463463374607431768211456 := by
    have := leN_lt (hb.drop 16)
    rw [List.length_drop, hk] at this
    exact this
  have hKD : ∀ w g, Row w 22 g (bv ks) → Bs w w.heap.size (some ⟨g, 16, none⟩) 16 (ks.drop 16) := fun w g h => by
    have := row_bs_at (off := 16) (n := 16) (B := w.heap.size) h (by rw [Hk.out]; decide) h.lt
    rwa [List.take_of_length_le (by rw [List.length_drop, Hk.out]; decide)] at this
  have HN : ∀ A m c w, Bs w w.heap.size A m (ks.drop 16) → _ := fun A m c w h => number_any (ks.drop 16) A m c w (hb.drop 16) h (by have := h.1; rw [List.length_drop, Hk.out] at this; omega)
  have hCL : ∀ w, _ := fun w => clamp_any ks w hk hb
  have hl16 := clL_len ks 16
  generalize clL ks 16 = cl at *
  generalize leN (ks.drop 16) = S at *
  clear hk hcl hlx
  generalize clN (leN (ks.take 16)) = R at *
  go_enter Try.func12, Try.ntmps12
  go_wp2_with (first
    | (with_reducible refine wl_box rfl 22 (.tmp 0) _ (bv ks) rfl rfl rfl ?_; intro g2 w1 r1 p1 l1 b1)
    | (with_reducible refine wl_alloc rfl 26 _ (bv (List.replicate 16 0)) rfl zero16 rfl ?_; intro g4 w2 r2 p2 l2 b2; have r1' := r1.later b2)
    | (with_reducible refine wl_load_row rfl 22 (.tmp 2) g2 22 _ _ rfl rfl r1' Try.underlying22 rfl h32.out ?_))
  refine (hCL _).mono ?_
  rintro e w3 ⟨gc, rfl, pc, rc, b3⟩
  have s1 := b1.size; have s2 := b2.size; have s3 := b3.size
  have hcb : Bs w3 w3.heap.size (some ⟨gc, 0, none⟩) 16 cl := by
    have := (Row.toOwn rc).bs (B := w3.heap.size) rc.lt
    rwa [hl16] at this
  go_wp2_with fail
  refine (number_any cl _ 16 16 w3 hclb hcb (by decide)).mono ?_
  rintro e w4 ⟨gr, rfl, pr, rr, b4⟩
  rw [HCL.out] at rr
  have s4 := b4.size
  go_wp2_with (first
    | (with_reducible refine wl_make rfl 51 (.const (.int .i64 40)) (.const (.int .i64 40)) rfl 3 i0 (.int .i64 0) Try.underlying51 hi hz hsz rfl .i64 .i64 40 40 40 40 rfl rfl rfl rfl (Nat.le_refl _) (by omega) (by omega) ?_; intro gs w5 rs ps ls b5; rw [dg0] at rs))
  have rk := ((r1'.later b3).later b4).later b5
  have r4 := ((r2.later b3).later b4).later b5
  have rr5 := Row.later rr b5
  have B5 := (((b1.trans (b2.mono (by omega))).trans (b3.mono (by omega))).trans (b4.mono (by omega))).trans (b5.mono (by omega))
  have s5 := b5.size
  clear r1 r1' r2 rc rr hcb
  go_wp2_with fail
  go_loopw [6, 7] (fun sv iv wr => ∃ (k g : Nat), k ≤ (m + 15) / 16 ∧ iv = .int .i64 ((16 * k : Nat) : Int) ∧ sv = .slice (some ⟨g, 0, none⟩) 40 40 ∧ DR wr g (dg (accN R xs k)) ∧ Below w5.heap.size w5 wr) (fun _ iv _ => 16 * ((m + 15) / 16) - (intOf iv).toNat)
  case atStart => exact ⟨0, gs, Nat.zero_le _, rfl, rfl, rs, Below.refl _ _⟩
  case round =>
    clear rs
    obtain ⟨k, g, hk, rfl, rfl, rg, br⟩ := hrel
    by_cases hlt : 16 * k < m
    · have hrr := Row.later rr5 br
      have hbx : Bs wr wr.heap.size A m xs := ((hbs.below B5).up B5.size).later br
      have hpl := acc_piece hy k
      have hacl := accN_lt R xs k
      have hzl : accN R xs k + leN ((xs.drop (16 * k)).take 16 ++ [1]) < 2 ^ 131 := by unfold p130 at hacl; omega
      have hzr' := mul_lt hzl hR
      have hacc : accN R xs (k + 1) = (accN R xs k + leN ((xs.drop (16 * k)).take 16 ++ [1])) * R % p130 := rfl
      have ha40 : accN R xs k < 256 ^ 40 := by rw [c320_eq]; unfold c320; unfold p130 at hacl; omega
      have hpc40 : leN ((xs.drop (16 * k)).take 16 ++ [1]) < 256 ^ 40 := by rw [c320_eq]; unfold c320; omega
      have hz20 : accN R xs k + leN ((xs.drop (16 * k)).take 16 ++ [1]) < 256 ^ 20 := by
        rw [show (256 : Nat) ^ 20 = 1461501637330902918203684832716283019655932542976 from by decide]; omega
      have hr20 : R < 256 ^ 20 := by rw [show (256 : Nat) ^ 20 = 1461501637330902918203684832716283019655932542976 from by decide]; omega
      have hzr : (accN R xs k + leN ((xs.drop (16 * k)).take 16 ++ [1])) * R < 256 ^ 40 := by rw [c320_eq]; unfold c320; omega
      have hkk : 16 * k ≤ 1000000 := by omega
      have hk1 : k + 1 ≤ (m + 15) / 16 := by omega
      have hk16 : 16 * k + 16 ≤ 16 * ((m + 15) / 16) := by omega
      have HAC := hide hacc
      clear hacc hzl hzr' hpl hacl
      generalize hpc : leN ((xs.drop (16 * k)).take 16 ++ [1]) = pc' at *
      have HPC := hide hpc
      clear hpc
      generalize ha1 : accN R xs (k + 1) = a' at *
      have HA1 := hide ha1
      clear ha1
      generalize accN R xs k = a at *
      generalize hp : 16 * k = p at *
      have HP := hide hp
      clear hp
      generalize 16 * ((m + 15) / 16) = top at *
      by_cases hfull : p + 16 ≤ m
      · have hfi : (p : Int) + 16 ≤ (m : Int) := by omega
        have hnf : ¬ (m : Int) < (p : Int) + 16 := by omega
        have hSM : ∀ w, (Instr.sliceAt 23 (.slice A m c) (some (.int .i64 (p : Int))) (some (.int .i64 ((p : Int) + 16))) none).run Try.prog w = .ok (.slice (subA A c p) (p + 16 - p) (c - p)) w := fun w => run_sliceMid (P := Try.prog) w 23 5 Try.underlying23 Try.sizeOf5 A m c .i64 .i64 p (p + 16) (by omega) (by omega)
        have hsub := hbx.sub (I := p) (K := p + 16) (by omega) hfull hc
        rw [Nat.add_sub_cancel_left] at hsub
        have hSM' := hSM
        clear hSM
        have hSM : ∀ w, (Instr.sliceAt 23 (.slice A m c) (some (.int .i64 (p : Int))) (some (.int .i64 ((p : Int) + 16))) none).run Try.prog w = .ok (.slice (subA A c p) 16 (c - p)) w := fun w => by rw [hSM' w, Nat.add_sub_cancel_left]
        clear hlt hSM'
        go_wp2_with (first
          | rw [hSM]
          | (at_builtin; refine wpList_append_bs rfl (.tmp 19) (.tmp 27) _ rfl wr.heap.size 5 j0 Try.underlying23 hj hjz hjsz hjby (.slice none 0 0) 0 [] rfl (World.ownsRow_nil _ _ _ _) wr.heap.size _ 16 _ _ rfl hsub (by omega) (Nat.le_refl _) ?_; intro v1 w6 o6 gr6; have b6 : Below wr.heap.size wr w6 := (Below.refl _ _).grown gr6 (Nat.le_refl _) (fun j hj => absurd hj (by simp [Value.ownBlock])))
          | (with_reducible refine wl_build1 rfl 23 (.const (.int .u8 1)) rfl 5 j0 (.int .u8 0) (.int .u8 1) Try.underlying23 hj hjz hjsz rfl rfl rfl ?_; intro g7 w7 r7 p7 l7 b7; have o7 := ownsRow_later o6 b7; rw [bv_one1] at r7)
          | (at_builtin; refine wpList_append_bs rfl (.tmp 29) (.tmp 30) _ rfl wr.heap.size 5 j0 Try.underlying23 hj hjz hjsz hjby v1 (0 + 16) _ rfl o7 w7.heap.size _ 1 _ [1] rfl ((Row.toOwn r7).bs r7.lt) (by omega) (Nat.le_trans b6.size b7.size) ?_; intro v2 w8 o8 gr8))
        have s6 := b6.size
        have B7 : Below wr.heap.size wr w7 := b6.trans (b7.mono s6)
        have b8 : Below wr.heap.size wr w8 := B7.grown gr8 B7.size (fun j hj => (o7.lt j hj).1)
        rw [List.nil_append] at o8
        obtain ⟨A8, c8, rfl, hb8, _, _⟩ := ownsRow_bs o8
        go_wp2_with fail
        refine (number_any _ A8 _ c8 w8 (((hy.drop p).take 16).app (by_of_all (by decide))) hb8 (by omega)).mono ?_
        rintro e9 w9 ⟨g9, rfl, p9, r9, b9⟩
        have B9 := b8.trans (b9.mono b8.size)
        have rg9 := Row.later rg B9
        rw [HPC.out] at r9
        go_wp2_with fail
        refine (rplus_any g g9 (dg a) (dg pc') w9 (dg_len _) (dg_len _) (dg_nn _) (dg_nn _) (fun i h => Int.le_trans (dg_le h) (by decide)) (fun i h => Int.le_trans (dg_le h) (by decide)) rg9 r9).mono ?_
        rintro e10 w10 ⟨g10, rfl, p10, r10, b10⟩
        rw [dg_val ha40, dg_val hpc40] at r10
        have B10 := B9.trans (b10.mono B9.size)
        have rr10 := Row.later hrr B10
        go_wp2_with fail
        refine (rtimes_any g10 gr (dg (a + pc')) (dg R) w10 (dg_len _) (dg_len _) (dg_by _) (dg_by _) r10 rr10).mono ?_
        rintro e11 w11 ⟨g11, rfl, p11, r11, b11⟩
        rw [dg_take (by decide), dg_take (by decide), Nat.mod_eq_of_lt hz20, Nat.mod_eq_of_lt hr20] at r11
        have B11 := B10.trans (b11.mono B10.size)
        go_wp2_with fail
        refine (rest_any g11 ((a + pc') * R) w11 hzr r11).mono ?_
        rintro e12 w12 ⟨g12, rfl, r12, b12⟩
        have B12 := B11.trans (b12.mono B11.size)
        rw [← HAC.out] at r12
        go_wp2
        refine ⟨⟨k + 1, g12, by omega, ?_, rfl, by rw [HA1.out]; exact r12, br.trans (B12.mono br.size)⟩, ?_⟩
        · rw [Nat.mul_succ, HP.out]
          rfl
        · simp [intOf]
          omega
      · have hfi : ¬ ((p : Int) + 16 ≤ (m : Int)) := by omega
        have hnf : (m : Int) < (p : Int) + 16 := by omega
        have hSM := fun w => run_sliceMid (P := Try.prog) w 23 5 Try.underlying23 Try.sizeOf5 A m c .i64 .i64 p m (by omega) (by omega)
        have hsub := hbx.sub (I := p) (K := m) (by omega) (Nat.le_refl _) hc
        rw [show (xs.drop p).take (m - p) = (xs.drop p).take 16 by rw [List.take_of_length_le (by rw [List.length_drop, HLX.out]; exact Nat.le_refl _), List.take_of_length_le (by rw [List.length_drop, HLX.out]; omega)]] at hsub
        have hlti : (p : Int) < (m : Int) := by omega
        go_wp2_with (first
          | rw [hSM]
          | (at_builtin; refine wpList_append_bs rfl (.tmp 19) (.tmp 27) _ rfl wr.heap.size 5 j0 Try.underlying23 hj hjz hjsz hjby (.slice none 0 0) 0 [] rfl (World.ownsRow_nil _ _ _ _) wr.heap.size _ (m - p) _ _ rfl hsub (by omega) (Nat.le_refl _) ?_; intro v1 w6 o6 gr6; have b6 : Below wr.heap.size wr w6 := (Below.refl _ _).grown gr6 (Nat.le_refl _) (fun j hj => absurd hj (by simp [Value.ownBlock])))
          | (with_reducible refine wl_build1 rfl 23 (.const (.int .u8 1)) rfl 5 j0 (.int .u8 0) (.int .u8 1) Try.underlying23 hj hjz hjsz rfl rfl rfl ?_; intro g7 w7 r7 p7 l7 b7; have o7 := ownsRow_later o6 b7; rw [bv_one1] at r7)
          | (at_builtin; refine wpList_append_bs rfl (.tmp 29) (.tmp 30) _ rfl wr.heap.size 5 j0 Try.underlying23 hj hjz hjsz hjby v1 (0 + (m - p)) _ rfl o7 w7.heap.size _ 1 _ [1] rfl ((Row.toOwn r7).bs r7.lt) (by omega) (Nat.le_trans b6.size b7.size) ?_; intro v2 w8 o8 gr8))
        have s6 := b6.size
        have B7 : Below wr.heap.size wr w7 := b6.trans (b7.mono s6)
        have b8 : Below wr.heap.size wr w8 := B7.grown gr8 B7.size (fun j hj => (o7.lt j hj).1)
        rw [List.nil_append] at o8
        obtain ⟨A8, c8, rfl, hb8, _, _⟩ := ownsRow_bs o8
        go_wp2_with fail
        refine (number_any _ A8 _ c8 w8 (((hy.drop p).take 16).app (by_of_all (by decide))) hb8 (by omega)).mono ?_
        rintro e9 w9 ⟨g9, rfl, p9, r9, b9⟩
        have B9 := b8.trans (b9.mono b8.size)
        have rg9 := Row.later rg B9
        rw [HPC.out] at r9
        go_wp2_with fail
        refine (rplus_any g g9 (dg a) (dg pc') w9 (dg_len _) (dg_len _) (dg_nn _) (dg_nn _) (fun i h => Int.le_trans (dg_le h) (by decide)) (fun i h => Int.le_trans (dg_le h) (by decide)) rg9 r9).mono ?_
        rintro e10 w10 ⟨g10, rfl, p10, r10, b10⟩
        rw [dg_val ha40, dg_val hpc40] at r10
        have B10 := B9.trans (b10.mono B9.size)
        have rr10 := Row.later hrr B10
        go_wp2_with fail
        refine (rtimes_any g10 gr (dg (a + pc')) (dg R) w10 (dg_len _) (dg_len _) (dg_by _) (dg_by _) r10 rr10).mono ?_
        rintro e11 w11 ⟨g11, rfl, p11, r11, b11⟩
        rw [dg_take (by decide), dg_take (by decide), Nat.mod_eq_of_lt hz20, Nat.mod_eq_of_lt hr20] at r11
        have B11 := B10.trans (b11.mono B10.size)
        go_wp2_with fail
        refine (rest_any g11 ((a + pc') * R) w11 hzr r11).mono ?_
        rintro e12 w12 ⟨g12, rfl, r12, b12⟩
        have B12 := B11.trans (b12.mono B11.size)
        rw [← HAC.out] at r12
        go_wp2
        refine ⟨⟨k + 1, g12, by omega, ?_, rfl, by rw [HA1.out]; exact r12, br.trans (B12.mono br.size)⟩, ?_⟩
        · rw [Nat.mul_succ, HP.out]
          rfl
        · simp [intOf]
          omega
    · have hkk : k = (m + 15) / 16 := by omega
      have hnl : ¬ ((16 * k : Nat) : Int) < (m : Int) := by omega
      have hEnd := hend.out
      rw [HLX.out, ← hkk] at hEnd
      have hacl := accN_lt R xs k
      have ha40 : accN R xs k < 256 ^ 40 := by rw [c320_eq]; unfold c320; unfold p130 at hacl; omega
      have hS40 : S < 256 ^ 40 := by rw [c320_eq]; unfold c320; omega
      have HE := hide hEnd
      clear hEnd hend hacl hkk hk hlt
      generalize accN R xs k = a at *
      generalize 16 * k = p at *
      have rk2 := rk.later br
      have s5 := br.size
      have r42 := r4.later br
      have BR := B5.trans (br.mono B5.size)
      have lz : (bv (List.replicate 16 0)).length = (bv (pS ks xs)).length := by rw [bv_len, bv_len, pS_len, List.length_replicate]
      have z16 := size16 (pS_len ks xs)
      go_wp2_with fail
      refine (HN _ 16 16 wr (hKD wr g2 rk2)).mono ?_
      rintro e7 w7 ⟨g7, rfl, p7, r7, b7⟩
      have rg7 := Row.later rg b7
      go_wp2_with fail
      refine (rplus_any g g7 (dg a) (dg S) w7 (dg_len _) (dg_len _) (dg_nn _) (dg_nn _) (fun i h => Int.le_trans (dg_le h) (by decide)) (fun i h => Int.le_trans (dg_le h) (by decide)) rg7 r7).mono ?_
      rintro e8 w8 ⟨g8, rfl, p8, r8, b8⟩
      rw [dg_val ha40, dg_val hS40] at r8
      go_wp2_with fail
      refine (bytes16_any g8 (a + S) w8 r8).mono ?_
      rintro e9 w9 ⟨rfl, b9⟩
      rw [← HE.out]
      have s7 := b7.size; have s8 := b8.size; have s9 := b9.size
      have r43 := ((r42.later b7).later b8).later b9
      go_wp2_with (first
        | (with_reducible refine wl_store_row rfl 26 (.tmp 4) (.tmp 43) g4 26 _ (bv (pS ks xs)) rfl rfl rfl r43 z16 lz (bv_one _) ?_; intro w10 r10 o10))
      refine bodyPost_ret (v := .agg (bv (pS ks xs)).toArray) ?_ rfl ⟨rfl, ?_⟩
      · exact results_cell_row Try.results12 _ _ g4 26 _ (0, 0) _ rfl r10 Try.underlying26 rfl (by simpa using z16)
      · exact (((BR.trans (b7.mono BR.size)).trans (b8.mono (by have := BR.size; omega))).trans (b9.mono (by have := BR.size; omega))).trans (o10.below (by omega))
/-! ### Two numbers added -/
def addL (xs ys : List Int) : List Int := lowB ((leN xs + leN ys : Nat) : Int) 16
end Go.Proofs.Ytcinhofapkddpaa

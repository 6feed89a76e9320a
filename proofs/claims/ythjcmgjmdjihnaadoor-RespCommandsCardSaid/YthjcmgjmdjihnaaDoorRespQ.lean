/-
  The law RespPieces: the walk. Own work.
-/
import Derived.Test.YthjcmgjmdjihnaaDoorRespP
namespace Go.Proofs.YthjcmgjmdjihnaaDoor
open Go.RowKit Go.Shelf
set_option linter.unusedVariables false
set_option linter.unusedSimpArgs false
theorem tmod_nn {a b : Int} (h : 0 ≤ a) : a.tmod b = a % b := Int.tmod_eq_emod_of_nonneg h
set_option maxRecDepth 100000 in
set_option maxHeartbeats 4000000 in
theorem pieces_any (W : World) (b : Wd) (cu cv : Int) (A0 : Option Addr) (c0 : Nat) (hb : Bs W W.heap.size A0 b.length (nb b)) (hc : b.length ≤ c0) (u0 : 0 ≤ cu) (u1 : cu < 65536) (v0 : 0 ≤ cv) (v1 : cv < 65536) (hT : TabV W) :
    Calls Tryd.prog 4 #[.slice A0 b.length c0, .agg (vk .u16 [cu, cv]).toArray] W fun e w' => e = .returned (.bool true) ∧ Below W.heap.size W w' := by
  have hTb := hide (TabB.of hT)
  have HA := hide (fun (w : World) (hw : Below W.heap.size W w) => awake_any w (hTb.out.below hw).here)
  by_cases hbig : b.length ≤ 6000
  · have hbI : ¬ (6000 : Int) < (b.length : Int) := by omega
    obtain ⟨I, hI, hIe⟩ : ∃ I : Nat, I ≤ b.length ∧ Hid (cu.tmod ((b.length + 1 : Nat) : Int) = (I : Int)) := by
      rw [tmod_nn u0]
      have p1 := Int.emod_nonneg cu (show ((b.length + 1 : Nat) : Int) ≠ 0 by omega)
      have p2 := Int.emod_lt_of_pos cu (show (0 : Int) < ((b.length + 1 : Nat) : Int) by omega)
      exact ⟨(cu % ((b.length + 1 : Nat) : Int)).toNat, by omega, hide (by omega)⟩
    obtain ⟨K, hIK, hKm, hKe⟩ : ∃ K : Nat, I ≤ K ∧ K ≤ b.length ∧ Hid (cv.tmod ((b.length - I + 1 : Nat) : Int) = ((K - I : Nat) : Int)) := by
      rw [tmod_nn v0]
      have p1 := Int.emod_nonneg cv (show ((b.length - I + 1 : Nat) : Int) ≠ 0 by omega)
      have p2 := Int.emod_lt_of_pos cv (show (0 : Int) < ((b.length - I + 1 : Nat) : Int) by omega)
      exact ⟨I + (cv % ((b.length - I + 1 : Nat) : Int)).toNat, by omega, by omega, hide (by omega)⟩
    have a1 := hide (show IntKind.i64.wrap ((b.length : Int) + 1) = ((b.length + 1 : Nat) : Int) from wrap_id (by omega) (by omega) (by omega))
    have a2 := hide (show IntKind.i64.wrap ((b.length : Int) - (I : Int)) = ((b.length - I : Nat) : Int) from wrap_id (by omega) (by omega) (by omega))
    have a3 := hide (show IntKind.i64.wrap (((b.length - I : Nat) : Int) + 1) = ((b.length - I + 1 : Nat) : Int) from wrap_id (by omega) (by omega) (by omega))
    have a4 := hide (show IntKind.i64.wrap ((I : Int) + ((K - I : Nat) : Int)) = ((K : Nat) : Int) from wrap_id (by omega) (by omega) (by omega))
    have n1 := hide (show ((b.length + 1 : Nat) : Int) ≠ 0 by omega)
    have n2 := hide (show ((b.length - I + 1 : Nat) : Int) ≠ 0 by omega)
    have hS1 := fun w => run_sliceTo (P := Tryd.prog) w 26 5 1 Tryd.underlying26 Tryd.sizeOf5 A0 b.length c0 .i64 (I : Int) I rfl (Nat.le_trans hI hc)
    have hS2 := fun w => run_sliceMid (P := Tryd.prog) w 26 5 Tryd.underlying26 Tryd.sizeOf5 A0 b.length c0 .i64 .i64 I K hIK (Nat.le_trans hKm hc)
    have hS3 := fun w => run_sliceFrom (P := Tryd.prog) w 26 5 Tryd.underlying26 Tryd.sizeOf5 A0 b.length c0 .i64 K hKm
    have l1 : (b.take I).length = I := by rw [List.length_take]; omega
    have l2 : ((b.drop I).take (K - I)).length = K - I := by rw [List.length_take, List.length_drop]; omega
    have l3 : (b.drop K).length = b.length - K := by rw [List.length_drop]
    have X1 := hide (show ∀ w', Below W.heap.size W w' → Bs w' w'.heap.size A0 (b.take I).length (nb (b.take I)) from fun w' hw => by
      obtain ⟨q1, q2, q3⟩ := (BsV.cut hb hc I hI).len
      exact (q2.below hw).up hw.size)
    have X2 := hide (show ∀ w', Below W.heap.size W w' → Bs w' w'.heap.size (subA A0 c0 I) ((b.drop I).take (K - I)).length (nb ((b.drop I).take (K - I))) from fun w' hw => by
      have := ((hb.below hw).sub (cap := c0) hIK hKm hc).up hw.size
      rw [l2, ← nb_take, ← nb_drop]
      exact this)
    have X3 := hide (show ∀ w', Below W.heap.size W w' → Bs w' w'.heap.size (subA A0 c0 K) (b.drop K).length (nb (b.drop K)) from fun w' hw => by
      have := ((hb.below hw).sub (cap := c0) hKm (Nat.le_refl _) hc).up hw.size
      rw [List.take_of_length_le (by rw [List.length_drop, nb_len]; exact Nat.le_refl _)] at this
      rw [l3, ← nb_drop]
      exact this)
    have X0 := hide (show ∀ w', Below W.heap.size W w' → Bs w' w'.heap.size A0 b.length (nb b) from fun w' hw => (hb.below hw).up hw.size)
    have hcat : b.take I ++ (b.drop I).take (K - I) ++ b.drop K = b := by
      rw [← List.take_add, show I + (K - I) = K by omega, List.take_append_drop]
    have hmath := pieces_math (b.take I) ((b.drop I).take (K - I)) (b.drop K)
    rw [hcat] at hmath
    replace hmath := hide hmath
    have hb69 := hide hbig
    have hcnt := hide (pars_count b)
    have hsht := hide (pars_short b)
    obtain ⟨nn, hnn⟩ : ∃ n, n = b.length := ⟨_, rfl⟩
    rw [← hnn] at hbI a1 a2 a3 hIe hKe n1 n2 hS1 hS2 hS3 l3 ⊢
    obtain ⟨d1, hd1⟩ : ∃ n, n = K - I := ⟨_, rfl⟩
    obtain ⟨d2, hd2⟩ : ∃ n, n = nn - I := ⟨_, rfl⟩
    rw [← hd1] at hKe a4
    rw [← hd2] at a2 a3 hKe n2
    replace hnn := hide hnn
    replace hd1 := hide hd1
    replace hd2 := hide hd2
    have LB1 := hide l1
    have LB2 := hide l2
    have LB3 := hide l3
    have hI9 := hide hI
    have hK9 := hide hKm
    have hIK9 := hide hIK
    clear hb hc hT hbig hI hKm hIK hcat l1 l2 l3
    go_enter Tryd.func4, Tryd.ntmps4
    go_wp2_with (first
      | (with_reducible refine wl_box rfl 38 (.tmp 1) _ (vk .u16 [cu, cv]) rfl rfl rfl ?_; intro g3 w1 r1 p1 l1 b1; have e0 := r1.cell (j := 0) (v := .int .u16 cu) rfl; have e1 := r1.cell (j := 1) (v := .int .u16 cv) rfl)
      | (with_reducible refine wl_run (o := ⟨some 27, _, _, _, _, _⟩) rfl (.int .i64 ((nn + 1 : Nat) : Int)) (run_addZ (.tmp 26) (.const (.int .i64 1)) rfl rfl rfl a1.out) ?_)
      | (with_reducible refine wl_run (o := ⟨some 28, _, _, _, _, _⟩) rfl (.int .i64 (I : Int)) (run_remZ (.tmp 24) (.tmp 27) rfl rfl rfl n1.out hIe.out) ?_)
      | (with_reducible refine wl_run (o := ⟨some 36, _, _, _, _, _⟩) rfl (.int .i64 (d2 : Int)) (run_subZ (.tmp 34) (.tmp 35) rfl rfl rfl a2.out) ?_)
      | (with_reducible refine wl_run (o := ⟨some 37, _, _, _, _, _⟩) rfl (.int .i64 ((d2 + 1 : Nat) : Int)) (run_addZ (.tmp 36) (.const (.int .i64 1)) rfl rfl rfl a3.out) ?_)
      | (with_reducible refine wl_run (o := ⟨some 38, _, _, _, _, _⟩) rfl (.int .i64 (d1 : Int)) (run_remZ (.tmp 32) (.tmp 37) rfl rfl rfl n2.out hKe.out) ?_)
      | (with_reducible refine wl_run (o := ⟨some 39, _, _, _, _, _⟩) rfl (.int .i64 ((K : Nat) : Int)) (run_addZ (.tmp 29) (.tmp 38) rfl rfl rfl a4.out) ?_))
    have hm2 : ∀ (F1 F2 F3 FB : List (List Wd) × Wd × Nat), F1 = feedL [] 0 (b.take I) → F2 = feedL F1.2.1 F1.2.2 ((b.drop I).take (K - I)) → F3 = feedL F2.2.1 F2.2.2 (b.drop K) → FB = feedL [] 0 b → FB.1 = F1.1 ++ F2.1 ++ F3.1 ∧ FB.2 = F3.2 := by
      intro F1 F2 F3 FB e1 e2 e3 e4
      subst e1; subst e2; subst e3; subst e4
      exact hmath.out
    obtain ⟨F1, hF1⟩ : ∃ F, F = feedL [] 0 (b.take I) := ⟨_, rfl⟩
    obtain ⟨F2, hF2⟩ : ∃ F, F = feedL F1.2.1 F1.2.2 ((b.drop I).take (K - I)) := ⟨_, rfl⟩
    obtain ⟨F3, hF3⟩ : ∃ F, F = feedL F2.2.1 F2.2.2 (b.drop K) := ⟨_, rfl⟩
    obtain ⟨FB, hFB⟩ : ∃ F, F = feedL [] 0 b := ⟨_, rfl⟩
    have hm3 := hide (hm2 F1 F2 F3 FB hF1 hF2 hF3 hFB)
    have q1 := hide (show F1.2.1.length ≤ I by rw [hF1]; exact Nat.le_trans feed_len (by rw [LB1.out]; simp))
    have q2 := hide (show F2.2.1.length ≤ K by
      have := q1.out
      have h2 : F2.2.1.length ≤ F1.2.1.length + ((b.drop I).take (K - I)).length := by rw [hF2]; exact feed_len
      rw [LB2.out] at h2
      have := hIK9.out
      omega)
    have hLB := hide (show FB.1.length ≤ 100000 by rw [hFB, feed_first]; exact Nat.le_trans hcnt.out (Nat.le_trans hb69.out (by decide)))
    have hLs := hide (show ∀ l ∈ FB.1, l.length ≤ 1000 by rw [hFB, feed_first]; intro l hl; exact Nat.le_trans (hsht.out l hl) (by decide))
    replace hF1 := hide hF1
    replace hF2 := hide hF2
    replace hF3 := hide hF3
    replace hFB := hide hFB
    clear hm2 r1 e0 e1
    refine (new_ps w1).mono ?_
    rintro e w2 ⟨gp, rfl, pp2, p2, lp2, b2⟩
    have B2 := b1.trans (b2.mono b1.size)
    go_wp2_with fail
    refine (new_ps w2).mono ?_
    rintro e w3 ⟨gq, rfl, pq3, p3, lq3, b3⟩
    have B3 := B2.trans (b3.mono B2.size)
    have pp3 := pp2.later b3
    have hgpq : gp ≠ gq := by omega
    have HF0 := feed_any w3 gp w1.heap.size _ [] 0 b A0 c0 pp3 (X0.out w3 B3) ((hTb.out.below B3).up b1.size) p2 (by have := hb69.out; simp; omega)
    unfold FeedRes at HF0
    rw [← hFB.out, ← hnn.out] at HF0
    have pq39 := hide pq3
    clear pp2 pp3 pq3
    go_wp2_with fail
    refine HF0.mono ?_
    rintro e w4 ⟨lv, vp, rfl, oc4, pp4, hv4, bz4⟩
    clear HF0
    have hw4 := bz4.size
    have B34 : Below w1.heap.size w3 w4 := bz4.below (by intro k hk; simp [ownL, Value.ownBlock] at hk; omega) (Nat.le_trans b2.size b3.size)
    have B4 : Below W.heap.size W w4 := B3.trans (B34.mono b1.size)
    have hvp : ∀ k, vp.ownBlock = some k → w3.heap.size ≤ k ∧ k < w4.heap.size := fun k hk => ⟨(hv4 k hk).elim (fun h => by cases h) id, (pp4.2.1.lt k hk).2⟩
    have pq4 : PsAt w4 gq w2.heap.size (.slice none 0 0) [] 0 := pq39.out.butz bz4 (by simp [ownL, Value.ownBlock]; omega) (by intro k _ h; cases h)
    have HF1 := feed_any w4 gq w2.heap.size _ [] 0 (b.take I) A0 c0 pq4 (X1.out w4 B4) ((hTb.out.below B4).up B2.size) p3 (by rw [LB1.out]; have := hI9.out; have := hb69.out; simp; omega)
    unfold FeedRes at HF1
    rw [← hF1.out, LB1.out] at HF1
    have oc49 := hide oc4
    have pp49 := hide pp4
    replace hvp := hide hvp
    clear oc4 pp4 hv4 bz4 pq4 pq39
    go_wp2_with fail
    refine HF1.mono ?_
    rintro e w5 ⟨lv1, vq1, rfl, oc15, pq5, hv5, bz5⟩
    clear HF1
    have hw5 := bz5.size
    have B45 : Below w2.heap.size w4 w5 := bz5.below (by intro k hk; simp [ownL, Value.ownBlock] at hk; omega) (Nat.le_trans b3.size hw4)
    have B5 : Below W.heap.size W w5 := B4.trans (B45.mono B2.size)
    have hq1 : ∀ k, vq1.ownBlock = some k → w4.heap.size ≤ k := fun k hk => (hv5 k hk).elim (fun h => by cases h) id
    have hS5 : ∀ k ∈ gq :: ownL (.slice none 0 0), k = gq := by intro k hk; simpa [ownL, Value.ownBlock] using hk
    have oc5 := oc49.out.butz bz5 (by intro k hk; have := hS5 k hk; omega)
    have pp5 := pp49.out.butz bz5 (by intro hm; exact hgpq (hS5 _ hm)) (by intro k hk h; have := hS5 k hk; have := (hvp.out k h).1; omega)
    have HF2 := feed_any w5 gq w2.heap.size vq1 F1.2.1 F1.2.2 ((b.drop I).take (K - I)) (subA A0 c0 I) (c0 - I) pq5 (X2.out w5 B5) ((hTb.out.below B5).up B2.size) p3 (by rw [LB2.out]; have := q1.out; have := hK9.out; have := hIK9.out; have := hb69.out; omega)
    unfold FeedRes at HF2
    rw [← hF2.out, LB2.out] at HF2
    have oc59 := hide oc5
    have oc159 := hide oc15
    have pp59 := hide pp5
    have pq59 := hide pq5
    clear oc5 oc15 pp5 pq5 hv5 bz5 oc49 pp49
    go_wp2_with fail
    refine HF2.mono ?_
    rintro e w6 ⟨lv2, vq2, rfl, oc26, pq6, hv6, bz6⟩
    clear HF2
    have hw6 := bz6.size
    have hS6 : ∀ k ∈ gq :: ownL vq1, k = gq ∨ w4.heap.size ≤ k := by
      intro k hk
      rcases List.mem_cons.1 hk with rfl | hk
      · exact .inl rfl
      · unfold ownL at hk
        cases ho : vq1.ownBlock with
        | none => rw [ho] at hk; simp at hk
        | some q => rw [ho] at hk; simp at hk; subst hk; exact .inr (hq1 _ ho)
    have B56 : Below w2.heap.size w5 w6 := bz6.below (by intro k hk; rcases hS6 k hk with h | h <;> omega) (Nat.le_trans b3.size (Nat.le_trans hw4 hw5))
    have B6 : Below W.heap.size W w6 := B5.trans (B56.mono B2.size)
    have hq2 : ∀ k, vq2.ownBlock = some k → w4.heap.size ≤ k := fun k hk => (hv6 k hk).elim (fun h => hq1 k h) (fun h => Nat.le_trans hw5 h)
    have oc6 := oc59.out.fed bz6 pq59.out.2.1 lq3
    have oc16 := oc159.out.fed bz6 pq59.out.2.1 (Nat.lt_of_lt_of_le lq3 hw4)
    have pp6 := pp59.out.butz bz6 (by intro hm; rcases hS6 _ hm with h | h; exact hgpq h; omega) (by intro k hk h; have := hvp.out k h; rcases hS6 k hk with h' | h' <;> omega)
    have HF3 := feed_any w6 gq w2.heap.size vq2 F2.2.1 F2.2.2 (b.drop K) (subA A0 c0 K) (c0 - K) pq6 (X3.out w6 B6) ((hTb.out.below B6).up B2.size) p3 (by rw [LB3.out]; have := q2.out; have := hK9.out; have := hb69.out; have := hnn.out; omega)
    unfold FeedRes at HF3
    rw [← hF3.out, LB3.out] at HF3
    have oc69 := hide oc6
    have oc169 := hide oc16
    have oc269 := hide oc26
    have pp69 := hide pp6
    have pq69 := hide pq6
    clear oc6 oc16 oc26 pp6 pq6 hv6 bz6 oc59 oc159 pp59 pq59
    go_wp2_with fail
    refine HF3.mono ?_
    rintro e w7 ⟨lv3, vq3, rfl, oc37, pq7, hv7, bz7⟩
    clear HF3
    have hw7 := bz7.size
    have hS7 : ∀ k ∈ gq :: ownL vq2, k = gq ∨ w4.heap.size ≤ k := by
      intro k hk
      rcases List.mem_cons.1 hk with rfl | hk
      · exact .inl rfl
      · unfold ownL at hk
        cases ho : vq2.ownBlock with
        | none => rw [ho] at hk; simp at hk
        | some q => rw [ho] at hk; simp at hk; subst hk; exact .inr (hq2 _ ho)
    have B67 : Below w2.heap.size w6 w7 := bz7.below (by intro k hk; rcases hS7 k hk with h | h <;> omega) (Nat.le_trans b3.size (Nat.le_trans hw4 (Nat.le_trans hw5 hw6)))
    have B7 : Below W.heap.size W w7 := B6.trans (B67.mono B2.size)
    have oc7 := oc69.out.fed bz7 pq69.out.2.1 lq3
    have oc17 := oc169.out.fed bz7 pq69.out.2.1 (Nat.lt_of_lt_of_le lq3 hw4)
    have oc27 := oc269.out.fed bz7 pq69.out.2.1 (Nat.lt_of_lt_of_le lq3 (Nat.le_trans hw4 hw5))
    have pp7 := pp69.out.butz bz7 (by intro hm; rcases hS7 _ hm with h | h; exact hgpq h; omega) (by intro k hk h; have := hvp.out k h; rcases hS7 k hk with h' | h' <;> omega)
    clear oc69 oc169 oc269 pp69 pq69 hv7 bz7
    have hFl := hide (show FB.1.length = F1.1.length + F2.1.length + F3.1.length by rw [hm3.out.1, List.length_append, List.length_append])
    have e22 : FB.2.2 = F3.2.2 := congrArg Prod.snd hm3.out.2
    have e21 : FB.2.1 = F3.2.1 := congrArg Prod.fst hm3.out.2
    rw [e21, e22] at pp7
    rw [e22]
    have hw37 : w3.heap.size ≤ w7.heap.size := Nat.le_trans hw4 (Nat.le_trans hw5 (Nat.le_trans hw6 hw7))
    obtain ⟨vs1, o1, hl1, N1⟩ := (oc17.lo hw4).parts
    obtain ⟨vs2, o2, hl2, N2⟩ := (oc27.lo (Nat.le_trans hw4 hw5)).parts
    obtain ⟨vs3, o3, hl3, N3⟩ := (oc37.lo (Nat.le_trans hw4 (Nat.le_trans hw5 hw6))).parts
    obtain ⟨X1a, Y1, rfl⟩ := own_slB o1
    obtain ⟨X2a, Y2, rfl⟩ := own_slB o2
    obtain ⟨X3a, Y3, rfl⟩ := own_slB o3
    obtain ⟨il, hil, hlz, hls, hlb⟩ := liInfo
    have h01 : 0 < 1 := by decide
    obtain ⟨m1, hm1⟩ : ∃ n, n = F1.1.length := ⟨_, rfl⟩
    obtain ⟨m2, hm2⟩ : ∃ n, n = F2.1.length := ⟨_, rfl⟩
    obtain ⟨m3, hm3'⟩ : ∃ n, n = F3.1.length := ⟨_, rfl⟩
    rw [← hm1, ← hm2, ← hm3'] at hFl
    rw [← hm1] at o1 hl1 ⊢
    rw [← hm2] at o2 hl2 ⊢
    rw [← hm3'] at o3 hl3 ⊢
    have hs1l := hide (show vs1.length = m1 * 1 by omega)
    have hs2l := hide (show vs2.length = m2 * 1 by omega)
    have hs3l := hide (show vs3.length = m3 * 1 by omega)
    have hs1o := hide (own_one1 N1 (hl1.trans hm1))
    have hs2o := hide (own_one1 N2 (hl2.trans hm2))
    have hs3o := hide (own_one1 N3 (hl3.trans hm3'))
    have hs1m := hide (show 0 + m1 ≤ maxLen by simp only [maxLen]; have := hFl.out; have := hLB.out; omega)
    have hs2m := hide (show 0 + m1 + m2 ≤ maxLen by simp only [maxLen]; have := hFl.out; have := hLB.out; omega)
    have hs3m := hide (show 0 + m1 + m2 + m3 ≤ maxLen by simp only [maxLen]; have := hFl.out; have := hLB.out; omega)
    have hs1b := hide (show (0 + m1) * 24 ≤ 140737488355328 by have := hFl.out; have := hLB.out; omega)
    have hs2b := hide (show (0 + m1 + m2) * 24 ≤ 140737488355328 by have := hFl.out; have := hLB.out; omega)
    have hs3b := hide (show (0 + m1 + m2 + m3) * 24 ≤ 140737488355328 by have := hFl.out; have := hLB.out; omega)
    have cw7 := hide oc7.cmv
    have N19 := hide N1
    have N29 := hide N2
    have N39 := hide N3
    have pp79 := hide pp7
    have pq79 := hide pq7
    have hm19 := hide hm1
    have hm29 := hide hm2
    have hm39 := hide hm3'
    have hl19 := hide hl1
    have hl29 := hide hl2
    have hl39 := hide hl3
    clear oc7 oc17 oc27 oc37 pp7 pq7 N1 N2 N3 hl1 hl2 hl3 hm1 hm2 hm3' e22 e21 hq1 hq2 hS5 hS6 hS7 hgpq
    have o19 := hide o1
    have o29 := hide o2
    have o39 := hide o3
    clear o1 o2 o3
    go_wp2_with (first
      | ((with_reducible refine wl_build0N (o := ⟨some 73, _, _, _, _, _⟩) rfl 27 rfl 40 il 1 Tryd.underlying27 hil hls ?_); intro v8 w8 own8 B8; have s1 := own_src (own_later o19.out B8); have hbs1 := B8.size)
      | ((at_builtin; with_reducible refine wl_append_src (o := ⟨some 75, _, _, _, _, _⟩) rfl (.tmp 73) (.tmp 74) 27 rfl w7.heap.size 40 il _ 1 24 Tryd.underlying27 hil hlz hls hlb rfl h01 v8 0 [] rfl own8 X1a m1 Y1 vs1 rfl hs1l.out s1.2.1 s1.2.2 hs1o.out hs1m.out hs1b.out hbs1 ?_); intro v9 w9 own9 gr9; have B9 : Below w7.heap.size w7 w9 := B8.grown gr9 B8.size (fun k hk => (own8.lt k hk).1); have s2 := own_src (own_later o29.out B9); have hbs2 := B9.size)
      | ((at_builtin; with_reducible refine wl_append_src (o := ⟨some 77, _, _, _, _, _⟩) rfl (.tmp 75) (.tmp 76) 27 rfl w7.heap.size 40 il _ 1 24 Tryd.underlying27 hil hlz hls hlb rfl h01 v9 (0 + m1) ([] ++ vs1) rfl own9 X2a m2 Y2 vs2 rfl hs2l.out s2.2.1 s2.2.2 hs2o.out hs2m.out hs2b.out hbs2 ?_); intro v10 w10 own10 gr10; have B10 : Below w7.heap.size w7 w10 := B9.grown gr10 B9.size (fun k hk => (own9.lt k hk).1); have s3 := own_src (own_later o39.out B10); have hbs3 := B10.size)
      | ((at_builtin; with_reducible refine wl_append_src (o := ⟨some 79, _, _, _, _, _⟩) rfl (.tmp 77) (.tmp 78) 27 rfl w7.heap.size 40 il _ 1 24 Tryd.underlying27 hil hlz hls hlb rfl h01 v10 (0 + m1 + m2) ([] ++ vs1 ++ vs2) rfl own10 X3a m3 Y3 vs3 rfl hs3l.out s3.2.1 s3.2.2 hs3o.out hs3m.out hs3b.out hbs3 ?_); intro v11 w11 own11 gr11; have B11 : Below w7.heap.size w7 w11 := B10.grown gr11 B10.size (fun k hk => (own10.lt k hk).1)))
    have hbase : w3.heap.size ≤ w7.heap.size := hw37
    have ocA : OwC w11 w3.heap.size v11 FB.1 := by
      rw [hm3.out.1]
      refine ⟨vs1 ++ vs2 ++ vs3, ?_, ((N19.out.later B11).app (N29.out.later B11) (hl19.out.trans hm19.out)).app (N39.out.later B11) (by rw [List.length_append, List.length_append, hl19.out, hl29.out, hm19.out, hm29.out])⟩
      have q := ownsRow_lo own11 hbase
      rw [List.length_append, List.length_append, ← hm19.out, ← hm29.out, ← hm39.out]
      rw [Nat.zero_add, List.nil_append] at q
      exact q
    have HSm := sameC_any w11 lv v11 FB.1 (cw7.out.later B11) ocA.cmv hLB.out hLs.out
    have B11' : Below W.heap.size W w11 := B7.trans (B11.mono B7.size)
    replace ocA := hide ocA
    clear own8 own9 own10 own11 s1 s2 s3
    refine HSm.mono ?_
    rintro e w12 ⟨rfl, b12⟩
    clear HSm
    have B12 := B11'.trans (b12.mono B11'.size)
    have B712 : Below w7.heap.size w7 w12 := B11.trans (b12.mono B11.size)
    have HL1 := left_ps w12 gp _ vp _ _ (pp79.out.later B712)
    have HL2 := left_ps w12 gq _ vq3 _ _ (pq79.out.later B712)
    have hA12 := HA.out w12 B12
    obtain ⟨ee, hee⟩ : ∃ e : Int, e = (F3.2.2 : Int) := ⟨_, rfl⟩
    obtain ⟨ll, hll⟩ : ∃ e : Int, e = (F3.2.1.length : Int) := ⟨_, rfl⟩
    rw [← hll] at HL1 HL2
    rw [← hee]
    have q1' : (ee == ee) = true := by simp
    have q2' : (ll == ll) = true := by simp
    clear hee hll
    go_wp2_with fail
    refine HL1.mono ?_
    rintro e w13 ⟨rfl, rfl⟩
    go_wp2_with fail
    refine HL2.mono ?_
    rintro e w13 ⟨rfl, rfl⟩
    go_wp2_with fail
    refine hA12.mono ?_
    rintro e w13 ⟨rfl, b13⟩
    go_wp2_with fail
    go_ret
    exact ⟨rfl, B12.trans (b13.mono B12.size)⟩
  · have hbI : (6000 : Int) < (b.length : Int) := by omega
    go_enter Tryd.func4, Tryd.ntmps4
    go_wp2_with (first
      | (with_reducible refine wl_box rfl 38 (.tmp 1) _ (vk .u16 [cu, cv]) rfl rfl rfl ?_; intro g3 w1 r1 p1 l1 b1))
    refine (HA.out w1 b1).mono ?_
    rintro e w5 ⟨rfl, b5⟩
    go_wp2_with fail
    go_ret
    exact ⟨rfl, b1.trans (b5.mono b1.size)⟩
end Go.Proofs.YthjcmgjmdjihnaaDoor

/-
  ChachaPieces: the Go text of the law answers true for every input, and writes nothing that was there. Own work.
-/
import Derived.Test.YtfpemnihknbihaaDoorTwice
namespace Go.Proofs.YtfpemnihknbihaaDoor
open Go.RowKit
set_option linter.unusedVariables false
set_option linter.unusedSimpArgs false
theorem outL_append (ks ns xs ys : List Int) (p : Nat) : outL ks ns p (xs ++ ys) = outL ks ns p xs ++ outL ks ns (p + xs.length) ys := by
  simp only [outL, List.length_append, List.range_add, List.map_append, List.map_map]
  have e1 : (List.range xs.length).map (fun i => bits .xor .u8 ((xs ++ ys).getD i 0) (kbyte ks ns (p + i))) = (List.range xs.length).map (fun i => bits .xor .u8 (xs.getD i 0) (kbyte ks ns (p + i))) := by
    refine List.map_congr_left fun i hi => ?_
    have hi' := List.mem_range.1 hi
    simp [List.getD, List.getElem?_append_left hi']
  rw [e1]
  refine congrArg (fun l => (List.range xs.length).map (fun i => bits .xor .u8 (xs.getD i 0) (kbyte ks ns (p + i))) ++ l) ?_
  refine List.map_congr_left fun i _ => ?_
  have e2 : (xs ++ ys)[xs.length + i]? = ys[i]? := by rw [List.getElem?_append_right (by omega)]; congr 1; omega
  simp [List.getD, Nat.add_assoc, e2]
theorem three {α : Type} (xs : List α) {I K : Nat} (h : I ≤ K) : xs.take I ++ ((xs.drop I).take (K - I) ++ xs.drop K) = xs := by
  have : (xs.drop I).drop (K - I) = xs.drop K := by rw [List.drop_drop]; congr 1; omega
  rw [← this, List.take_append_drop, List.take_append_drop]
theorem Bs.take {w : World} {B n I : Nat} {A : Option Addr} {xs : List Int} (h : Bs w B A n xs) (hI : I ≤ n) : Bs w B A I (xs.take I) := by
  have hl := h.1
  refine ⟨by rw [List.length_take]; omega, fun hp => ?_⟩
  obtain ⟨b, o, rfl, hb, hc⟩ := h.2 (by omega)
  exact ⟨b, o, rfl, hb, fun j hj => by rw [hc j (by omega)]; simp [List.getD, List.getElem?_take, hj]⟩
theorem IsBy.take {xs : List Int} (h : IsBy xs) (n : Nat) : IsBy (xs.take n) := fun x hx => h x (List.mem_of_mem_take hx)
theorem IsBy.drop {xs : List Int} (h : IsBy xs) (n : Nat) : IsBy (xs.drop n) := fun x hx => h x (List.mem_of_mem_drop hx)
theorem Bs.but {w w' : World} {g b n : Nat} {xs : List Int} (h : Bs w w.heap.size (some ⟨b, 0, none⟩) n xs) (hb : But g w w') (hne : b ≠ g) (hlt : 0 < n → b < w.heap.size) : Bs w' w'.heap.size (some ⟨b, 0, none⟩) n xs := by
  rcases Nat.eq_zero_or_pos n with h0 | h0
  · subst h0
    obtain rfl : xs = [] := List.eq_nil_of_length_eq_zero h.1
    exact Bs.nil_
  · exact (h.keepAt (hb.block b (hlt h0) hne)).up hb.size
theorem Bs.blt {w : World} {B b o n : Nat} {xs : List Int} (h : Bs w B (some ⟨b, o, none⟩) n xs) (hn : 0 < n) : b < B := by
  obtain ⟨b', o', e, hb, _⟩ := h.2 hn
  injection e with e
  injection e with e1 e2 e3
  omega
set_option maxRecDepth 100000 in
set_option maxHeartbeats 2000000 in
theorem pieces_any (ks ns xs : List Int) (c n cp : Nat) (c0 c1 : Int) (A : Option Addr) (w : World) (hT : Tabs w) (hk : ks.length = 32) (hn : ns.length = 12) (hk' : IsBy ks) (hn' : IsBy ns) (hc : c < 4294967296)
    (hx : Bs w w.heap.size A n xs) (hby : IsBy xs) (hm : cp ≤ maxLen) (hcp : n ≤ cp) (z0 : 0 ≤ c0) (z1 : 0 ≤ c1) (z2 : c0 < 65536) (z3 : c1 < 65536) :
    Calls Tryd.prog 7 #[.agg (atL ks c ns).toArray, .slice A n cp, .agg (vk .u16 [c0, c1]).toArray] w fun e w' => e = .returned (.bool true) ∧ Below w.heap.size w w' := by
  obtain ⟨i0, hi, hz, hsz, hbys⟩ := u8_info
  have zk := hide (size_b (P := Tryd.prog) (T := 22) (by kernel_rfl) hk)
  have zn := hide (size_b (P := Tryd.prog) (T := 24) (by kernel_rfl) hn)
  have h32 := hide (show (bv ks).length = 32 by rw [bv_len, hk])
  have h33 := hide (show (bv ks ++ [Value.int .u32 c]).length = 33 by rw [List.length_append, bv_len, hk]; rfl)
  have Hk := hide hk
  have Hn := hide hn
  have Hx := hide hx.1
  have hmm := hide (Nat.le_trans hcp hm)
  unfold maxLen at hm
  clear hk hn
  by_cases hlen : 2000 < n
  · have hd : decide ((2000 : Int) < (n : Int)) = true := by simp; omega
    go_enter Tryd.func7, Tryd.ntmps7
    go_wp2_with (first
      | (with_reducible refine wl_box rfl 26 (.tmp 0) _ (atL ks c ns) rfl rfl rfl ?_; intro g2 w2 r2 a2 l2 b2)
      | (with_reducible refine wl_box rfl 48 (.tmp 2) _ (vk .u16 [c0, c1]) rfl rfl rfl ?_; intro g3 w3 r3 a3 l3 b3)
      | (go_at_call 18; refine (awake_any _).mono ?_; rintro e w' ⟨rfl, rfl⟩))
    go_ret
    exact ⟨rfl, b2.trans (b3.mono b2.size)⟩
  · have hd : decide ((2000 : Int) < (n : Int)) = false := by simp; omega
    obtain ⟨I, hI, hIe⟩ : ∃ I : Nat, I ≤ n ∧ Hid (c0 % ((n : Int) + 1) = (I : Int)) := by
      have p1 := Int.emod_nonneg c0 (show (n : Int) + 1 ≠ 0 by omega)
      have p2 := Int.emod_lt_of_pos c0 (show (0 : Int) < (n : Int) + 1 by omega)
      exact ⟨(c0 % ((n : Int) + 1)).toNat, by omega, show _ = _ by omega⟩
    obtain ⟨K, hIK, hK, hKe⟩ : ∃ K : Nat, I ≤ K ∧ K ≤ n ∧ Hid ((I : Int) + c1 % ((n : Int) - (I : Int) + 1) = (K : Int)) := by
      have p1 := Int.emod_nonneg c1 (show (n : Int) - (I : Int) + 1 ≠ 0 by omega)
      have p2 := Int.emod_lt_of_pos c1 (show (0 : Int) < (n : Int) - (I : Int) + 1 by omega)
      exact ⟨I + (c1 % ((n : Int) - (I : Int) + 1)).toNat, by omega, by omega, show _ = _ by omega⟩
    have hl1 : 0 + I ≤ 140737488355328 := by omega
    have hl2 : 0 + I + (K - I) ≤ 140737488355328 := by omega
    have hl3 : 0 + I + (K - I) + (n - K) ≤ 140737488355328 := by omega
    have p1 := Int.emod_nonneg c0 (show (n : Int) + 1 ≠ 0 by omega)
    have p2 := Int.emod_lt_of_pos c0 (show (0 : Int) < (n : Int) + 1 by omega)
    have p3 := Int.emod_nonneg c1 (show (n : Int) - c0 % ((n : Int) + 1) + 1 ≠ 0 by omega)
    have p4 := Int.emod_lt_of_pos c1 (show (0 : Int) < (n : Int) - c0 % ((n : Int) + 1) + 1 by omega)
    go_enter Tryd.func7, Tryd.ntmps7
    go_wp2_with (first
      | (with_reducible refine wl_box rfl 26 (.tmp 0) _ (atL ks c ns) rfl rfl rfl ?_; intro g2 w2 r2 a2 l2 b2)
      | (with_reducible refine wl_box rfl 48 (.tmp 2) _ (vk .u16 [c0, c1]) rfl rfl rfl ?_; intro g3 w3 r3 a3 l3 b3)
      | (with_reducible refine wl_load rfl 47 (.tmp 22) g3 0 48 _ (.int .u16 c0) rfl Tryd.isAgg47 rfl r3 rfl ?_)
      | (with_reducible refine wl_load rfl 47 (.tmp 30) g3 1 48 _ (.int .u16 c1) rfl Tryd.isAgg47 rfl r3 rfl ?_)
      | (with_reducible refine wl_load_part rfl 22 (.tmp 41) g2 0 26 _ (bv ks) _ _ rfl rfl (atRowA (r2.later b3)) rfl Tryd.underlying22 rfl zk.out ?_)
      | (with_reducible refine wl_load rfl 23 (.tmp 43) g2 32 26 _ (.int .u32 (c : Int)) rfl Tryd.isAgg23 rfl (r2.later b3) (atCtr h32.out) ?_)
      | (with_reducible refine wl_load_part rfl 24 (.tmp 45) g2 33 26 _ (bv ns) _ _ rfl rfl (atRowC (r2.later b3)) h33.out Tryd.underlying24 rfl zn.out ?_))
    rw [hIe.out, hKe.out]
    clear p1 p2 p3 p4
    have B3 := b2.trans (b3.mono b2.size)
    have r3' := r2.later b3
    have hx3 := hx.below B3
    have T3 := hT.later B3
    by_cases hfit : n ≤ (4294967296 - c) * 64
    · refine (xor_any ks ns xs c n cp A w3 T3 Hk.out Hn.out hk' hn' hc (hx3.up B3.size) hby hfit).mono ?_
      rintro e w4 ⟨A4, c4, rfl, hb4, b4, _, _⟩
      rw [Hx.out] at hb4
      rw [Hx.out]
      have B4 := B3.trans (b4.mono B3.size)
      have r4 := r3'.later b4
      have hx4 := hx.below B4
      go_wp2_with (first
        | (with_reducible refine wl_load_part rfl 22 (.tmp 59) g2 0 26 _ (bv ks) _ _ rfl rfl (atRowA r4) rfl Tryd.underlying22 rfl zk.out ?_)
        | (with_reducible refine wl_load rfl 23 (.tmp 61) g2 32 26 _ (.int .u32 (c : Int)) rfl Tryd.isAgg23 rfl r4 (atCtr h32.out) ?_)
        | (with_reducible refine wl_load_part rfl 24 (.tmp 63) g2 33 26 _ (bv ns) _ _ rfl rfl (atRowC r4) h33.out Tryd.underlying24 rfl zn.out ?_))
      refine (new_any ks ns c w4 Hk.out Hn.out ⟨by omega, by omega⟩).mono ?_
      rintro e w5 ⟨g, rfl, hg, hr, b5⟩
      rw [left_cast c hc] at hr
      have B5 := B4.trans (b5.mono B4.size)
      have hx5 := hx.below B5
      have hb5 := hb4.later b5
      have T5 := hT.later B5
      have hgw : w.heap.size ≤ g := by have := B4.size; omega
      have h2g : 2 ≤ g := by have := hT.1; omega
      have hpos := hide (pos_left c hc)
      have hS1 := fun w => run_sliceTo (P := Tryd.prog) w 30 5 1 Tryd.underlying30 Tryd.sizeOf5 A n cp .i64 (I : Int) I rfl (by omega)
      have hS2 := fun w => run_sliceMid (P := Tryd.prog) w 30 5 Tryd.underlying30 Tryd.sizeOf5 A n cp .i64 .i64 I K hIK (by omega)
      have hS3 := fun w => run_sliceFrom (P := Tryd.prog) w 30 5 Tryd.underlying30 Tryd.sizeOf5 A n cp .i64 K hK
      go_wp2_with fail
      refine (sxor_all ks ns (xs.take I) ((4294967296 - c) * 64) g I cp w.heap.size A w5 T5 Hk.out Hn.out hk' hn' (by omega) hr h2g (hx5.take hI) hgw (hby.take I) (by omega)).mono ?_
      rintro e w6 ⟨g6, c6, rfl, hg6, hb6, r6, bu6, _, _⟩
      have lI : (xs.take I).length = I := by rw [List.length_take, Hx.out]; omega
      have lM : ((xs.drop I).take (K - I)).length = K - I := by rw [List.length_take, List.length_drop, Hx.out]; omega
      have lE : ((xs.drop K).take (n - K)).length = n - K := by rw [List.length_take, List.length_drop, Hx.out]; omega
      have gl := hr.lt
      rw [lI] at hb6 r6
      rw [lI]
      have b46 := hb4.below b5
      have hx6 := hx5.below (bu6.below hgw B5.size)
      have b46 := b46.below (bu6.below hg b5.size)
      have T6 := T5.below (bu6.below h2g (by have := T5.1; omega)) (Nat.le_refl 2)
      have BU6 := bu6
      have HlI := hide lI
      have HlM := hide lM
      have HlE := hide lE
      clear lI lM lE hb5 r4 r3' hr
      go_wp2_with fail
      refine (sxor_all ks ns ((xs.drop I).take (K - I)) ((4294967296 - c) * 64 - I) g (K - I) (cp - I) w.heap.size (subA A cp I) w6 T6 Hk.out Hn.out hk' hn' (by omega) r6 h2g (hx6.sub hIK hK hcp) hgw ((hby.drop I).take _) (by omega)).mono ?_
      rintro e w7 ⟨g7, c7, rfl, hg7, hb7, r7, bu7, _, _⟩
      rw [HlM.out, show (4294967296 - c) * 64 - I - (K - I) = (4294967296 - c) * 64 - K from by omega] at r7
      rw [HlM.out, pos_sub (by omega) (by omega), hpos.out] at hb7
      rw [HlM.out]
      rw [hpos.out] at hb6
      have b67 := hb6.but bu7 (by omega) (fun h => hb6.blt h)
      have hx7 := hx6.below (bu7.below hgw (by have := bu6.size; have := B5.size; omega))
      have b47 := b46.below (bu7.below hg (by have := bu6.size; have := b5.size; omega))
      have T7 := T6.below (bu7.below h2g (by have := T6.1; omega)) (Nat.le_refl 2)
      have BU7 := BU6.trans bu7
      have s67 := bu7.size
      have s56 := bu6.size
      clear hb6 r6 b46 hx6 T6
      go_wp2_with fail
      refine (sxor_all ks ns ((xs.drop K).take (n - K)) ((4294967296 - c) * 64 - K) g (n - K) (cp - K) w.heap.size (subA A cp K) w7 T7 Hk.out Hn.out hk' hn' (by omega) r7 h2g (hx7.sub hK (Nat.le_refl n) hcp) hgw ((hby.drop K).take _) (by omega)).mono ?_
      rintro e w8 ⟨g8, c8, rfl, hg8, hb8, r8, bu8, _, _⟩
      rw [HlE.out, pos_sub (by omega) (by omega), hpos.out] at hb8
      rw [HlE.out]
      have b68 := b67.but bu8 (by omega) (fun h => b67.blt h)
      have b78 := hb7.but bu8 (by omega) (fun h => hb7.blt h)
      have b48 := b47.below (bu8.below hg (by have := b5.size; omega))
      have BU8 := BU7.trans bu8
      have s78 := bu8.size
      have B8 := B5.trans (BU8.below hgw B5.size)
      clear b67 hb7 b47 T7 r7 r8 hx7 BU6 BU7 bu6 bu7 bu8
      go_wp2_with (first
        | ((with_reducible refine wg_build0 1 true 92 rfl rfl rfl 30 rfl 5 i0 Tryd.underlying30 hi hsz ?_); intro v9 w9 o9 b9)
        | ((with_reducible refine wg_append_bs 1 true 92 rfl rfl rfl (.tmp 94) (.tmp 95) 30 rfl w8.heap.size 5 i0 Tryd.underlying30 hi hz hsz hbys v9 0 [] rfl o9 w8.heap.size _ I _ _ rfl (b68.below b9) hl1 b9.size ?_); intro v10 w10 o10 gr10; have b10 := grown_below b9 o9 (Nat.le_refl _) gr10)
        | ((with_reducible refine wg_append_bs 1 true 92 rfl rfl rfl (.tmp 96) (.tmp 97) 30 rfl w8.heap.size 5 i0 Tryd.underlying30 hi hz hsz hbys v10 (0 + I) _ rfl o10 w8.heap.size _ (K - I) _ _ rfl (b78.below b10) hl2 b10.size ?_); intro v11 w11 o11 gr11; have b11 := grown_below b10 o10 (Nat.le_refl _) gr11)
        | ((with_reducible refine wg_append_bs 1 true 92 rfl rfl rfl (.tmp 98) (.tmp 99) 30 rfl w8.heap.size 5 i0 Tryd.underlying30 hi hz hsz hbys v11 (0 + I + (K - I)) _ rfl o11 w8.heap.size _ (n - K) _ _ rfl (hb8.below b11) hl3 b11.size ?_); intro v12 w12 o12 gr12; have b12 := grown_below b11 o11 (Nat.le_refl _) gr12))
      obtain ⟨A12, c12, hv12, hb12, _, _⟩ := ownsRow_bs o12
      rw [hv12]
      have hcat : [] ++ outL ks ns (64 * c) (xs.take I) ++ outL ks ns (64 * c + I) ((xs.drop I).take (K - I)) ++ outL ks ns (64 * c + K) ((xs.drop K).take (n - K)) = outL ks ns (64 * c) xs := by
        have e := three xs hIK
        have t : (xs.drop K).take (n - K) = xs.drop K := List.take_of_length_le (by rw [List.length_drop, Hx.out]; exact Nat.le_refl _)
        rw [t, List.nil_append]
        conv => rhs; rw [← e]
        rw [outL_append, outL_append, HlI.out, HlM.out, show 64 * c + I + (K - I) = 64 * c + K from by omega, List.append_assoc]
      rw [hcat] at hb12
      have Hv := hide hv12
      clear hv12 o12 o11 o10 o9 gr10 gr11 gr12
      refine (equal_any A4 A12 n _ c4 c12 _ _ w12 (((b48.below (b12.mono (by have := b5.size; omega))).up (by have := b12.size; have := b5.size; omega))) hb12).mono ?_
      rintro e w' ⟨rfl, rfl⟩
      rw [equal_self]
      go_wp2_with (go_at_call 18; refine (awake_any _).mono ?_; rintro e w' ⟨rfl, rfl⟩)
      go_ret
      exact ⟨rfl, B8.trans (b12.mono (by have := B8.size; omega))⟩
    · refine (xor_long ks ns c n cp A w3 Hk.out Hn.out hc hmm.out (by omega)).mono ?_
      rintro e w4 ⟨rfl, b4⟩
      go_wp2_with (go_at_call 18; refine (awake_any _).mono ?_; rintro e w' ⟨rfl, rfl⟩)
      go_ret
      exact ⟨rfl, B3.trans (b4.mono B3.size)⟩
end Go.Proofs.YtfpemnihknbihaaDoor

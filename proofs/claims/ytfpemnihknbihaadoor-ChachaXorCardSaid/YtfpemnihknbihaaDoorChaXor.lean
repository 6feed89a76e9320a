/-
  ChachaXor: the Go text of the law answers true for every input, and writes nothing that was there. Own work.
-/
import Derived.Test.YtfpemnihknbihaaDoorRefXor
namespace Go.Proofs.YtfpemnihknbihaaDoor
open Go.RowKit
set_option linter.unusedVariables false
set_option linter.unusedSimpArgs false
set_option maxRecDepth 100000 in
set_option maxHeartbeats 2000000 in
theorem chachaXor_any (ks ns xs : List Int) (c n cp : Nat) (A : Option Addr) (w : World) (hT : Tabs w) (hk : ks.length = 32) (hn : ns.length = 12) (hk' : IsBy ks) (hn' : IsBy ns) (hc : c < 4294967296)
    (hx : Bs w w.heap.size A n xs) (hby : IsBy xs) (hm : n ≤ maxLen) :
    Calls Tryd.prog 4 #[.agg (atL ks c ns).toArray, .slice A n cp] w fun e w' => e = .returned (.bool true) ∧ Below w.heap.size w w' := by
  have zk := hide (size_b (P := Tryd.prog) (T := 22) (by kernel_rfl) hk)
  have zn := hide (size_b (P := Tryd.prog) (T := 24) (by kernel_rfl) hn)
  have zA := hide (show (Tryd.prog.info? 26).map (·.size) = some (atL ks c ns).length by rw [at_len' hk hn]; kernel_rfl)
  have h32 := hide (show (bv ks).length = 32 by rw [bv_len, hk])
  have h33 := hide (show (bv ks ++ [Value.int .u32 c]).length = 33 by rw [List.length_append, bv_len, hk]; rfl)
  have Hk := hide hk
  have Hn := hide hn
  have Hx := hide hx.1
  have hmm := hide hm
  unfold maxLen at hm
  clear hk hn
  by_cases hlen : 2000 < n
  · have hd : decide ((2000 : Int) < (n : Int)) = true := by simp; omega
    go_enter Tryd.func4, Tryd.ntmps4
    go_wp2_with (first
      | (with_reducible refine wl_box rfl 26 (.tmp 0) _ (atL ks c ns) rfl rfl rfl ?_; intro g2 w2 r2 a2 l2 b2)
      | (go_at_call 18; refine (awake_any _).mono ?_; rintro e w' ⟨rfl, rfl⟩))
    go_ret
    exact ⟨rfl, b2⟩
  · have hd : decide ((2000 : Int) < (n : Int)) = false := by simp; omega
    go_enter Tryd.func4, Tryd.ntmps4
    go_wp2_with (first
      | (with_reducible refine wl_box rfl 26 (.tmp 0) _ (atL ks c ns) rfl rfl rfl ?_; intro g2 w2 r2 a2 l2 b2))
    have hx2 := hx.later b2
    refine (clone_any A n cp xs w2 hx2 (by omega)).mono ?_
    rintro e w3 ⟨A5, n5, c5, rfl, h5, hn5, hc5, b3⟩
    obtain rfl : n5 = n := by rw [← h5.1, Hx.out]
    have r3 := r2.later b3
    have B3 := b2.trans (b3.mono b2.size)
    have hx3 := hx2.later b3
    have T3 := hT.later B3
    clear r2 b2 b3 hx2
    by_cases hfit : n5 ≤ (4294967296 - c) * 64
    · go_wp2_with (first
        | (with_reducible refine wl_load_part rfl 22 (.tmp 17) g2 0 26 _ (bv ks) _ _ rfl rfl (atRowA r3) rfl Tryd.underlying22 rfl zk.out ?_)
        | (with_reducible refine wl_load rfl 23 (.tmp 19) g2 32 26 _ (.int .u32 (c : Int)) rfl Tryd.isAgg23 rfl r3 (atCtr h32.out) ?_)
        | (with_reducible refine wl_load_part rfl 24 (.tmp 21) g2 33 26 _ (bv ns) _ _ rfl rfl (atRowC r3) h33.out Tryd.underlying24 rfl zn.out ?_))
      refine (xor_any ks ns xs c n5 cp A w3 T3 Hk.out Hn.out hk' hn' hc hx3 hby hfit).mono ?_
      rintro e w4 ⟨A6, c6, rfl, h6, b4, hc6, hm6⟩
      rw [Hx.out] at h6 hc6
      rw [Hx.out]
      have r4 := r3.later b4
      have B4 := B3.trans (b4.mono B3.size)
      have h54 := h5.later b4
      have hx4 := hx3.later b4
      clear r3 h5 hx3
      go_wp2_with (first
        | (with_reducible refine wl_load_row rfl 26 (.tmp 2) g2 26 _ _ rfl rfl r4 Tryd.underlying26 rfl zA.out ?_))
      refine (refXor_any ks ns xs c n5 c5 A5 w4 Hk.out Hn.out hk' hn' hc (by omega) h54 hby (by omega)).mono ?_
      rintro e w5 ⟨A8, c8, rfl, h8, b5, hc8, hm8⟩
      rw [Hx.out] at h8 hc8
      rw [Hx.out]
      have B5 := B4.trans (b5.mono B4.size)
      have h55 := h54.later b5
      have hx5 := hx4.later b5
      have h65 := h6.later b5
      clear r4 h54 hx4 h6
      go_wp2_with fail
      refine (equal_any A6 A8 n5 n5 c6 c8 (outL ks ns (64 * c) xs) (outL ks ns (64 * c) xs) w5 h65 h8).mono ?_
      rintro e w' ⟨rfl, rfl⟩
      rw [equal_self]
      go_wp2_with fail
      refine (equal_any A A5 n5 n5 cp c5 xs xs w5 hx5 h55).mono ?_
      rintro e w' ⟨rfl, rfl⟩
      rw [equal_self]
      go_wp2_with (go_at_call 18; refine (awake_any _).mono ?_; rintro e w' ⟨rfl, rfl⟩)
      go_ret
      exact ⟨rfl, B5⟩
    · go_wp2_with (first
        | (with_reducible refine wl_load_part rfl 22 (.tmp 17) g2 0 26 _ (bv ks) _ _ rfl rfl (atRowA r3) rfl Tryd.underlying22 rfl zk.out ?_)
        | (with_reducible refine wl_load rfl 23 (.tmp 19) g2 32 26 _ (.int .u32 (c : Int)) rfl Tryd.isAgg23 rfl r3 (atCtr h32.out) ?_)
        | (with_reducible refine wl_load_part rfl 24 (.tmp 21) g2 33 26 _ (bv ns) _ _ rfl rfl (atRowC r3) h33.out Tryd.underlying24 rfl zn.out ?_))
      refine (xor_long ks ns c n5 cp A w3 Hk.out Hn.out hc hmm.out (by omega)).mono ?_
      rintro e w4 ⟨rfl, b4⟩
      have r4 := r3.later b4
      have B4 := B3.trans (b4.mono B3.size)
      have h54 := h5.later b4
      have hx4 := hx3.later b4
      clear r3 h5 hx3
      go_wp2_with (first
        | (with_reducible refine wl_load_row rfl 26 (.tmp 2) g2 26 _ _ rfl rfl r4 Tryd.underlying26 rfl zA.out ?_))
      refine (refXor_no ks ns c n5 c5 A5 w4 Hk.out Hn.out hc (by omega) (by omega)).mono ?_
      rintro e w5 ⟨rfl, b5⟩
      have B5 := B4.trans (b5.mono B4.size)
      have h55 := h54.later b5
      have hx5 := hx4.later b5
      clear r4 h54 hx4
      go_wp2_with fail
      refine (equal_any none none 0 0 0 0 [] [] w5 Bs.nil_ Bs.nil_).mono ?_
      rintro e w' ⟨rfl, rfl⟩
      rw [equal_self]
      go_wp2_with fail
      refine (equal_any A A5 n5 n5 cp c5 xs xs w5 hx5 h55).mono ?_
      rintro e w' ⟨rfl, rfl⟩
      rw [equal_self]
      go_wp2_with (go_at_call 18; refine (awake_any _).mono ?_; rintro e w' ⟨rfl, rfl⟩)
      go_ret
      exact ⟨rfl, B5⟩
end Go.Proofs.YtfpemnihknbihaaDoor

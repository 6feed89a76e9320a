/-
  The document's stream: contracts. Own work.
-/
import Derived.Test.YtfpemnihknbihaaDoorRefBlock
import Derived.Test.YtfpemnihknbihaaDoorPieces
namespace Go.Proofs.YtfpemnihknbihaaDoor
open Go.RowKit
set_option linter.unusedVariables false
set_option linter.unusedSimpArgs false
theorem at_set' {ks ns : List Int} {c m : Int} (hk : (bv ks).length = 32) : (atL ks c ns).set 32 (.int .u32 m) = atL ks m ns := by
  unfold atL
  rw [List.set_append_right _ _ (by omega), hk]
  rfl
theorem zeroAt : (Tryd.prog.info? 26).map (fun i => i.zero) = some (some (.agg (atL (List.replicate 32 0) 0 (List.replicate 12 0)).toArray)) := by kernel_rfl
theorem ksl_next (ks ns : List Int) (c i : Nat) : ksl ks ns (64 * c) (64 * i) ++ blockL ks ((c + i : Nat) : Int) ns = ksl ks ns (64 * c) (64 * (i + 1)) := by
  have h := ksl_block (ks := ks) (ns := ns) (p := 64 * c + 64 * i) (n := 64) (by omega)
  rw [show (64 * c + 64 * i) % 64 = 0 from by omega, show (64 * c + 64 * i) / 64 = c + i from by omega, List.drop_zero, List.take_of_length_le (by rw [blockL_len]; omega)] at h
  rw [show 64 * (i + 1) = 64 * i + 64 from by omega, ksl_add, h]
theorem ksl_take (ks ns : List Int) (p n m : Nat) (h : m ≤ n) : (ksl ks ns p n).take m = ksl ks ns p m := by
  obtain ⟨k, rfl⟩ : ∃ k, n = m + k := ⟨n - m, by omega⟩
  rw [ksl_add, List.take_append_of_le_length (by rw [ksl_len]; exact Nat.le_refl _), List.take_of_length_le (by rw [ksl_len]; exact Nat.le_refl _)]
/-- What Bytes hands back where the stream is long enough. -/
def RetKs (ks ns : List Int) (c n : Nat) (w : World) (e : Ending) (w' : World) : Prop :=
  ∃ A cp, e = .returned (.tuple #[.slice A n cp, .bool true]) ∧ Bs w' w'.heap.size A n (ksl ks ns (64 * c) n) ∧ Below w.heap.size w w'
set_option maxRecDepth 100000 in
set_option maxHeartbeats 2000000 in
theorem refBytes_any (ks ns : List Int) (c n : Nat) (w : World) (hk : ks.length = 32) (hn : ns.length = 12) (hk' : IsBy ks) (hn' : IsBy ns) (hc : c < 4294967296) (hm : n ≤ 1000000) (hfit : (n + 63) / 64 ≤ 4294967296 - c) :
    Calls Tryd.prog 24 #[.agg (atL ks c ns).toArray, .int .i64 n] w (RetKs ks ns c n w) := by
  obtain ⟨i0, hi, hz, hsz, hbys⟩ := u8_info
  have zA := fun c : Int => hide (show (Tryd.prog.info? 26).map (·.size) = some (atL ks c ns).length by rw [at_len' hk hn]; kernel_rfl)
  have lz := hide (show (atL (List.replicate 32 0) 0 (List.replicate 12 0)).length = (atL ks c ns).length by rw [at_len' hk hn, at_len' (by simp) (by simp)])
  have lA := hide (show 32 < (atL ks c ns).length by rw [at_len' hk hn]; omega)
  have oA := hide (show ∀ u ∈ atL ks c ns, u.oneCell' = true by
    intro u hu
    simp only [atL, List.mem_append, List.mem_singleton] at hu
    rcases hu with hu | rfl | hu
    · exact bv_one _ _ hu
    · rfl
    · exact bv_one _ _ hu)
  have h32 := hide (show (bv ks).length = 32 by rw [bv_len, hk])
  obtain ⟨N, hN⟩ : ∃ N : Nat, N = (n + 63) / 64 := ⟨_, rfl⟩
  have eN := hide (show ((n : Int) + 63) / 64 = (N : Int) by omega)
  have hN1 : N ≤ 20000 := by omega
  have hN2 : n ≤ 64 * N := by omega
  have hN3 : c + N ≤ 4294967296 := by omega
  have Hk := hide hk
  have Hn := hide hn
  have Hi := hide hi
  have Hz := hide hz
  have Hs := hide hsz
  have Hb := hide hbys
  clear hk hn hi hz hsz hbys hfit hN
  go_enter Tryd.func24, Tryd.ntmps24
  go_wp2_with (first
    | (with_reducible refine wl_box rfl 26 (.tmp 0) _ (atL ks c ns) rfl rfl rfl ?_; intro g2 w2 r2 a2 l2 b2)
    | (with_reducible refine wl_load rfl 23 (.tmp 15) g2 32 26 _ (.int .u32 (c : Int)) rfl Tryd.isAgg23 rfl r2 (atCtr h32.out) ?_))
  rw [eN.out]
  go_loopw [7, 8] (fun ov iv wr => ∃ i : Nat, i ≤ N ∧ iv = .int .i64 i ∧ wr.ownsRow w2.heap.size 5 1 ov (64 * i) (bv (ksl ks ns (64 * c) (64 * i))) ∧ Below w2.heap.size w2 wr) (fun _ iv _ => N - (intOf iv).toNat)
  case atStart => exact ⟨0, by omega, rfl, World.ownsRow_nil _ _ _ _, Below.refl _ _⟩
  case round =>
    obtain ⟨i, hi16, rfl, hown, bx⟩ := hrel
    have R2 := r2.later bx
    by_cases hi : i < N
    · have hd : decide ((i : Int) < (N : Int)) = true := by simp; omega
      go_wp2_with (first
        | (with_reducible refine wl_load_row rfl 26 (.tmp 2) g2 26 _ _ rfl rfl R2 Tryd.underlying26 rfl (zA _).out ?_)
        | (with_reducible refine wl_alloc rfl 26 _ (atL (List.replicate 32 0) 0 (List.replicate 12 0)) rfl zeroAt rfl ?_; intro g9 w9 r9 a9 l9 b9)
        | (with_reducible refine wl_store_row rfl 26 (.tmp 9) (.tmp 25) g9 26 _ (atL ks c ns) rfl rfl rfl r9 (zA _).out lz.out oA.out ?_; intro w10 r10 o10; have R10 := (R2.later b9).only o10 (Nat.ne_of_lt (Nat.lt_of_lt_of_le R2.lt a9)))
        | (with_reducible refine wl_load rfl 23 (.tmp 26) g2 32 26 _ (.int .u32 (c : Int)) rfl Tryd.isAgg23 rfl R10 (atCtr h32.out) ?_)
        | (with_reducible refine wl_store rfl 23 (.tmp 31) (.tmp 30) g9 32 26 _ (.int .u32 ((c : Int) + (i : Int))) rfl (by kernel_rfl) rfl rfl r10 lA.out rfl ?_; intro w11 r11 o11; rw [at_set' h32.out] at r11)
        | (with_reducible refine wl_load_row rfl 26 (.tmp 9) g9 26 _ _ rfl rfl r11 Tryd.underlying26 rfl (zA _).out ?_))
      have B11 := (b9.trans (o10.below a9)).trans (o11.below a9)
      rw [show (c : Int) + (i : Int) = ((c + i : Nat) : Int) from by omega]
      refine (refBlock_any ks ns (c + i) w11 Hk.out Hn.out hk' hn' (by omega)).mono ?_
      rintro e w12 ⟨A, n2, c2, rfl, hbs, hn2, hc2, hb12⟩
      have h4 : n2 = 64 := by rw [← hbs.1, blockL_len]
      subst h4
      have B12 := B11.trans (hb12.mono B11.size)
      have ho12 := own_later hown B12
      have hsz12 : w2.heap.size ≤ w12.heap.size := Nat.le_trans bx.size B12.size
      have HP := hide (congrArg bv (ksl_next ks ns c i))
      have h80 : 64 * i + 64 ≤ 140737488355328 := by omega
      have bx12 := bx.trans (B12.mono bx.size)
      clear B11 B12 hb12 o11 r11 r10 R10 o10 r9 b9 R2 hown
      go_wp2_with (at_builtin; refine wpList_append_bs rfl (.tmp 32) (.tmp 34) _ rfl w2.heap.size 5 i0 Tryd.underlying30 Hi.out Hz.out Hs.out Hb.out _ (64 * i) _ rfl ho12 w12.heap.size A 64 c2 _ rfl hbs h80 hsz12 ?_; intro v' w13 o13 gr13)
      rw [show 64 * i + 64 = 64 * (i + 1) from by omega, HP.out] at o13
      have bx13 := grown_below bx12 ho12 (Nat.le_refl _) gr13
      clear ho12 gr13 bx12 hbs HP
      go_roundw
      case rel => exact ⟨i + 1, by omega, by go_num, o13, bx13⟩
      case measure => simp [intOf]; omega
    · have hiN : i = N := by omega
      subst hiN
      obtain ⟨A, cp, rfl, hbs, h1, h2⟩ := ownsRow_bs hown
      have hS := fun w => run_sliceTo (P := Tryd.prog) w 30 5 1 Tryd.underlying30 Tryd.sizeOf5 A (64 * i) cp .i64 (n : Int) n rfl (by omega)
      go_wp2_with fail
      go_ret2
      exact ⟨A, cp, rfl, by have := hbs.take hN2; rwa [ksl_take _ _ _ _ _ hN2] at this, b2.trans (bx.mono b2.size)⟩
set_option maxRecDepth 100000 in
set_option maxHeartbeats 1000000 in
theorem refBytes_no (ks ns : List Int) (c n : Nat) (w : World) (hk : ks.length = 32) (hn : ns.length = 12) (hc : c < 4294967296) (hm : n ≤ 1000000) (hlong : 4294967296 - c < (n + 63) / 64) :
    Calls Tryd.prog 24 #[.agg (atL ks c ns).toArray, .int .i64 n] w (RetNo w) := by
  have h32 := hide (show (bv ks).length = 32 by rw [bv_len, hk])
  obtain ⟨N, hN⟩ : ∃ N : Nat, N = (n + 63) / 64 := ⟨_, rfl⟩
  have eN := hide (show ((n : Int) + 63) / 64 = (N : Int) by omega)
  have hd : 4294967296 - (c : Int) < ((n : Int) + 63) / 64 := by omega
  clear hk hn
  go_enter Tryd.func24, Tryd.ntmps24
  go_wp2_with (first
    | (with_reducible refine wl_box rfl 26 (.tmp 0) _ (atL ks c ns) rfl rfl rfl ?_; intro g2 w2 r2 a2 l2 b2)
    | (with_reducible refine wl_load rfl 23 (.tmp 15) g2 32 26 _ (.int .u32 (c : Int)) rfl Tryd.isAgg23 rfl r2 (atCtr h32.out) ?_))
  go_ret2
  exact ⟨rfl, b2⟩
end Go.Proofs.YtfpemnihknbihaaDoor

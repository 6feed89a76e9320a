/-
  The document's answer for poly: a number modulo 2^130 - 5: contract. Own work.
-/
import Derived.Test.YtcinhofapkddpaaRefP4
namespace Go.Proofs.Ytcinhofapkddpaa
open Go.RowKit
set_option linter.unusedVariables false
set_option linter.unusedSimpArgs false
def itF (X : Nat) : Nat → Nat
  | 0 => X
  | n + 1 => fold1 (itF X n)
theorem itF_mod (X n : Nat) : itF X n % p130 = X % p130 := by
  induction n with
  | zero => rfl
  | succ n ih => rw [itF, fold1_mod, ih]
def c320 : Nat := 2135987035920910082395021706169552114602704522356652769947041607822219725780640550022962086936576
theorem c320_eq : (256 : Nat) ^ 40 = c320 := by decide +kernel
theorem itF_lt {X : Nat} (h : X < 256 ^ 40) : ∀ n, itF X n < 256 ^ 40 ∧ (1 ≤ n → itF X n < 2 ^ 194) ∧ (2 ≤ n → itF X n < 2 ^ 131) ∧ (3 ≤ n → itF X n < 2 ^ 130 + 10) := by
  intro n
  rw [c320_eq] at h ⊢
  unfold c320 at h ⊢
  induction n with
  | zero => exact ⟨h, by omega, by omega, by omega⟩
  | succ n ih =>
    obtain ⟨h0, h1, h2, h3⟩ := ih
    simp only [itF]
    generalize itF X n = Z at *
    unfold fold1
    refine ⟨by omega, fun _ => by omega, fun hn => ?_, fun hn => ?_⟩
    · have := h1 (by omega)
      omega
    · have := h2 (by omega)
      omega
def SRs (ga gp k x y c : Nat) (opn : Nat) (v : Value) : Prop :=
  match opn with
  | 0 => v = .slice (some ⟨ga, 0, none⟩) 40 40
  | 1 | 5 => v = .int .i64 (k : Int)
  | 2 => v = .pointer (some ⟨ga, k, none⟩)
  | 3 => v = .int .i64 (x : Int)
  | 4 => v = .slice (some ⟨gp, 0, none⟩) 40 40
  | 6 => v = .pointer (some ⟨gp, k, none⟩)
  | 7 => v = .int .i64 (y : Int)
  | 8 => v = .int .i64 ((x : Int) - (y : Int))
  | 9 => v = .int .i64 (c : Int)
  | 10 | 11 => v = .int .i64 ((x : Int) - (y : Int) - (c : Int))
  | _ => True

set_option maxRecDepth 100000 in
set_option maxHeartbeats 4000000 in
theorem rest_any (g0 X : Nat) (w : World) (hX : X < 256 ^ 40) (hr : DR w g0 (dg X)) :
    Calls Try.prog 20 #[.slice (some ⟨g0, 0, none⟩) 40 40] w fun e w' => ∃ g, e = .returned (.slice (some ⟨g, 0, none⟩) 40 40) ∧ DR w' g (dg (X % p130)) ∧ Below w.heap.size w w' := by
  obtain ⟨i0, hi, hz, hsz, hby⟩ := int_info
  have hit := itF_lt hX
  have HI := hide hit
  have hp40 : p130 < 256 ^ 40 := by decide +kernel
  have HP := hide hp40
  clear hX hit hp40
  go_enter Try.func20, Try.ntmps20
  go_wp2
  go_loopw [0, 3] (fun av iv wr => ∃ (i g : Nat), i ≤ 8 ∧ iv = .int .i64 i ∧ av = .slice (some ⟨g, 0, none⟩) 40 40 ∧ DR wr g (dg (itF X i)) ∧ Below w.heap.size w wr) (fun _ iv _ => 8 - (intOf iv).toNat)
  case atStart => exact ⟨0, g0, Nat.zero_le _, rfl, rfl, hr, Below.refl _ _⟩
  case round =>
    clear hr
    obtain ⟨i, g, him, rfl, rfl, rr, br⟩ := hrel
    by_cases hlt : i < 8
    · have hi40 := (HI.out i).1
      go_wp2_with fail
      refine (rfold_any g (itF X i) wr hi40 rr).mono ?_
      rintro e w1 ⟨g1, rfl, p1, r1, b1⟩
      go_wp2
      go_roundw
      case rel => exact ⟨i + 1, g1, by omega, by go_num, rfl, r1, br.trans (b1.mono br.size)⟩
      case measure => simp [intOf]; omega
    · have h8 : i = 8 := by omega
      rw [h8] at rr
      have hY := (HI.out 8).2.2.2 (by decide)
      have hYm := itF_mod X 8
      have HYM := hide hYm
      generalize itF X 8 = Y0 at *
      clear h8 hYm HI
      go_wp2_with fail
      refine (prime_any wr).mono ?_
      rintro e w2 ⟨gp, rfl, pp, rp, b2⟩
      have rg2 := Row.later rr b2
      have B2 := br.trans (b2.mono br.size)
      clear rr
      generalize Value.int .i64 (i : Int) = s at *
      generalize Value.bool (decide ((i : Int) < 8)) = s' at *
      go_wp2_with fail
      go_loopw [0, 5] (fun av iv wr' => ∃ (i g Y : Nat), ((i = 0 ∧ Y < 2 ^ 130 + 10) ∨ (i = 1 ∧ Y < p130)) ∧ iv = .int .i64 i ∧ av = .slice (some ⟨g, 0, none⟩) 40 40 ∧ DR wr' g (dg Y) ∧ Hid (Y % p130 = X % p130) ∧ DR wr' gp (dg p130) ∧ Below w.heap.size w wr') (fun _ iv _ => 2 - (intOf iv).toNat)
      case atStart => exact ⟨0, g, Y0, .inl ⟨rfl, hY⟩, rfl, rfl, rg2, HYM, rp, B2⟩
      case round =>
        clear rg2 rp B2 hY HYM br b2
        obtain ⟨j, ga, Y, hj, rfl, rfl, ra, hym, rgp, br⟩ := hrel
        have hj2 : j < 2 := by omega
        have hdj : decide ((j : Int) < 2) = true := by simp; omega
        have hY40 : Y < 256 ^ 40 := by
          rw [c320_eq]; unfold c320; unfold p130 at hj; omega
        go_wp2_with fail
        refine (below_any ga gp Y p130 wr hY40 HP.out ra rgp).mono ?_
        rintro e w5 ⟨rfl, b5⟩
        have br5 := br.trans (b5.mono br.size)
        have ra5 := Row.later ra b5
        have rp5 := Row.later rgp b5
        clear ra rgp br b5
        by_cases hYp : Y < p130
        · have hdec : decide (Y < p130) = true := by simp [hYp]
          rw [hdec]
          have hfin : Y = X % p130 := by rw [← hym.out, Nat.mod_eq_of_lt hYp]
          have HF := hide hfin
          clear hfin hdec
          go_wp2
          go_ret
          exact ⟨ga, rfl, by rw [← HF.out]; exact ra5, br5⟩
        · have hdec : decide (Y < p130) = false := by simp [hYp]
          rw [hdec]
          have hj0 : j = 0 := by omega
          have hYb : Y < 2 ^ 130 + 10 := by omega
          have hle : p130 ≤ Y := by omega
          have hnew : Y - p130 < p130 := by unfold p130 at *; omega
          have hnm : Hid ((Y - p130) % p130 = X % p130) := by
            show (Y - p130) % p130 = X % p130
            rw [← hym.out, ← Nat.mod_eq_sub_mod hle]
          have HLE := hide hle
          have HNW := hide hnew
          have HJ0 := hide hj0
          have HSDA : Hid (∀ k, ((Y / 256 ^ k % 256 : Nat) : Int) - ((p130 / 256 ^ k % 256 : Nat) : Int) - (boC Y p130 k : Int) + (if ((Y / 256 ^ k % 256 : Nat) : Int) - ((p130 / 256 ^ k % 256 : Nat) : Int) - (boC Y p130 k : Int) < 0 then 256 else 0) = (((Y - p130) / 256 ^ k % 256 : Nat) : Int)) := fun k => sub_digit hle k
          clear hdec hj hYb hle hnew hYp hym hY40 hj0 HLE
          generalize hZ : Y - p130 = Z at *
          clear hZ
          generalize hP : p130 = P at *
          have HPp := hide hP
          clear hP
          go_wp2_with (first
            | (with_reducible refine wl_make rfl 51 (.const (.int .i64 40)) (.const (.int .i64 40)) rfl 3 i0 (.int .i64 0) Try.underlying51 hi hz hsz rfl .i64 .i64 40 40 40 40 rfl rfl rfl rfl (Nat.le_refl _) (by omega) (by omega) ?_; intro g7 w6 r6 p6 l6 b6))
          have ra6 := Row.later ra5 b6
          have rp6 := Row.later rp5 b6
          have hna : ga ≠ g7 := by have := Row.lt ra5; omega
          have hnp : gp ≠ g7 := by have := Row.lt rp5; omega
          have s5 := br5.size
          have B6 := br5.trans (b6.mono s5)
          clear ra5 rp5 b6
          go_loopw [6, 8] (fun cv kv wr' => ∃ k : Nat, k ≤ 40 ∧ kv = .int .i64 k ∧ cv = .int .i64 (boC Y P k : Int) ∧ Row wr' 3 g7 (vk .i64 ((dg Z).take k ++ List.replicate (40 - k) 0)) ∧ But g7 w6 wr') (fun _ kv _ => 40 - (intOf kv).toNat)
          case atStart => exact ⟨0, Nat.zero_le _, rfl, by rw [boC_0]; rfl, r6, But.refl _ _⟩
          case round =>
            clear r6
            obtain ⟨k, hk, rfl, rfl, rr, bk⟩ := hrel
            by_cases hk40 : k < 40
            · have rga := (Row.but ra6 bk hna)
              have rgp := (Row.but rp6 bk hnp)
              have cga := vk_get (kd := .i64) (xs := dg Y) (j := k) (by rw [dg_len]; exact hk40)
              have cgp := vk_get (kd := .i64) (xs := dg P) (j := k) (by rw [dg_len]; exact hk40)
              rw [dg_get hk40] at cga cgp
              have hset := fill_at (xs := dg Z) (zs := []) (i := k) (n := 40) (v := ((Z / 256 ^ k % 256 : Nat) : Int)) hk40 (Nat.le_of_eq (dg_len _).symm) (dg_get hk40).symm 40 (Nat.le_refl _)
              have HS := hide hset
              have hcl : k < (vk .i64 ((dg Z).take k ++ List.replicate (40 - k) 0)).length := by rw [vk_len, List.length_append, List.length_replicate, List.length_take, dg_len]; omega
              have hsd := HSDA.out k
              have hbn := boC_next Y P k
              have hbl := boC_le Y P k
              have x1 : Y / 256 ^ k % 256 < 256 := Nat.mod_lt _ (by decide)
              have y1 : P / 256 ^ k % 256 < 256 := Nat.mod_lt _ (by decide)
              have HSD := hide hsd
              have HBN := hide hbn
              clear hset hsd hbn
              generalize Y / 256 ^ k % 256 = x at *
              generalize P / 256 ^ k % 256 = y at *
              generalize Z / 256 ^ k % 256 = z at *
              generalize boC Y P k = c at *
              generalize hcn : boC Y P (k + 1) = c' at *
              go_wp2_with fail
              rename_i Q1 K1 hK1
              refine wp_region_vals [] (SRs ga gp k x y c) (JR wr) (by kernel_rfl) (by kernel_rfl) (by kernel_rfl) (by kernel_rfl) (by kernel_rfl) (Below.refl _ _).drew ?obs ?he
              case obs =>
                refine ⟨?_, ?_, ?_, ?_, ?_, ?_, ?_, ?_, ?_, ?_, ?_, ?_, trivial⟩
                · exact .inl ⟨by kernel_rfl, fun L a1 w1 n' h => ⟨_, rfl, run_move (.tmp 0) rfl (h.var n' 0 (by kernel_rfl))⟩⟩
                · exact .inl ⟨by kernel_rfl, fun L a1 w1 n' h => ⟨_, rfl, run_move (.tmp 8) rfl (h.var n' 8 (by kernel_rfl))⟩⟩
                · exact .inl ⟨by kernel_rfl, fun L a1 w1 n' h => ⟨_, rfl, run_indexS0 51 (.tmp 32) (.tmp 33) 3 ga 40 40 k rfl Try.underlying51 Try.sizeOf3 (h.dep n' 0 32 (by kernel_rfl) rfl) (h.dep n' 1 33 (by kernel_rfl) rfl) hk40⟩⟩
                · exact .inl ⟨by kernel_rfl, fun L a1 w1 n' h => ⟨_, rfl, run_loadA 3 (.tmp 34) ⟨ga, k, none⟩ rfl Try.isAgg3 (h.dep n' 2 34 (by kernel_rfl) rfl) ((rga.later h.inv).cell cga)⟩⟩
                · exact .inl ⟨by kernel_rfl, fun L a1 w1 n' h => ⟨_, rfl, run_move (.tmp 4) rfl (h.var n' 4 (by kernel_rfl))⟩⟩
                · exact .inl ⟨by kernel_rfl, fun L a1 w1 n' h => ⟨_, rfl, run_move (.tmp 8) rfl (h.var n' 8 (by kernel_rfl))⟩⟩
                · exact .inl ⟨by kernel_rfl, fun L a1 w1 n' h => ⟨_, rfl, run_indexS0 51 (.tmp 36) (.tmp 37) 3 gp 40 40 k rfl Try.underlying51 Try.sizeOf3 (h.dep n' 4 36 (by kernel_rfl) rfl) (h.dep n' 5 37 (by kernel_rfl) rfl) hk40⟩⟩
                · exact .inl ⟨by kernel_rfl, fun L a1 w1 n' h => ⟨_, rfl, run_loadA 3 (.tmp 38) ⟨gp, k, none⟩ rfl Try.isAgg3 (h.dep n' 6 38 (by kernel_rfl) rfl) ((rgp.later h.inv).cell cgp)⟩⟩
                · refine .inl ⟨by kernel_rfl, fun L a1 w1 n' h => ⟨.int .i64 ((x : Int) - (y : Int)), rfl, ?_⟩⟩
                  have e0 : a1.eval (.tmp 35) = _ := h.dep n' 3 35 (by kernel_rfl) rfl
                  have e1 : a1.eval (.tmp 39) = _ := h.dep n' 7 39 (by kernel_rfl) rfl
                  unfold execOp
                  simp only [e0, e1]
                  go_simp
                  rw [IntWalk.i64_in _ (by omega)]
                · exact .inl ⟨by kernel_rfl, fun L a1 w1 n' h => ⟨_, rfl, run_move (.tmp 6) rfl (h.var n' 6 (by kernel_rfl))⟩⟩
                · refine .inl ⟨by kernel_rfl, fun L a1 w1 n' h => ⟨.int .i64 ((x : Int) - (y : Int) - (c : Int)), rfl, ?_⟩⟩
                  have e0 : a1.eval (.tmp 40) = _ := h.dep n' 8 40 (by kernel_rfl) rfl
                  have e1 : a1.eval (.tmp 41) = _ := h.dep n' 9 41 (by kernel_rfl) rfl
                  unfold execOp
                  simp only [e0, e1]
                  go_simp
                  rw [IntWalk.i64_in _ (by omega)]
                · exact .inl ⟨by kernel_rfl, fun L a1 w1 n' h => ⟨_, rfl, run_assign (.tmp 42) rfl (h.dep n' 10 42 (by kernel_rfl) rfl)⟩⟩
              case he =>
                intro V w7 hV hJ
                have h11 : V 11 = .int .i64 ((x : Int) - (y : Int) - (c : Int)) := hV 11 9 rfl
                have hB : Below wr.heap.size wr w7 := hJ
                clear hV hJ
                simp only [putOps, List.setIfInBounds_toArray, List.set_cons_succ, List.set_cons_zero]
                rw [h11]
                refine hK1 _ _ ?_
                have r7 := rr.later hB
                have b7 := bk.trans (But.of hB g7)
                clear rr hB rga rgp
                by_cases hneg : (x : Int) - (y : Int) - (c : Int) < 0
                · have hdn : decide ((x : Int) - (y : Int) - (c : Int) < 0) = true := by simp [hneg]
                  have hzv : (x : Int) - (y : Int) - (c : Int) + 256 = (z : Int) := by have := HSD.out; rw [if_pos hneg] at this; exact this
                  have hcv : c' = 1 := by have := HBN.out; rw [if_pos (by omega)] at this; exact this
                  have HZ := hide hzv
                  have HC := hide hcv
                  clear hzv hcv HSD HBN
                  generalize (x : Int) - (y : Int) - (c : Int) = D at *
                  have hD : -300 ≤ D := by have := HZ.out; omega
                  go_wp2_with (first
                    | (with_reducible refine wl_store rfl 3 (.tmp 50) (.tmp 49) g7 k 3 _ (.int .i64 (D + 256)) rfl (by kernel_rfl) rfl rfl r7 hcl rfl ?_; intro w8 r8 o8; rw [vk_set, HZ.out, HS.out] at r8))
                  exact ⟨⟨k + 1, by omega, rfl, by rw [hcn, HC.out]; rfl, r8, b7.trans (But.only o8)⟩, by simp [intOf]; omega⟩
                · have hdn : decide ((x : Int) - (y : Int) - (c : Int) < 0) = false := by simp; omega
                  have hzv : (x : Int) - (y : Int) - (c : Int) = (z : Int) := by have := HSD.out; rw [if_neg hneg] at this; omega
                  have hcv : c' = 0 := by have := HBN.out; rw [if_neg (by omega)] at this; exact this
                  have HZ := hide hzv
                  have HC := hide hcv
                  clear hzv hcv HSD HBN
                  generalize (x : Int) - (y : Int) - (c : Int) = D at *
                  go_wp2_with (first
                    | (with_reducible refine wl_store rfl 3 (.tmp 50) (.tmp 49) g7 k 3 _ (.int .i64 D) rfl (by kernel_rfl) rfl rfl r7 hcl rfl ?_; intro w8 r8 o8; rw [vk_set, HZ.out, HS.out] at r8))
                  exact ⟨⟨k + 1, by omega, rfl, by rw [hcn, HC.out]; rfl, r8, b7.trans (But.only o8)⟩, by simp [intOf]; omega⟩
            · have h40 : k = 40 := by omega
              rw [h40] at rr
              clear h40
              rw [List.take_of_length_le (Nat.le_of_eq (dg_len _)), Nat.sub_self, List.replicate_zero, List.append_nil] at rr
              have rp7 := Row.but rp6 bk hnp
              have B7 := B6.trans (bk.below (Nat.le_trans s5 p6) B6.size)
              go_wp2
              have hPe := HPp.out
              subst hPe
              refine ⟨⟨1, g7, Z, .inr ⟨rfl, HNW.out⟩, by rw [HJ0.out]; rfl, rfl, rr, hnm, rp7, B7⟩, ?_⟩
              rw [HJ0.out]
              simp [intOf]
end Go.Proofs.Ytcinhofapkddpaa

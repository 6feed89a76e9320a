/-
  The document's answer for poly: a fold, the prime, which is below: contracts. Own work.
-/
import Derived.Test.YtcinhofapkddpaaRefP2
namespace Go.Proofs.Ytcinhofapkddpaa
open Go.RowKit
set_option linter.unusedVariables false
set_option linter.unusedSimpArgs false
/-- A number's digits. -/
def dg (X : Nat) : List Int := lowB (X : Int) 40
theorem dg_len (X : Nat) : (dg X).length = 40 := lowB_length _ _
theorem dg_by (X : Nat) : IsBy (dg X) := lowB_by _ _
theorem dg_nn (X : Nat) : IsNn (dg X) := (dg_by X).nn
theorem dg_get {X i : Nat} (h : i < 40) : (dg X).getD i 0 = ((X / 256 ^ i % 256 : Nat) : Int) := lowB_get h
theorem dg_le {X i : Nat} (h : i < 40) : (dg X).getD i 0 ≤ 255 := by rw [dg_get h]; omega
theorem dg_val {X : Nat} (h : X < 256 ^ 40) : leN (dg X) = X := by rw [dg, leN_lowB, Nat.mod_eq_of_lt h]
theorem dg_take {X n : Nat} (h : n ≤ 40) : leN ((dg X).take n) = X % 256 ^ n := by
  have h1 := leN_mod (dg_by X) n
  rw [← h1, dg, leN_lowB]
  exact Nat.mod_mod_of_dvd X (Nat.pow_dvd_pow 256 h)
theorem take_set {L : List Int} {n : Nat} {v : Int} (k : Nat) (hl : L.length = n) (hk : n < k) : (L ++ List.replicate (k - n) 0).set n v = (L ++ [v]) ++ List.replicate (k - (n + 1)) 0 := by
  rw [List.set_append_right _ _ (by omega), hl, Nat.sub_self, show k - n = (k - (n + 1)) + 1 by omega, List.replicate_succ, List.set_cons_zero, List.append_assoc]
  rfl
/-- The lowest 130 bits, as digits. -/
def lowF (X : Nat) : List Int := ((dg X).take 16 ++ [((X / 256 ^ 16 % 256 % 4 : Nat) : Int)]) ++ List.replicate (40 - (16 + 1)) 0
theorem lowF_eq {X : Nat} : lowF X = dg (X % 1361129467683753853853498429727072845824) := by
  have hb : IsBy (lowF X) := by
    refine ((dg_by X).take 16 |>.app ?_).app (IsBy.rep _)
    intro y hy
    simp at hy
    omega
  have hl : (lowF X).length = 40 := by simp [lowF, dg_len]
  have hv : leN (lowF X) = X % 1361129467683753853853498429727072845824 := by
    rw [lowF, leN_append, leN_append, leN_zeros, dg_take (by decide), List.length_take, dg_len]
    simp [leN]
    have : X / 340282366920938463463374607431768211456 % 256 % 4 = X / 340282366920938463463374607431768211456 % 4 := by omega
    omega
  have := lowB_leN hb
  rw [hl, hv] at this
  exact this.symm
/-- What stands above, five times: a digit; all of them. -/
def hiD (X j : Nat) : Int := 5 * ((X / 256 ^ (16 + j) % 256 / 4 + 64 * (X / 256 ^ (17 + j) % 256 % 4) : Nat) : Int)
def hiL (X n : Nat) : List Int := (List.range n).map (hiD X)
theorem hiL_len (X n : Nat) : (hiL X n).length = n := by simp [hiL]
theorem hiL_succ (X n : Nat) : hiL X (n + 1) = hiL X n ++ [hiD X n] := by simp [hiL, List.range_succ]
theorem hiD_eq (X j : Nat) : hiD X j = 5 * ((X / 1361129467683753853853498429727072845824 / 256 ^ j % 256 : Nat) : Int) := by
  unfold hiD
  congr 2
  have e1 : X / 256 ^ (17 + j) = X / 256 ^ (16 + j) / 256 := by rw [Nat.div_div_eq_div_mul, ← Nat.pow_succ]; congr 2; omega
  have e2 : X / 1361129467683753853853498429727072845824 / 256 ^ j = X / 256 ^ (16 + j) / 4 := by
    rw [Nat.div_div_eq_div_mul, Nat.div_div_eq_div_mul, Nat.pow_add, show (256 : Nat) ^ 16 = 340282366920938463463374607431768211456 from by decide]
    congr 1
    rw [show 1361129467683753853853498429727072845824 = 340282366920938463463374607431768211456 * 4 from by decide, Nat.mul_assoc, Nat.mul_assoc, Nat.mul_comm 4]
  rw [e1, e2]
  generalize X / 256 ^ (16 + j) = Y
  omega
theorem hiL_val (X n : Nat) : leN (hiL X n) = 5 * (X / 1361129467683753853853498429727072845824 % 256 ^ n) := by
  have : hiL X n = (lowB ((X / 1361129467683753853853498429727072845824 : Nat) : Int) n).map fun d => ((5 : Nat) : Int) * d := by
    apply List.ext_getElem?
    intro i
    by_cases hi : i < n
    · have := lowB_get (X := X / 1361129467683753853853498429727072845824) hi
      rw [List.getD, List.getElem?_eq_getElem (by rw [lowB_length]; exact hi), Option.getD_some] at this
      simp only [hiL, List.getElem?_map, List.getElem?_range hi, Option.map_some, hiD_eq]
      rw [List.getElem?_eq_getElem (by rw [lowB_length]; exact hi), Option.map_some, this]
      rfl
    · rw [List.getElem?_eq_none (by rw [hiL_len]; omega), List.getElem?_eq_none (by rw [List.length_map, lowB_length]; omega)]
  rw [this, leN_scale 5 _ (lowB_by _ _).nn, leN_lowB]
theorem hiD_le (X j : Nat) : 0 ≤ hiD X j ∧ hiD X j ≤ 1275 := by rw [hiD_eq]; omega
theorem fold_facts {X : Nat} (hX : X < 256 ^ 40) : 5 * (X / 1361129467683753853853498429727072845824 % 256 ^ 24) = 5 * (X / 1361129467683753853853498429727072845824) ∧ 5 * (X / 1361129467683753853853498429727072845824) < 256 ^ 40 := by
  have h : X < 2135987035920910082395021706169552114602704522356652769947041607822219725780640550022962086936576 := hX
  have h24 : (256 : Nat) ^ 24 = 6277101735386680763835789423207666416102355444464034512896 := by decide
  have h40 : (256 : Nat) ^ 40 = 2135987035920910082395021706169552114602704522356652769947041607822219725780640550022962086936576 := by decide
  rw [h24, h40]
  omega
set_option maxRecDepth 100000 in
set_option maxHeartbeats 2000000 in
theorem rfold_any (g0 X : Nat) (w : World) (hX : X < 256 ^ 40) (hr : DR w g0 (dg X)) :
    Calls Try.prog 33 #[.slice (some ⟨g0, 0, none⟩) 40 40] w fun e w' => ∃ g, e = .returned (.slice (some ⟨g, 0, none⟩) 40 40) ∧ w.heap.size ≤ g ∧ DR w' g (dg (fold1 X)) ∧ Below w.heap.size w w' := by
  obtain ⟨i0, hi, hz, hsz, hby⟩ := int_info
  obtain ⟨f1, f2⟩ := fold_facts hX
  have F1 := hide f1
  have F2 := hide f2
  have HX := hide hX
  clear f1 f2 hX
  go_enter Try.func33, Try.ntmps33
  go_wp2_with (first
    | (with_reducible refine wl_make (o := ⟨some 8, _, _, _, _, _⟩) rfl 51 (.const (.int .i64 40)) (.const (.int .i64 40)) rfl 3 i0 (.int .i64 0) Try.underlying51 hi hz hsz rfl .i64 .i64 40 40 40 40 rfl rfl rfl rfl (Nat.le_refl _) (by omega) (by omega) ?_; intro g1 w1 r1 p1 l1 b1)
    | (with_reducible refine wl_make (o := ⟨some 9, _, _, _, _, _⟩) rfl 51 (.const (.int .i64 40)) (.const (.int .i64 40)) rfl 3 i0 (.int .i64 0) Try.underlying51 hi hz hsz rfl .i64 .i64 40 40 40 40 rfl rfl rfl rfl (Nat.le_refl _) (by omega) (by omega) ?_; intro g2 w2 r2 p2 l2 b2))
  have hgl := hr.lt
  have s1 := b1.size
  have hr2 := (Row.later hr b1).later b2
  have r1' := r1.later b2
  have hne1 : g0 ≠ g1 := by omega
  have hne2 : g0 ≠ g2 := by omega
  have hne : g1 ≠ g2 := by omega
  have B2 := b1.trans (b2.mono s1)
  clear r1
  go_loopw [5] (fun iv wr => ∃ i : Nat, i ≤ 16 ∧ iv = .int .i64 i ∧ Row wr 3 g1 (vk .i64 ((dg X).take i ++ List.replicate (40 - i) 0)) ∧ But g1 w2 wr) (fun iv _ => 16 - (intOf iv).toNat)
  case atStart => exact ⟨0, Nat.zero_le _, rfl, r1', But.refl _ _⟩
  case round =>
    clear r1'
    obtain ⟨i, him, rfl, rr, br⟩ := hrel
    by_cases hi' : i < 16
    · have h40 : i < 40 := by omega
      have cell := (hr2.but br hne1).cell (vk_get (kd := .i64) (xs := dg X) (j := i) (by rw [dg_len]; exact h40))
      have hset := fill_at (xs := dg X) (zs := []) (i := i) (n := 40) (v := (dg X).getD i 0) h40 (Nat.le_of_eq (dg_len X).symm) rfl 40 (Nat.le_refl _)
      have HS := hide hset
      have hcl : i < (vk .i64 ((dg X).take i ++ List.replicate (40 - i) 0)).length := by rw [vk_len, List.length_append, List.length_replicate, List.length_take, dg_len]; omega
      clear hset
      generalize (dg X).getD i 0 = x at *
      go_wp2_with (first
        | (with_reducible refine wl_store rfl 3 (.tmp 20) (.tmp 19) g1 i 3 _ (.int .i64 x) rfl (by kernel_rfl) rfl rfl rr hcl rfl ?_; intro w3 r3 o3; rw [vk_set, HS.out] at r3))
      go_roundw
      case rel => exact ⟨i + 1, by omega, by go_num, r3, br.trans (But.only o3)⟩
      case measure => simp [intOf]; omega
    · have h16 : i = 16 := by omega
      rw [h16] at rr
      clear h16
      have c16 := (hr2.but br hne1).cell (vk_get (kd := .i64) (xs := dg X) (j := 16) (by rw [dg_len]; decide))
      rw [dg_get (by decide)] at c16
      have hset := take_set (L := (dg X).take 16) (n := 16) (v := ((X / 256 ^ 16 % 256 % 4 : Nat) : Int)) 40 (by rw [List.length_take, dg_len]; rfl) (by decide)
      have hmd : ((X / 256 ^ 16 % 256 : Nat) : Int) % 4 = ((X / 256 ^ 16 % 256 % 4 : Nat) : Int) := by omega
      have HS := hide (show ((dg X).take 16 ++ List.replicate (40 - 16) 0).set 16 (((X / 256 ^ 16 % 256 : Nat) : Int) % 4) = dg (X % 1361129467683753853853498429727072845824) by rw [hmd, hset]; exact lowF_eq)
      have hd0 : 0 ≤ ((X / 256 ^ 16 % 256 : Nat) : Int) ∧ ((X / 256 ^ 16 % 256 : Nat) : Int) < 256 := by omega
      have hcl : 16 < (vk .i64 ((dg X).take 16 ++ List.replicate (40 - 16) 0)).length := by rw [vk_len, List.length_append, List.length_replicate, List.length_take, dg_len]; decide
      clear hset hmd
      generalize ((X / 256 ^ 16 % 256 : Nat) : Int) = d at *
      obtain ⟨hd1, hd2⟩ := hd0
      go_wp2_with (first
        | (with_reducible refine wl_store rfl 3 (.tmp 26) (.tmp 25) g1 16 3 _ (.int .i64 (d % 4)) rfl (by kernel_rfl) rfl rfl rr hcl rfl ?_; intro w3 r3 o3; rw [vk_set, HS.out] at r3))
      have hr3 := (hr2.but br hne1).only o3 hne1
      have r23 := (r2.but br (Ne.symm hne)).only o3 (Ne.symm hne)
      have s3 := br.size; have s4 := o3.size
      have B3 := B2.trans ((br.trans (But.only o3)).below p1 B2.size)
      clear rr c16 HS hcl br o3 hd1 hd2
      go_loopw [6] (fun iv wr => ∃ n : Nat, n ≤ 24 ∧ iv = .int .i64 ((16 + n : Nat) : Int) ∧ Row wr 3 g2 (vk .i64 (hiL X n ++ List.replicate (40 - n) 0)) ∧ But g2 w3 wr) (fun iv _ => 40 - (intOf iv).toNat)
      case atStart => exact ⟨0, Nat.zero_le _, rfl, r23, But.refl _ _⟩
      case round =>
        clear r23
        obtain ⟨n, hn24, rfl, rr, br⟩ := hrel
        by_cases hn : n < 24
        · have hdn : decide (((16 + n : Nat) : Int) < 40) = true := by simp; omega
          have c1 := (hr3.but br hne2).cell (vk_get (kd := .i64) (xs := dg X) (j := 16 + n) (by rw [dg_len]; omega))
          rw [dg_get (by omega)] at c1
          have hset := take_set (L := hiL X n) (n := n) (v := hiD X n) 40 (hiL_len X n) (by omega)
          rw [← hiL_succ] at hset
          have hcl : n < (vk .i64 (hiL X n ++ List.replicate (40 - n) 0)).length := by rw [vk_len, List.length_append, List.length_replicate, hiL_len]; omega
          have d0 : 0 ≤ ((X / 256 ^ (16 + n) % 256 : Nat) : Int) ∧ ((X / 256 ^ (16 + n) % 256 : Nat) : Int) < 256 := by omega
          have hval : hiD X n = 5 * (((X / 256 ^ (16 + n) % 256 : Nat) : Int) / 4 + 64 * (((X / 256 ^ (17 + n) % 256 : Nat) : Int) % 4)) := by unfold hiD; omega
          have e0 : 0 ≤ ((X / 256 ^ (17 + n) % 256 : Nat) : Int) ∧ ((X / 256 ^ (17 + n) % 256 : Nat) : Int) < 256 := by omega
          have hq1 : (((16 + n : Nat) : Int)) - 16 = (n : Int) := by omega
          have hln : n < 40 := by omega
          have hq40 : 16 + n < 40 := by omega
          have c2' : n < 23 → Row wr 3 g0 (vk .i64 (dg X)) → wr.cell? ⟨g0, 16 + n + 1, none⟩ = some (.int .i64 ((X / 256 ^ (17 + n) % 256 : Nat) : Int)) := fun h r => by
            have := r.cell (vk_get (kd := .i64) (xs := dg X) (j := 16 + n + 1) (by rw [dg_len]; omega))
            rw [dg_get (by omega)] at this
            rwa [show 16 + n + 1 = 17 + n by omega] at this ⊢
          have c2 := fun h => c2' h (hr3.but br hne2)
          have z23 : n = 23 → ((X / 256 ^ (17 + n) % 256 : Nat) : Int) = 0 := fun h => by
            rw [h, Nat.div_eq_of_lt HX.out]; rfl
          have HZ := hide z23
          clear z23
          have HVL := hide hval
          have HST := hide hset
          have hsz1 : 24 - n = 24 - (n + 1) + 1 := by omega
          have hqq : 16 + n + 1 = 16 + (n + 1) := by omega
          have HQQ := hide hqq
          clear hval hset hqq c2'
          generalize ((X / 256 ^ (16 + n) % 256 : Nat) : Int) = d at *
          generalize ((X / 256 ^ (17 + n) % 256 : Nat) : Int) = e at *
          obtain ⟨d1, d2⟩ := d0
          obtain ⟨e1, e2⟩ := e0
          by_cases hn1 : n < 23
          · have hdn1 : decide (((16 + n : Nat) : Int) + 1 < 40) = true := by simp; omega
            have c3 := c2 hn1
            have hq41 : 16 + n + 1 < 40 := by omega
            clear c2
            generalize 16 + n = q at *
            go_wp2_with (first
              | (with_reducible refine wl_store rfl 3 (.tmp 52) (.tmp 51) g2 n 3 _ (.int .i64 (5 * (d / 4 + 64 * (e % 4)))) rfl (by kernel_rfl) rfl rfl rr hcl rfl ?_; intro w5 r5 o5; rw [vk_set, ← HVL.out, HST.out] at r5))
            exact ⟨⟨n + 1, by omega, by rw [← HQQ.out]; rfl, r5, br.trans (But.only o5)⟩, by simp [intOf]; omega⟩
          · have hdn1 : decide (((16 + n : Nat) : Int) + 1 < 40) = false := by simp; omega
            have hz0 : e = 0 := HZ.out (by omega)
            have hv0 : hiD X n = 5 * (d / 4) := by rw [HVL.out, hz0]; simp
            have HV0 := hide hv0
            clear c2 hv0 hz0 HZ HVL e1 e2
            generalize 16 + n = q at *
            go_wp2_with (first
              | (with_reducible refine wl_store rfl 3 (.tmp 52) (.tmp 51) g2 n 3 _ (.int .i64 (5 * (d / 4))) rfl (by kernel_rfl) rfl rfl rr hcl rfl ?_; intro w5 r5 o5; rw [vk_set, ← HV0.out, HST.out] at r5))
            exact ⟨⟨n + 1, by omega, by rw [← HQQ.out]; rfl, r5, br.trans (But.only o5)⟩, by simp [intOf]; omega⟩
        · have h24 : n = 24 := by omega
          subst h24
          have nz : IsNn (hiL X 24 ++ List.replicate (40 - 24) 0) := by
            intro y hy
            rcases List.mem_append.1 hy with h | h
            · simp only [hiL, List.mem_map, List.mem_range] at h
              obtain ⟨j, _, rfl⟩ := h
              exact (hiD_le X j).1
            · exact (IsBy.rep 16).nn y h
          have bz : ∀ i, i < (hiL X 24 ++ List.replicate (40 - 24) 0).length → ((hiL X 24 ++ List.replicate (40 - 24) 0).getD i 0).toNat ≤ 255 * 1099511627776 := by
            intro j hj
            have hm : (hiL X 24 ++ List.replicate (40 - 24) 0).getD j 0 ∈ hiL X 24 ++ List.replicate (40 - 24) 0 := by rw [List.getD, List.getElem?_eq_getElem hj]; simp
            generalize (hiL X 24 ++ List.replicate (40 - 24) 0).getD j 0 = y at *
            rcases List.mem_append.1 hm with h | h
            · simp only [hiL, List.mem_map, List.mem_range] at h
              obtain ⟨i, _, rfl⟩ := h
              have := (hiD_le X i).2
              omega
            · have := (List.mem_replicate.1 h).2
              omega
          have lz : (hiL X 24 ++ List.replicate (40 - 24) 0).length = 40 := by rw [List.length_append, hiL_len, List.length_replicate]
          have vz : leN (hiL X 24 ++ List.replicate (40 - 24) 0) = 5 * (X / 1361129467683753853853498429727072845824) := by rw [leN_append, leN_zeros, Nat.mul_zero, Nat.add_zero, hiL_val, F1.out]
          have VZ := hide vz
          clear vz
          generalize hiL X 24 ++ List.replicate (40 - 24) 0 = hs at *
          go_wp2_with fail
          refine (carry_any g2 hs wr lz nz bz rr).mono ?_
          rintro e w6 ⟨rfl, r6, b6⟩
          rw [VZ.out] at r6
          have r16 := (r3.but br hne).but b6 hne
          go_wp2_with fail
          refine (rplus_any g1 g2 (dg (X % 1361129467683753853853498429727072845824)) (dg (5 * (X / 1361129467683753853853498429727072845824))) w6 (dg_len _) (dg_len _) (dg_nn _) (dg_nn _) (fun i h => Int.le_trans (dg_le h) (by decide)) (fun i h => Int.le_trans (dg_le h) (by decide)) r16 r6).mono ?_
          rintro e w7 ⟨g, rfl, pg, r7, b7⟩
          rw [dg_val (Nat.lt_of_lt_of_le (Nat.mod_lt X (by decide)) (by decide)), dg_val F2.out] at r7
          have s5 := br.size; have s6 := b6.size
          have s2' := B2.size; have s3' := B3.size
          go_wp2
          go_ret
          exact ⟨g, rfl, by omega, r7, (B3.trans ((br.trans b6).below (by omega) s3')).trans (b7.mono (by omega))⟩
end Go.Proofs.Ytcinhofapkddpaa

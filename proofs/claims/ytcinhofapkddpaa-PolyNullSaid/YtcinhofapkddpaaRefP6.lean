/-
  The document's answer for poly: which bits of a key count; sixteen digits: contracts. Own work.
-/
import Derived.Test.YtcinhofapkddpaaRefP5
namespace Go.Proofs.Ytcinhofapkddpaa
open Go.RowKit
set_option linter.unusedVariables false
set_option linter.unusedSimpArgs false
theorem land_step {x m a b : Nat} (hx : x < 256) (hm : m < 256) : (x + 256 * a) &&& (m + 256 * b) = (x &&& m) + 256 * (a &&& b) := by
  have h1 : ((x + 256 * a) &&& (m + 256 * b)) % 2 ^ 8 = x &&& m := by
    rw [Nat.and_mod_two_pow]
    congr 1 <;> omega
  have h2 : ((x + 256 * a) &&& (m + 256 * b)) / 2 ^ 8 = a &&& b := by
    rw [← Nat.shiftRight_eq_div_pow, Nat.shiftRight_and_distrib, Nat.shiftRight_eq_div_pow, Nat.shiftRight_eq_div_pow]
    congr 1 <;> omega
  have := Nat.mod_add_div ((x + 256 * a) &&& (m + 256 * b)) (2 ^ 8)
  rw [h1, h2] at this
  exact this.symm
def andL (xs ms : List Int) : List Int := List.zipWith (fun a b => ((a.toNat &&& b.toNat : Nat) : Int)) xs ms
theorem leN_and : ∀ (xs ms : List Int), xs.length = ms.length → IsBy xs → IsBy ms → leN xs &&& leN ms = leN (andL xs ms)
  | [], [], _, _, _ => rfl
  | x :: xs, m :: ms, h, hx, hm => by
    have h1 := leN_and xs ms (by simpa using h) (fun y hy => hx y (List.mem_cons_of_mem _ hy)) (fun y hy => hm y (List.mem_cons_of_mem _ hy))
    have h2 := hx x (by simp)
    have h3 := hm m (by simp)
    simp only [leN, andL, List.zipWith_cons_cons, Int.toNat_natCast]
    rw [land_step (by omega) (by omega), h1]
    rfl
def msk (i : Nat) : Int := if i % 4 = 3 then 15 else if 0 < i ∧ i % 4 = 0 then 252 else 255
def mskL : List Int := (List.range 16).map msk
theorem msk_lo : leN (mskL.take 8) = 1152921487695413247 := by decide +kernel
theorem msk_hi : leN (mskL.drop 8) = 1152921487695413244 := by decide +kernel
theorem mskL_by : IsBy mskL := by_of_all (by decide +kernel)
theorem clN_and {ks : List Int} (h : ks.length = 16) (hb : IsBy ks) : clN (leN ks) = leN (andL ks mskL) := by
  have e0 : nW (leN ks) 0 = leN (ks.take 8) := by
    show leN ks / 1 % 256 ^ 8 = _
    rw [Nat.div_one, leN_mod hb]
  have e1 : nW (leN ks) 1 = leN (ks.drop 8) := by
    show leN ks / 256 ^ 8 % 256 ^ 8 = _
    rw [leN_div hb, leN_mod (hb.drop 8), List.take_of_length_le (by rw [List.length_drop]; omega)]
  have l8 : (mskL.take 8).length = 8 := rfl
  have e2 : andL ks mskL = andL (ks.take 8) (mskL.take 8) ++ andL (ks.drop 8) (mskL.drop 8) := by
    conv => lhs; rw [← List.take_append_drop 8 ks, ← List.take_append_drop 8 mskL]
    unfold andL
    rw [List.zipWith_append (by rw [List.length_take, l8]; omega)]
  unfold clN
  rw [e0, e1, ← msk_lo, ← msk_hi, leN_and _ _ (by rw [List.length_take, l8]; omega) (hb.take 8) (mskL_by.take 8), leN_and _ _ (by rw [List.length_drop, h]; rfl) (hb.drop 8) (mskL_by.drop 8), e2, leN_append]
  congr 2
  simp [andL, h, mskL]
theorem andB {b : Nat} (h : b < 256) : b &&& 255 = b ∧ b &&& 15 = b % 16 ∧ b &&& 252 = b / 4 * 4 := by
  have : ∀ b : Fin 256, (b : Nat) &&& 255 = b ∧ (b : Nat) &&& 15 = (b : Nat) % 16 ∧ (b : Nat) &&& 252 = (b : Nat) / 4 * 4 := by decide +kernel
  exact this ⟨b, h⟩
def clB (i : Nat) (x : Int) : Int := if i % 4 = 3 then x % 16 else if 0 < i ∧ i % 4 = 0 then x / 4 * 4 else x
def clL (ks : List Int) (n : Nat) : List Int := (List.range n).map fun i => clB i (ks.getD i 0)
theorem clL_len (ks : List Int) (n : Nat) : (clL ks n).length = n := by simp [clL]
theorem clL_succ (ks : List Int) (n : Nat) : clL ks (n + 1) = clL ks n ++ [clB n (ks.getD n 0)] := by simp [clL, List.range_succ]
theorem clB_and {x : Int} (h0 : 0 ≤ x) (h1 : x < 256) (i : Nat) : clB i x = ((x.toNat &&& (msk i).toNat : Nat) : Int) := by
  obtain ⟨a1, a2, a3⟩ := andB (b := x.toNat) (by omega)
  unfold clB msk
  split
  · rw [show (15 : Int).toNat = 15 from rfl, a2]; omega
  · split
    · rw [show (252 : Int).toNat = 252 from rfl, a3]; omega
    · rw [show (255 : Int).toNat = 255 from rfl, a1]; omega
theorem clL_and {ks : List Int} (h : 16 ≤ ks.length) (hb : IsBy ks) : clL ks 16 = andL (ks.take 16) mskL := by
  apply List.ext_getElem?
  intro i
  by_cases hi : i < 16
  · obtain ⟨b0, b1⟩ := getD_byte hb i
    have e : (ks.take 16)[i]? = some (ks.getD i 0) := by
      rw [List.getElem?_take_of_lt hi, List.getD, List.getElem?_eq_getElem (show i < ks.length by omega)]
      rfl
    have e2 : mskL[i]? = some (msk i) := by simp [mskL, hi]
    simp only [clL, andL, List.getElem?_map, List.getElem?_range hi, Option.map_some, List.getElem?_zipWith, e, e2, clB_and b0 b1]
  · rw [List.getElem?_eq_none (by rw [clL_len]; omega), List.getElem?_eq_none (by simp [andL, mskL]; omega)]
theorem clL_val {ks : List Int} (h : 16 ≤ ks.length) (hb : IsBy ks) : leN (clL ks 16) = clN (leN (ks.take 16)) := by
  rw [clL_and h hb, clN_and (by rw [List.length_take]; omega) (hb.take 16)]
theorem clL_by {ks : List Int} (hb : IsBy ks) (n : Nat) : IsBy (clL ks n) := by
  intro y hy
  simp only [clL, List.mem_map, List.mem_range] at hy
  obtain ⟨i, _, rfl⟩ := hy
  obtain ⟨b0, b1⟩ := getD_byte hb i
  unfold clB
  split
  · omega
  · split <;> omega
set_option maxRecDepth 100000 in
set_option maxHeartbeats 2000000 in
theorem clamp_any (ks : List Int) (w : World) (hk : ks.length = 32) (hb : IsBy ks) :
    Calls Try.prog 19 #[.agg (bv ks).toArray] w fun e w' => ∃ g, e = .returned (.slice (some ⟨g, 0, none⟩) 16 16) ∧ w.heap.size ≤ g ∧ Row w' 5 g (bv (clL ks 16)) ∧ Below w.heap.size w w' := by
  obtain ⟨i0, hi, hz, hsz, hby⟩ := u8_info
  have Hk := hide hk
  clear hk
  go_enter Try.func19, Try.ntmps19
  go_wp2_with (first
    | (with_reducible refine wl_box rfl 22 (.tmp 0) _ (bv ks) rfl rfl rfl ?_; intro g1 w1 r1 p1 l1 b1)
    | (with_reducible refine wl_make rfl 23 (.const (.int .i64 16)) (.const (.int .i64 16)) rfl 5 i0 (.int .u8 0) Try.underlying23 hi hz hsz rfl .i64 .i64 16 16 16 16 rfl rfl rfl rfl (Nat.le_refl _) (by omega) (by omega) ?_; intro g w2 r2 p2 l2 b2))
  have hne : g1 ≠ g := by have := r1.lt; omega
  have rk := r1.later b2
  have B2 := b1.trans (b2.mono b1.size)
  have s1 := b1.size
  clear r1
  go_loopw [4] (fun iv wr => ∃ i : Nat, i ≤ 16 ∧ iv = .int .i64 i ∧ Row wr 5 g (bv (clL ks i ++ List.replicate (16 - i) 0)) ∧ But g w2 wr) (fun iv _ => 16 - (intOf iv).toNat)
  case atStart => exact ⟨0, Nat.zero_le _, rfl, r2, But.refl _ _⟩
  case round =>
    clear r2
    obtain ⟨i, him, rfl, rr, br⟩ := hrel
    by_cases hlt : i < 16
    · have h32 : i < 32 := by omega
      have hkl : i < ks.length := by rw [Hk.out]; exact h32
      have ck := (rk.but br hne).cell (show (bv ks)[i]? = some (.int .u8 (ks.getD i 0)) by simp [bv, List.getD, hkl])
      obtain ⟨x0, x1⟩ := getD_byte hb i
      have hs1 : ∀ v, (bv (clL ks i ++ List.replicate (16 - i) 0)).set i (.int .u8 v) = bv ((clL ks i ++ [v]) ++ List.replicate (16 - (i + 1)) 0) := fun v => by rw [bv_set, take_set 16 (clL_len ks i) hlt]
      have hs2 : ∀ u v, (bv ((clL ks i ++ [u]) ++ List.replicate (16 - (i + 1)) 0)).set i (.int .u8 v) = bv ((clL ks i ++ [v]) ++ List.replicate (16 - (i + 1)) 0) := fun u v => by
        rw [bv_set, List.append_assoc, List.set_append_right _ _ (by rw [clL_len]; omega), clL_len, Nat.sub_self]
        simp
      have hg2 : ∀ u, (bv ((clL ks i ++ [u]) ++ List.replicate (16 - (i + 1)) 0))[i]? = some (.int .u8 u) := fun u => by
        rw [bv, List.getElem?_map, List.append_assoc, List.getElem?_append_right (by rw [clL_len]; omega), clL_len, Nat.sub_self]
        rfl
      have hl1 : i < (bv (clL ks i ++ List.replicate (16 - i) 0)).length := by rw [bv_len, List.length_append, List.length_replicate, clL_len]; omega
      have hl2 : ∀ u, i < (bv ((clL ks i ++ [u]) ++ List.replicate (16 - (i + 1)) 0)).length := fun u => (List.getElem?_eq_some_iff.1 (hg2 u)).1
      have hsucc := clL_succ ks i
      have hclb : Hid (clB i (ks.getD i 0) = if i % 4 = 3 then ks.getD i 0 % 16 else if 0 < i ∧ i % 4 = 0 then ks.getD i 0 / 4 * 4 else ks.getD i 0) := rfl
      have HSU := hide hsucc
      have HS1 := hide hs1
      have HS2 := hide hs2
      have HG2 := hide hg2
      clear hsucc hs1 hs2 hg2
      generalize ks.getD i 0 = x at *
      by_cases h3 : i % 4 = 3
      · have t3 : (((i : Int) % 4) == 3) = true := beq_iff_eq.2 (by omega)
        have tg : 0 < i := by omega
        have t0 : (((i : Int) % 4) == 0) = false := beq_eq_false_iff_ne.2 (by omega)
        rw [show clB i x = x % 16 by rw [hclb.out, if_pos h3]] at HSU
        clear h3
        go_wp2_with (first
          | (with_reducible refine wl_store rfl 5 (.tmp 15) (.tmp 14) g i 5 _ (.int .u8 x) rfl (by kernel_rfl) rfl rfl rr hl1 rfl ?_; intro w3 r3 o3; rw [HS1.out] at r3; have c3 := r3.cell (HG2.out x))
          | (with_reducible refine wl_store rfl 5 (.tmp 26) (.tmp 25) g i 5 _ (.int .u8 (x % 16)) rfl (by kernel_rfl) rfl rfl r3 (hl2 x) rfl ?_; intro w4 r4 o4; rw [HS2.out, ← HSU.out] at r4))
        all_goals exact ⟨⟨i + 1, by omega, rfl, r4, (br.trans (But.only o3)).trans (But.only o4)⟩, by simp [intOf]; omega⟩
      · have t3 : (((i : Int) % 4) == 3) = false := beq_eq_false_iff_ne.2 (by omega)
        by_cases h0 : 0 < i ∧ i % 4 = 0
        · have tg : 0 < i := by omega
          have t0 : (((i : Int) % 4) == 0) = true := beq_iff_eq.2 (by omega)
          rw [show clB i x = x / 4 * 4 by rw [hclb.out, if_neg h3, if_pos h0]] at HSU
          clear h3 h0
          go_wp2_with (first
            | (with_reducible refine wl_store rfl 5 (.tmp 15) (.tmp 14) g i 5 _ (.int .u8 x) rfl (by kernel_rfl) rfl rfl rr hl1 rfl ?_; intro w3 r3 o3; rw [HS1.out] at r3; have c3 := r3.cell (HG2.out x))
            | (with_reducible refine wl_store rfl 5 (.tmp 42) (.tmp 41) g i 5 _ (.int .u8 (x / 4 * 4)) rfl (by kernel_rfl) rfl rfl r3 (hl2 x) rfl ?_; intro w4 r4 o4; rw [HS2.out, ← HSU.out] at r4))
          all_goals exact ⟨⟨i + 1, by omega, rfl, r4, (br.trans (But.only o3)).trans (But.only o4)⟩, by simp [intOf]; omega⟩
        · rw [show clB i x = x by rw [hclb.out, if_neg h3, if_neg h0]] at HSU
          by_cases hi0 : 0 < i
          · have tg : 0 < i := by omega
            have t0 : (((i : Int) % 4) == 0) = false := beq_eq_false_iff_ne.2 (by omega)
            clear h3 h0
            go_wp2_with (first
              | (with_reducible refine wl_store rfl 5 (.tmp 15) (.tmp 14) g i 5 _ (.int .u8 x) rfl (by kernel_rfl) rfl rfl rr hl1 rfl ?_; intro w3 r3 o3; rw [HS1.out, ← HSU.out] at r3))
            all_goals exact ⟨⟨i + 1, by omega, rfl, r3, br.trans (But.only o3)⟩, by simp [intOf]; omega⟩
          · have tg : ¬ 0 < i := by omega
            clear h3 h0
            go_wp2_with (first
              | (with_reducible refine wl_store rfl 5 (.tmp 15) (.tmp 14) g i 5 _ (.int .u8 x) rfl (by kernel_rfl) rfl rfl rr hl1 rfl ?_; intro w3 r3 o3; rw [HS1.out, ← HSU.out] at r3))
            all_goals exact ⟨⟨i + 1, by omega, rfl, r3, br.trans (But.only o3)⟩, by simp [intOf]; omega⟩
    · have h16 : i = 16 := by omega
      rw [h16, Nat.sub_self, List.replicate_zero, List.append_nil] at rr
      clear h16
      go_wp2
      go_ret
      exact ⟨g, rfl, by omega, rr, B2.trans (br.below (by omega) B2.size)⟩
set_option maxRecDepth 100000 in
set_option maxHeartbeats 1000000 in
theorem bytes16_any (g0 X : Nat) (w : World) (hr : DR w g0 (dg X)) :
    Calls Try.prog 23 #[.slice (some ⟨g0, 0, none⟩) 40 40] w fun e w' => e = .returned (.agg (bv (lowB (X : Int) 16)).toArray) ∧ Below w.heap.size w w' := by
  go_enter Try.func23, Try.ntmps23
  go_wp2_with (first
    | (with_reducible refine wl_alloc (o := ⟨some 2, _, _, _, _, _⟩) rfl 26 _ (bv (List.replicate 16 0)) rfl zero16 rfl ?_; intro g2 w1 r1 p1 l1 b1)
    | (with_reducible refine wl_alloc (o := ⟨some 3, _, _, _, _, _⟩) rfl 26 _ (bv (List.replicate 16 0)) rfl zero16 rfl ?_; intro g3 w2 r2 p2 l2 b2))
  have hg := hr.lt
  have s1 := b1.size
  have hr2 := (Row.later hr b1).later b2
  have r12 := r1.later b2
  have hne : g0 ≠ g3 := by omega
  have hne2 : g2 ≠ g3 := by omega
  have B2 := b1.trans (b2.mono s1)
  clear r1
  go_loopw [4] (fun iv wr => ∃ i : Nat, i ≤ 16 ∧ iv = .int .i64 i ∧ Row wr 26 g3 (bv (lowB (X : Int) i ++ List.replicate (16 - i) 0)) ∧ But g3 w2 wr) (fun iv _ => 16 - (intOf iv).toNat)
  case atStart => exact ⟨0, Nat.zero_le _, rfl, r2, But.refl _ _⟩
  case round =>
    clear r2
    obtain ⟨i, him, rfl, rr, br⟩ := hrel
    by_cases hlt : i < 16
    · have h40 : i < 40 := by omega
      have ck := (hr2.but br hne).cell (vk_get (kd := .i64) (xs := dg X) (j := i) (by rw [dg_len]; exact h40))
      have hx : (dg X).getD i 0 = (X : Int) / 256 ^ i % 256 := by
        rw [dg_get h40]
        have e : ((256 : Int) ^ i) = ((256 ^ i : Nat) : Int) := by simp
        rw [e, ← Int.natCast_ediv]
        omega
      have hs := take_set (L := lowB (X : Int) i) (n := i) (v := (dg X).getD i 0) 16 (lowB_length _ _) hlt
      rw [hx, ← lowB_snoc, ← hx] at hs
      obtain ⟨x0, x1⟩ := getD_byte (dg_by X) i
      have HS := hide hs
      have hl1 : i < (bv (lowB (X : Int) i ++ List.replicate (16 - i) 0)).length := by rw [bv_len, List.length_append, List.length_replicate, lowB_length]; omega
      clear hs hx
      generalize (dg X).getD i 0 = x at *
      go_wp2_with (first
        | (with_reducible refine wl_store rfl 5 (.tmp 15) (.tmp 14) g3 i 26 _ (.int .u8 x) rfl (by kernel_rfl) rfl rfl rr hl1 rfl ?_; intro w3 r3 o3; rw [bv_set, HS.out] at r3))
      all_goals exact ⟨⟨i + 1, by omega, rfl, r3, br.trans (But.only o3)⟩, by simp [intOf]; omega⟩
    · have h16 : i = 16 := by omega
      rw [h16, Nat.sub_self, List.replicate_zero, List.append_nil] at rr
      have r2' := r12.but br hne2
      have z := size16 (lowB_length (X : Int) 16)
      have lz : (bv (List.replicate 16 0)).length = (bv (lowB (X : Int) 16)).length := by rw [bv_len, bv_len, lowB_length, List.length_replicate]
      clear h16
      generalize hL : lowB (X : Int) 16 = L at *
      have HL := hide hL
      clear hL
      go_wp2_with (first
        | (with_reducible refine wl_load_row rfl 26 (.tmp 3) g3 26 _ _ rfl rfl rr Try.underlying26 rfl z ?_)
        | (with_reducible refine wl_store_row rfl 26 (.tmp 2) (.tmp 16) g2 26 _ (bv L) rfl rfl rfl r2' z lz (bv_one _) ?_; intro w5 r5 o5))
      refine bodyPost_ret (v := .agg (bv L).toArray) ?_ rfl ⟨by rw [HL.out], ?_⟩
      · exact results_cell_row Try.results23 _ _ g2 26 _ (0, 0) _ rfl r5 Try.underlying26 rfl (by simpa using z)
      · exact (B2.trans (br.below (by omega) B2.size)).trans (o5.below p1)
end Go.Proofs.Ytcinhofapkddpaa

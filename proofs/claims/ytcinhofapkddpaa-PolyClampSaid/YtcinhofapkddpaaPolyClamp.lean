/-
  The law PolyClamp: contract. Own work.
-/
import Derived.Test.YtcinhofapkddpaaPolySum
import Derived.Laws.BitsAllLaws
namespace Go.Proofs.Ytcinhofapkddpaa
open Go.RowKit
set_option linter.unusedVariables false
set_option linter.unusedSimpArgs false
def oB (i : Nat) (x b : Int) : Int := if i % 4 = 3 then bits .xor .u8 x (bits .and .u8 b 240) else if 0 < i ∧ i % 4 = 0 then bits .xor .u8 x (bits .and .u8 b 3) else x
theorem xorB {x b : Int} (x0 : 0 ≤ x) (x1 : x < 256) (b0 : 0 ≤ b) (b1 : b < 256) (c : Nat) (hc : c < 256) : bits .xor .u8 x (bits .and .u8 b (c : Int)) = ((x.toNat ^^^ (b.toNat &&& c) : Nat) : Int) ∧ x.toNat ^^^ (b.toNat &&& c) < 256 := by
  obtain ⟨X, rfl⟩ := Int.eq_ofNat_of_zero_le x0
  obtain ⟨B, rfl⟩ := Int.eq_ofNat_of_zero_le b0
  have h1 : B &&& c < 2 ^ 8 := Nat.and_lt_two_pow _ hc
  rw [u8_and_nat B c (by omega) hc, u8_xor_nat X (B &&& c) (by omega) (by omega)]
  exact ⟨rfl, Nat.xor_lt_two_pow (n := 8) (by show X < 256; omega) h1⟩
theorem oB_by {x b : Int} (x0 : 0 ≤ x) (x1 : x < 256) (b0 : 0 ≤ b) (b1 : b < 256) (i : Nat) : 0 ≤ oB i x b ∧ oB i x b < 256 := by
  have h1 := xorB x0 x1 b0 b1 240 (by decide)
  have h2 := xorB x0 x1 b0 b1 3 (by decide)
  unfold oB
  split
  · rw [show ((240 : Int)) = ((240 : Nat) : Int) from rfl, h1.1]; have := h1.2; omega
  · split
    · rw [show ((3 : Int)) = ((3 : Nat) : Int) from rfl, h2.1]; have := h2.2; omega
    · exact ⟨x0, x1⟩
theorem clB_oB {x b : Int} (x0 : 0 ≤ x) (x1 : x < 256) (b0 : 0 ≤ b) (b1 : b < 256) (i : Nat) : clB i (oB i x b) = clB i x := by
  have h1 := xorB x0 x1 b0 b1 240 (by decide)
  have h2 := xorB x0 x1 b0 b1 3 (by decide)
  obtain ⟨X, rfl⟩ := Int.eq_ofNat_of_zero_le x0
  obtain ⟨B, rfl⟩ := Int.eq_ofNat_of_zero_le b0
  simp only [Int.toNat_natCast] at h1 h2
  unfold clB oB
  by_cases h3 : i % 4 = 3
  · simp only [h3, if_true]
    rw [show ((240 : Int)) = ((240 : Nat) : Int) from rfl, h1.1]
    have : (X ^^^ (B &&& 240)) % 2 ^ 4 = X % 2 ^ 4 := by
      rw [Nat.xor_mod_two_pow, Nat.and_mod_two_pow]
      simp
    omega
  · simp only [h3, if_false]
    by_cases h0 : 0 < i ∧ i % 4 = 0
    · simp only [h0, and_self, if_true]
      rw [show ((3 : Int)) = ((3 : Nat) : Int) from rfl, h2.1]
      have : (X ^^^ (B &&& 3)) / 2 ^ 2 = X / 2 ^ 2 := by
        rw [← Nat.shiftRight_eq_div_pow, Nat.shiftRight_xor_distrib, Nat.shiftRight_and_distrib]
        simp [Nat.shiftRight_eq_div_pow]
      omega
    · simp only [h0, if_false]
def otL (ks bs : List Int) (i : Nat) : List Int := (List.range i).map (fun j => oB j (ks.getD j 0) (bs.getD j 0)) ++ ks.drop i
theorem otL_0 (ks bs : List Int) : otL ks bs 0 = ks := by simp [otL]
theorem otL_len {ks bs : List Int} {i : Nat} (h : i ≤ ks.length) : (otL ks bs i).length = ks.length := by simp [otL]; omega
theorem otL_set {ks bs : List Int} {i : Nat} (h : i < ks.length) {v : Int} (hv : v = oB i (ks.getD i 0) (bs.getD i 0)) : (otL ks bs i).set i v = otL ks bs (i + 1) := by
  subst hv
  unfold otL
  rw [List.set_append_right _ _ (by simp), List.length_map, List.length_range, Nat.sub_self, List.drop_eq_getElem_cons h, List.set_cons_zero, List.range_succ, List.map_append, List.append_assoc]
  rfl
theorem otL_same {ks bs : List Int} {i : Nat} (h : i < ks.length) (hv : oB i (ks.getD i 0) (bs.getD i 0) = ks.getD i 0) : otL ks bs (i + 1) = otL ks bs i := by
  unfold otL
  rw [List.range_succ, List.map_append, List.append_assoc, List.drop_eq_getElem_cons h]
  simp only [List.map_cons, List.map_nil, hv, List.cons_append, List.nil_append]
  simp [List.getD, h]
theorem otL_by {ks bs : List Int} (hk : IsBy ks) (hb : IsBy bs) (i : Nat) : IsBy (otL ks bs i) := by
  refine IsBy.app ?_ (hk.drop i)
  intro y hy
  simp only [List.mem_map, List.mem_range] at hy
  obtain ⟨j, _, rfl⟩ := hy
  obtain ⟨x0, x1⟩ := getD_byte hk j
  obtain ⟨b0, b1⟩ := getD_byte hb j
  exact oB_by x0 x1 b0 b1 j
theorem clamp_eq {ks bs : List Int} (h : ks.length = 32) (hk : IsBy ks) (hb : IsBy bs) (xs : List Int) : pS (otL ks bs 16) xs = pS ks xs := by
  have hl : (otL ks bs 16).length = 32 := by rw [otL_len (by omega), h]
  have e1 : clL (otL ks bs 16) 16 = clL ks 16 := by
    unfold clL
    refine List.map_congr_left fun i hi => ?_
    have hi := List.mem_range.1 hi
    obtain ⟨x0, x1⟩ := getD_byte hk i
    obtain ⟨b0, b1⟩ := getD_byte hb i
    rw [← clB_oB x0 x1 b0 b1 i]
    congr 1
    unfold otL
    rw [List.getD, List.getElem?_append_left (by simpa using hi)]
    simp [hi]
  have e2 : (otL ks bs 16).drop 16 = ks.drop 16 := by
    unfold otL
    rw [List.drop_append, List.drop_eq_nil_of_le (by simp), List.nil_append]
    simp
  unfold pS
  rw [← clL_val (by omega) (otL_by hk hb 16), ← clL_val (by omega) hk, e1, e2]
def SC8 (g3 g4 g7 i : Nat) (x b : Int) (opn : Nat) (v : Value) : Prop :=
  match opn with
  | 0 | 1 | 4 => v = .int .i64 (i : Int)
  | 2 => v = .pointer (some ⟨g3, i, none⟩)
  | 3 => v = .int .u8 x
  | 5 => v = .pointer (some ⟨g4, i, none⟩)
  | 6 => v = .int .u8 b
  | 7 => v = .int .u8 (bits .and .u8 b 240)
  | 8 => v = .int .u8 (bits .xor .u8 x (bits .and .u8 b 240))
  | 9 => v = .pointer (some ⟨g7, i, none⟩)
  | _ => True

def SC10 (g3 g4 g7 i : Nat) (x b : Int) (opn : Nat) (v : Value) : Prop :=
  match opn with
  | 0 | 1 | 4 => v = .int .i64 (i : Int)
  | 2 => v = .pointer (some ⟨g3, i, none⟩)
  | 3 => v = .int .u8 x
  | 5 => v = .pointer (some ⟨g4, i, none⟩)
  | 6 => v = .int .u8 b
  | 7 => v = .int .u8 (bits .and .u8 b 3)
  | 8 => v = .int .u8 (bits .xor .u8 x (bits .and .u8 b 3))
  | 9 => v = .pointer (some ⟨g7, i, none⟩)
  | _ => True

def SC11 (ks os xs : List Int) (A : Option Addr) (g3 g7 m c : Nat) (opn : Nat) (v : Value) : Prop :=
  match opn with
  | 0 => v = .agg (bv os).toArray
  | 1 | 4 => v = .slice A m c
  | 2 | 5 => v = .agg (bv (pS ks xs)).toArray
  | 3 => v = .agg (bv ks).toArray
  | 6 | 7 | 8 | 9 | 10 => v = .bool true
  | _ => True

set_option maxRecDepth 100000 in
set_option maxHeartbeats 1500000 in
theorem polyClamp_any (ks bs xs : List Int) (A : Option Addr) (m c : Nat) (w : World) (hk : ks.length = 32) (hkb : IsBy ks) (hb16 : bs.length = 16) (hbb : IsBy bs) (hbs : Bs w w.heap.size A m xs) (hby : IsBy xs) (hc : m ≤ c) :
    Calls Try.prog 7 #[.agg (bv ks).toArray, .agg (bv bs).toArray, .slice A m c] w fun e w' => e = .returned (.bool true) ∧ Below w.heap.size w w' := by
  have Hk := hide hk
  have Hb := hide hb16
  have h32 := hide (size32 hk)
  have heq := clamp_eq hk hkb hbb xs
  have HEQ := hide heq
  clear hk heq hb16
  by_cases hlong : (1000 : Int) < (m : Int)
  · have hd : decide ((1000 : Int) < (m : Int)) = true := by simp; omega
    go_enter Try.func7, Try.ntmps7
    go_wp2_with (first
      | (with_reducible refine wl_box rfl 22 (.tmp 0) _ (bv ks) rfl rfl rfl ?_; intro g1 w1 r1 p1 l1 b1)
      | (with_reducible refine wl_box rfl 26 (.tmp 1) _ (bv bs) rfl rfl rfl ?_; intro g0 w0 r0 p0 l0 b0))
    refine (awake_any _).mono ?_
    rintro e w2 ⟨rfl, b2⟩
    go_wp2
    go_ret
    have s1 := b1.size; have s0 := b0.size
    exact ⟨rfl, (b1.trans (b0.mono s1)).trans (b2.mono (by omega))⟩
  · have hd : decide ((1000 : Int) < (m : Int)) = false := by simp; omega
    have l32 : (bv (List.replicate 32 0)).length = (bv ks).length := by rw [bv_len, bv_len, Hk.out, List.length_replicate]
    have L32 := hide l32
    clear l32
    go_enter Try.func7, Try.ntmps7
    go_wp2_with (first
      | (with_reducible refine wl_box rfl 22 (.tmp 0) _ (bv ks) rfl rfl rfl ?_; intro g3 w1 r1 p1 l1 b1)
      | (with_reducible refine wl_box rfl 26 (.tmp 1) _ (bv bs) rfl rfl rfl ?_; intro g4 w0 r0 p0 l0 b0; have r1' := r1.later b0)
      | (with_reducible refine wl_load_row rfl 22 (.tmp 3) g3 22 _ _ rfl rfl r1' Try.underlying22 rfl h32.out ?_)
      | (with_reducible refine wl_alloc rfl 22 _ (bv (List.replicate 32 0)) rfl zero32 rfl ?_; intro g7 w2 r2 p2 l2 b2)
      | (with_reducible refine wl_store_row rfl 22 (.tmp 7) (.tmp 13) g7 22 _ (bv ks) rfl rfl rfl r2 h32.out L32.out (bv_one _) ?_; intro w3 r3 o3))
    have s1 := b1.size; have s0 := b0.size; have s2 := b2.size; have s3 := o3.size
    have h37 : g3 ≠ g7 := by have := r1.lt; omega
    have h47 : g4 ≠ g7 := by have := r0.lt; omega
    have rk3 := (r1'.later b2).only o3 h37
    have rb3 := (r0.later b2).only o3 h47
    have ro : Row w3 22 g7 (bv (otL ks bs 0)) := by rw [otL_0]; exact r3
    have B3 := ((b1.trans (b0.mono s1)).trans (b2.mono (by omega))).trans (o3.below (by omega))
    clear r1 r1' r0 r2 r3 b1 b0 b2 o3
    go_loopw [8] (fun iv wr => ∃ i : Nat, i ≤ 16 ∧ iv = .int .i64 i ∧ Row wr 22 g7 (bv (otL ks bs i)) ∧ But g7 w3 wr) (fun iv _ => 16 - (intOf iv).toNat)
    case atStart => exact ⟨0, Nat.zero_le _, rfl, ro, But.refl _ _⟩
    case round =>
      clear ro
      obtain ⟨i, hi, rfl, ro, br⟩ := hrel
      by_cases hlt : i < 16
      · have h32i : i < 32 := by omega
        have hkl : i < ks.length := by rw [Hk.out]; exact h32i
        have rk := rk3.but br h37
        have rb := rb3.but br h47
        have ck : (bv ks)[i]? = some (.int .u8 (ks.getD i 0)) := by simp [bv, List.getD, hkl]
        have cb : (bv bs)[i]? = some (.int .u8 (bs.getD i 0)) := by simp [bv, List.getD, show i < bs.length by rw [Hb.out]; exact hlt]
        have hos := fun v hv => otL_set (bs := bs) hkl (v := v) hv
        have hosame := fun hv => otL_same (bs := bs) hkl hv
        have hob : ∀ x b, oB i x b = if i % 4 = 3 then bits .xor .u8 x (bits .and .u8 b 240) else if 0 < i ∧ i % 4 = 0 then bits .xor .u8 x (bits .and .u8 b 3) else x := fun x b => rfl
        have hcl : i < (bv (otL ks bs i)).length := by rw [bv_len, otL_len (by omega), Hk.out]; exact h32i
        have HO := hide hos
        have HSm := hide hosame
        have HB := hide hob
        clear hos hosame hob
        generalize ks.getD i 0 = x at *
        generalize bs.getD i 0 = b at *
        by_cases h3 : i % 4 = 3
        · have t3 : (((i : Int) % 4) == 3) = true := beq_iff_eq.2 (by omega)
          have tg : 0 < i := by omega
          have t0 : (((i : Int) % 4) == 0) = false := beq_eq_false_iff_ne.2 (by omega)
          have HOS := hide (HO.out (bits .xor .u8 x (bits .and .u8 b 240)) (by rw [HB.out, if_pos h3]))
          clear h3
          go_wp2_with fail
          rename_i Q1 K1 hK1
          refine wp_region_vals [10] (SC8 g3 g4 g7 i x b) (JB g7 22 wr 0 (bv (otL ks bs i)) (bv (otL ks bs (i + 1)))) (by kernel_rfl) (by kernel_rfl) (by kernel_rfl) (by kernel_rfl) (by kernel_rfl) (JB.start ro rfl) ?obs ?he
          case obs =>
            refine ⟨?_, ?_, ?_, ?_, ?_, ?_, ?_, ?_, ?_, ?_, ?_, trivial⟩
            · exact .inl ⟨by kernel_rfl, fun L a1 w1 n' h => ⟨_, rfl, run_move (.tmp 8) rfl (h.var n' 8 (by kernel_rfl))⟩⟩
            · exact .inl ⟨by kernel_rfl, fun L a1 w1 n' h => ⟨_, rfl, run_move (.tmp 8) rfl (h.var n' 8 (by kernel_rfl))⟩⟩
            · exact .inl ⟨by kernel_rfl, fun L a1 w1 n' h => ⟨_, rfl, run_index0 22 (.tmp 3) (.tmp 22) 32 5 g3 i rfl Try.underlying22 Try.sizeOf5 (h.var n' 3 (by kernel_rfl)) (h.dep n' 1 22 (by kernel_rfl) rfl) h32i⟩⟩
            · exact .inl ⟨by kernel_rfl, fun L a1 w1 n' h => ⟨_, rfl, run_loadA 5 (.tmp 23) ⟨g3, i, none⟩ rfl Try.isAgg5 (h.dep n' 2 23 (by kernel_rfl) rfl) ((rk.but h.inv.2.2 h37).cell ck)⟩⟩
            · exact .inl ⟨by kernel_rfl, fun L a1 w1 n' h => ⟨_, rfl, run_move (.tmp 8) rfl (h.var n' 8 (by kernel_rfl))⟩⟩
            · exact .inl ⟨by kernel_rfl, fun L a1 w1 n' h => ⟨_, rfl, run_index0 26 (.tmp 4) (.tmp 25) 16 5 g4 i rfl Try.underlying26 Try.sizeOf5 (h.var n' 4 (by kernel_rfl)) (h.dep n' 4 25 (by kernel_rfl) rfl) hlt⟩⟩
            · exact .inl ⟨by kernel_rfl, fun L a1 w1 n' h => ⟨_, rfl, run_loadA 5 (.tmp 26) ⟨g4, i, none⟩ rfl Try.isAgg5 (h.dep n' 5 26 (by kernel_rfl) rfl) ((rb.but h.inv.2.2 h47).cell cb)⟩⟩
            · refine .inl ⟨by kernel_rfl, fun L a1 w1 n' h => ⟨.int .u8 (bits .and .u8 b 240), rfl, ?_⟩⟩
              have e0 : a1.eval (.tmp 27) = _ := h.dep n' 6 27 (by kernel_rfl) rfl
              unfold execOp
              simp only [e0]
              go_simp
            · refine .inl ⟨by kernel_rfl, fun L a1 w1 n' h => ⟨.int .u8 (bits .xor .u8 x (bits .and .u8 b 240)), rfl, ?_⟩⟩
              have e0 : a1.eval (.tmp 24) = _ := h.dep n' 3 24 (by kernel_rfl) rfl
              have e1 : a1.eval (.tmp 28) = _ := h.dep n' 7 28 (by kernel_rfl) rfl
              unfold execOp
              simp only [e0, e1]
              go_simp
            · exact .inl ⟨by kernel_rfl, fun L a1 w1 n' h => ⟨_, rfl, run_index0 22 (.tmp 7) (.tmp 21) 32 5 g7 i rfl Try.underlying22 Try.sizeOf5 (h.var n' 7 (by kernel_rfl)) (h.dep n' 0 21 (by kernel_rfl) rfl) h32i⟩⟩
            · refine .inr fun L a1 w1 n' h K hK => ?_
              have no : L.getD 10 false = false := n'.not_yet
              refine st_store 5 (.tmp 30) (.tmp 29) g7 i 22 _ (.int .u8 (bits .xor .u8 x (bits .and .u8 b 240))) rfl (by kernel_rfl) (h.dep n' 9 30 (by kernel_rfl) rfl) (h.dep n' 8 29 (by kernel_rfl) rfl) (h.inv.1 no) hcl rfl ?_
              intro w3 r3 o3
              rw [bv_set, HOS.out] at r3
              exact hK undef w3 trivial (h.inv.store (us := []) o3 r3 rfl)
          case he =>
            intro V w5 hV hJ
            have r5 := hJ.2.1 rfl
            have bx := br.trans hJ.2.2
            clear hV hJ
            simp only [putOps, Act.put, List.setIfInBounds_toArray, List.set_cons_succ, List.set_cons_zero]
            refine hK1 _ _ ?_
            go_wp2
            all_goals exact ⟨⟨i + 1, by omega, rfl, r5, bx⟩, by simp [intOf]; omega⟩
        · have t3 : (((i : Int) % 4) == 3) = false := beq_eq_false_iff_ne.2 (by omega)
          by_cases h0 : 0 < i ∧ i % 4 = 0
          · have t0 : (((i : Int) % 4) == 0) = true := beq_iff_eq.2 (by omega)
            have tg : 0 < i := h0.1
            have HOS := hide (HO.out (bits .xor .u8 x (bits .and .u8 b 3)) (by rw [HB.out, if_neg h3, if_pos h0]))
            clear h3 h0
            go_wp2_with fail
            rename_i Q1 K1 hK1
            refine wp_region_vals [10] (SC10 g3 g4 g7 i x b) (JB g7 22 wr 0 (bv (otL ks bs i)) (bv (otL ks bs (i + 1)))) (by kernel_rfl) (by kernel_rfl) (by kernel_rfl) (by kernel_rfl) (by kernel_rfl) (JB.start ro rfl) ?obs ?he
            case obs =>
              refine ⟨?_, ?_, ?_, ?_, ?_, ?_, ?_, ?_, ?_, ?_, ?_, trivial⟩
              · exact .inl ⟨by kernel_rfl, fun L a1 w1 n' h => ⟨_, rfl, run_move (.tmp 8) rfl (h.var n' 8 (by kernel_rfl))⟩⟩
              · exact .inl ⟨by kernel_rfl, fun L a1 w1 n' h => ⟨_, rfl, run_move (.tmp 8) rfl (h.var n' 8 (by kernel_rfl))⟩⟩
              · exact .inl ⟨by kernel_rfl, fun L a1 w1 n' h => ⟨_, rfl, run_index0 22 (.tmp 3) (.tmp 39) 32 5 g3 i rfl Try.underlying22 Try.sizeOf5 (h.var n' 3 (by kernel_rfl)) (h.dep n' 1 39 (by kernel_rfl) rfl) h32i⟩⟩
              · exact .inl ⟨by kernel_rfl, fun L a1 w1 n' h => ⟨_, rfl, run_loadA 5 (.tmp 40) ⟨g3, i, none⟩ rfl Try.isAgg5 (h.dep n' 2 40 (by kernel_rfl) rfl) ((rk.but h.inv.2.2 h37).cell ck)⟩⟩
              · exact .inl ⟨by kernel_rfl, fun L a1 w1 n' h => ⟨_, rfl, run_move (.tmp 8) rfl (h.var n' 8 (by kernel_rfl))⟩⟩
              · exact .inl ⟨by kernel_rfl, fun L a1 w1 n' h => ⟨_, rfl, run_index0 26 (.tmp 4) (.tmp 42) 16 5 g4 i rfl Try.underlying26 Try.sizeOf5 (h.var n' 4 (by kernel_rfl)) (h.dep n' 4 42 (by kernel_rfl) rfl) hlt⟩⟩
              · exact .inl ⟨by kernel_rfl, fun L a1 w1 n' h => ⟨_, rfl, run_loadA 5 (.tmp 43) ⟨g4, i, none⟩ rfl Try.isAgg5 (h.dep n' 5 43 (by kernel_rfl) rfl) ((rb.but h.inv.2.2 h47).cell cb)⟩⟩
              · refine .inl ⟨by kernel_rfl, fun L a1 w1 n' h => ⟨.int .u8 (bits .and .u8 b 3), rfl, ?_⟩⟩
                have e0 : a1.eval (.tmp 44) = _ := h.dep n' 6 44 (by kernel_rfl) rfl
                unfold execOp
                simp only [e0]
                go_simp
              · refine .inl ⟨by kernel_rfl, fun L a1 w1 n' h => ⟨.int .u8 (bits .xor .u8 x (bits .and .u8 b 3)), rfl, ?_⟩⟩
                have e0 : a1.eval (.tmp 41) = _ := h.dep n' 3 41 (by kernel_rfl) rfl
                have e1 : a1.eval (.tmp 45) = _ := h.dep n' 7 45 (by kernel_rfl) rfl
                unfold execOp
                simp only [e0, e1]
                go_simp
              · exact .inl ⟨by kernel_rfl, fun L a1 w1 n' h => ⟨_, rfl, run_index0 22 (.tmp 7) (.tmp 38) 32 5 g7 i rfl Try.underlying22 Try.sizeOf5 (h.var n' 7 (by kernel_rfl)) (h.dep n' 0 38 (by kernel_rfl) rfl) h32i⟩⟩
              · refine .inr fun L a1 w1 n' h K hK => ?_
                have no : L.getD 10 false = false := n'.not_yet
                refine st_store 5 (.tmp 47) (.tmp 46) g7 i 22 _ (.int .u8 (bits .xor .u8 x (bits .and .u8 b 3))) rfl (by kernel_rfl) (h.dep n' 9 47 (by kernel_rfl) rfl) (h.dep n' 8 46 (by kernel_rfl) rfl) (h.inv.1 no) hcl rfl ?_
                intro w3 r3 o3
                rw [bv_set, HOS.out] at r3
                exact hK undef w3 trivial (h.inv.store (us := []) o3 r3 rfl)
            case he =>
              intro V w5 hV hJ
              have r5 := hJ.2.1 rfl
              have bx := br.trans hJ.2.2
              clear hV hJ
              simp only [putOps, Act.put, List.setIfInBounds_toArray, List.set_cons_succ, List.set_cons_zero]
              refine hK1 _ _ ?_
              go_wp2
              all_goals exact ⟨⟨i + 1, by omega, rfl, r5, bx⟩, by simp [intOf]; omega⟩
          · have ro' : Row wr 22 g7 (bv (otL ks bs (i + 1))) := by
              rw [HSm.out (by rw [HB.out, if_neg h3, if_neg h0])]; exact ro
            by_cases tg : 0 < i
            · have t0 : (((i : Int) % 4) == 0) = false := beq_eq_false_iff_ne.2 (by omega)
              clear h3 h0
              go_wp2
              all_goals exact ⟨⟨i + 1, by omega, rfl, ro', br⟩, by simp [intOf]; omega⟩
            · clear h3 h0
              go_wp2
              all_goals exact ⟨⟨i + 1, by omega, rfl, ro', br⟩, by simp [intOf]; omega⟩
      · have h16 : i = 16 := by omega
        rw [h16] at ro
        have los : (otL ks bs 16).length = 32 := by rw [otL_len (by rw [Hk.out]; decide), Hk.out]
        have bos := otL_by hkb hbb 16
        have BS := B3.trans (br.below (by omega) B3.size)
        have hxS : Bs wr wr.heap.size A m xs := hbs.later BS
        have r3 := rk3.but br h37
        have r7 := ro
        clear ro rk3 rb3 h16 br B3
        generalize otL ks bs 16 = os at *
        go_wp2_with fail
        rename_i K1 hK1
        refine wp_region_valsG [2, 5, 8] (SC11 ks os xs A g3 g7 m c) (JR wr) (by kernel_rfl) (by kernel_rfl) (by kernel_rfl) (by kernel_rfl) (Below.refl _ _).drew ?obs ?he
        case obs =>
          refine ⟨?_, ?_, ?_, ?_, ?_, ?_, ?_, ?_, ?_, ?_, ?_, trivial⟩
          · refine ⟨.inl rfl, ?_⟩
            exact .inl ⟨by kernel_rfl, fun L a1 w1 n' h => ⟨_, rfl, run_loadRow 22 (.tmp 7) g7 22 _ _ rfl (h.var n' 7 (by kernel_rfl)) (r7.later h.inv) Try.underlying22 rfl (size32 los)⟩⟩
          · refine ⟨.inl rfl, ?_⟩
            exact .inl ⟨by kernel_rfl, fun L a1 w1 n' h => ⟨_, rfl, run_move (.tmp 2) rfl (h.var n' 2 (by kernel_rfl))⟩⟩
          · refine ⟨.inl rfl, ?_⟩
            refine .inr fun L a1 w1 n' h K hK => ?_
            have e0 : a1.eval (.tmp 48) = .agg (bv os).toArray := h.dep n' 0 48 (by kernel_rfl) rfl
            have e1 : a1.eval (.tmp 49) = .slice A m c := h.dep n' 1 49 (by kernel_rfl) rfl
            refine st_call 11 _ _ #[.agg (bv os).toArray, .slice A m c] rfl Try.call11 ?_ (psum_any os xs A m c w1 los bos hby (hxS.later h.inv) hc) ?_
            · simp only [List.map_toArray, List.map_cons, List.map_nil, e0, e1]
            · rintro e w3 ⟨rfl, b9⟩
              rw [HEQ.out]
              exact ⟨_, rfl, hK _ w3 rfl (JR.call h.inv b9)⟩
          · refine ⟨.inl rfl, ?_⟩
            exact .inl ⟨by kernel_rfl, fun L a1 w1 n' h => ⟨_, rfl, run_loadRow 22 (.tmp 3) g3 22 _ _ rfl (h.var n' 3 (by kernel_rfl)) (r3.later h.inv) Try.underlying22 rfl (h32.out)⟩⟩
          · refine ⟨.inl rfl, ?_⟩
            exact .inl ⟨by kernel_rfl, fun L a1 w1 n' h => ⟨_, rfl, run_move (.tmp 2) rfl (h.var n' 2 (by kernel_rfl))⟩⟩
          · refine ⟨.inl rfl, ?_⟩
            refine .inr fun L a1 w1 n' h K hK => ?_
            have e0 : a1.eval (.tmp 51) = .agg (bv ks).toArray := h.dep n' 3 51 (by kernel_rfl) rfl
            have e1 : a1.eval (.tmp 52) = .slice A m c := h.dep n' 4 52 (by kernel_rfl) rfl
            refine st_call 11 _ _ #[.agg (bv ks).toArray, .slice A m c] rfl Try.call11 ?_ (psum_any ks xs A m c w1 Hk.out hkb hby (hxS.later h.inv) hc) ?_
            · simp only [List.map_toArray, List.map_cons, List.map_nil, e0, e1]
            · rintro e w3 ⟨rfl, b9⟩
              exact ⟨_, rfl, hK _ w3 rfl (JR.call h.inv b9)⟩
          · refine ⟨.inl rfl, ?_⟩
            exact .inl ⟨by kernel_rfl, fun L a1 w1 n' h => ⟨_, rfl, run_eqlT (.tmp 50) (.tmp 53) rfl Try.underlying26 (Classical.choose_spec u8_info).1 (by kernel_rfl) Try.underlying5 Try.isAgg5 (pS ks xs) (h.dep n' 2 50 (by kernel_rfl) rfl) (h.dep n' 5 53 (by kernel_rfl) rfl) (pS_len _ _) (by kernel_rfl)⟩⟩
          · refine ⟨.inl rfl, ?_⟩
            exact .inl ⟨by kernel_rfl, fun L a1 w1 n' h => ⟨_, rfl, run_move (.tmp 54) rfl (h.dep n' 6 54 (by kernel_rfl) rfl)⟩⟩
          · refine ⟨.inr ⟨7, true, 55, rfl, by kernel_rfl, rfl, by simp, fun v h => h⟩, ?_⟩
            refine .inr fun L a1 w1 n' h K hK => ?_
            refine st_call 9 _ _ #[] rfl Try.call9 ?_ (awake_any w1) ?_
            · simp
            · rintro e w3 ⟨rfl, b9⟩
              exact ⟨_, rfl, hK _ w3 rfl (JR.call h.inv b9)⟩
          · refine ⟨.inl rfl, ?_⟩
            exact .inl ⟨by kernel_rfl, fun L a1 w1 n' h => ⟨_, rfl, run_pickT (.tmp 55) _ _ rfl (h.dep n' 7 55 (by kernel_rfl) rfl) (h.dep n' 8 56 (by kernel_rfl) rfl)⟩⟩
          · refine ⟨.inl rfl, ?_⟩
            exact .inl ⟨by kernel_rfl, fun L a1 w1 n' h => ⟨_, rfl, run_assign (.tmp 57) rfl (h.dep n' 9 57 (by kernel_rfl) rfl)⟩⟩
        case he =>
          intro V w5 hV hJ
          have h10 : V 10 = .bool true := hV 10 6 rfl
          have hB : Below wr.heap.size wr w5 := hJ
          clear hV hJ
          simp only [putOps, Act.put, List.setIfInBounds_toArray, List.set_cons_succ, List.set_cons_zero]
          refine hK1 _ _ ?_
          go_wp2
          go_ret
          exact ⟨congrArg Ending.returned h10, BS.trans (hB.mono BS.size)⟩
end Go.Proofs.Ytcinhofapkddpaa

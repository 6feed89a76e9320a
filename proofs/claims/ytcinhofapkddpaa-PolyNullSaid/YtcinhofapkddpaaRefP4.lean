/-
  The document's answer for poly: the prime; which is below: contracts. Own work.
-/
import Derived.Test.YtcinhofapkddpaaRefP3
namespace Go.Proofs.Ytcinhofapkddpaa
open Go.RowKit
set_option linter.unusedVariables false
set_option linter.unusedSimpArgs false
def prL (i : Nat) : List Int := 251 :: List.replicate (i - 1) 255
theorem prL_len {i : Nat} (h : 1 ≤ i) : (prL i).length = i := by simp [prL]; omega
theorem prL_succ {i : Nat} (h : 1 ≤ i) : prL i ++ [255] = prL (i + 1) := by
  obtain ⟨j, rfl⟩ : ∃ j, i = j + 1 := ⟨i - 1, by omega⟩
  simp [prL, List.replicate_succ']
theorem rep_vk : List.replicate 40 (Value.int .i64 0) = vk .i64 (List.replicate 40 (0 : Int)) := by simp only [vk, List.map_replicate]
theorem prL_all : (prL 16 ++ [3]) ++ List.replicate (40 - (16 + 1)) 0 = dg p130 := by decide +kernel
set_option maxRecDepth 100000 in
set_option maxHeartbeats 1000000 in
theorem prime_any (w : World) :
    Calls Try.prog 34 #[] w fun e w' => ∃ g, e = .returned (.slice (some ⟨g, 0, none⟩) 40 40) ∧ w.heap.size ≤ g ∧ DR w' g (dg p130) ∧ Below w.heap.size w w' := by
  obtain ⟨i0, hi, hz, hsz, hby⟩ := int_info
  have h0 : (vk .i64 (List.replicate 40 (0 : Int))).set 0 (.int .i64 251) = vk .i64 (prL 1 ++ List.replicate (40 - 1) 0) := rfl
  have l0 : 0 < (vk .i64 (List.replicate 40 (0 : Int))).length := by rw [vk_len, List.length_replicate]; decide
  have hall := prL_all
  have HA := hide hall
  clear hall
  go_enter Try.func34, Try.ntmps34
  go_wp2_with (first
    | (with_reducible refine wl_make rfl 51 (.const (.int .i64 40)) (.const (.int .i64 40)) rfl 3 i0 (.int .i64 0) Try.underlying51 hi hz hsz rfl .i64 .i64 40 40 40 40 rfl rfl rfl rfl (Nat.le_refl _) (by omega) (by omega) ?_; intro g w1 r1 p1 l1 b1; rw [rep_vk] at r1)
    | (with_reducible refine wl_store rfl 3 (.tmp 5) (.const (.int .i64 251)) g 0 3 _ (.int .i64 251) rfl (by kernel_rfl) rfl rfl r1 l0 rfl ?_; intro w2 r2 o2; rw [h0] at r2))
  have B2 := b1.trans (o2.below p1)
  go_loopw [2] (fun iv wr => ∃ i : Nat, 1 ≤ i ∧ i ≤ 16 ∧ iv = .int .i64 i ∧ Row wr 3 g (vk .i64 (prL i ++ List.replicate (40 - i) 0)) ∧ Below w.heap.size w wr) (fun iv _ => 16 - (intOf iv).toNat)
  case atStart => exact ⟨1, Nat.le_refl _, by omega, rfl, r2, B2⟩
  case round =>
    obtain ⟨i, h1, him, rfl, rr, br⟩ := hrel
    by_cases hlt : i < 16
    · have hset := take_set (L := prL i) (n := i) (v := 255) 40 (prL_len h1) (by omega)
      rw [prL_succ h1] at hset
      have HS := hide hset
      have hcl : i < (vk .i64 (prL i ++ List.replicate (40 - i) 0)).length := by rw [vk_len, List.length_append, List.length_replicate, prL_len h1]; omega
      have h40 : i < 40 := by omega
      clear hset
      go_wp2_with (first
        | (with_reducible refine wl_store rfl 3 (.tmp 12) (.const (.int .i64 255)) g i 3 _ (.int .i64 255) rfl (by kernel_rfl) rfl rfl rr hcl rfl ?_; intro w3 r3 o3; rw [vk_set, HS.out] at r3))
      go_roundw
      case rel => exact ⟨i + 1, by omega, by omega, by go_num, r3, br.trans (o3.below p1)⟩
      case measure => simp [intOf]; omega
    · have : i = 16 := by omega
      subst this
      have hset := take_set (L := prL 16) (n := 16) (v := 3) 40 (prL_len (by decide)) (by decide)
      rw [HA.out] at hset
      have HS := hide hset
      have hcl : 16 < (vk .i64 (prL 16 ++ List.replicate (40 - 16) 0)).length := by rw [vk_len, List.length_append, List.length_replicate, prL_len (by decide)]; decide
      clear hset
      generalize prL 16 ++ List.replicate (40 - 16) 0 = cur at *
      go_wp2_with (first
        | (with_reducible refine wl_store rfl 3 (.tmp 14) (.const (.int .i64 3)) g 16 3 _ (.int .i64 3) rfl (by kernel_rfl) rfl rfl rr hcl rfl ?_; intro w3 r3 o3; rw [vk_set, HS.out] at r3))
      go_ret
      exact ⟨g, rfl, p1, r3, br.trans (o3.below p1)⟩
/-! ### Below -/
theorem div_step (A n : Nat) : A / 256 ^ n = A / 256 ^ (n + 1) * 256 + A / 256 ^ n % 256 := by
  rw [Nat.pow_succ, ← Nat.div_div_eq_div_mul]
  omega
theorem lt_of_digit {A B n : Nat} (h : A / 256 ^ (n + 1) = B / 256 ^ (n + 1)) (hd : A / 256 ^ n % 256 < B / 256 ^ n % 256) : A < B := by
  have h1 := div_step A n
  have h2 := div_step B n
  have h3 : A / 256 ^ n < B / 256 ^ n := by rw [h] at h1; omega
  rcases Nat.lt_or_ge A B with h4 | h4
  · exact h4
  · have := Nat.div_le_div_right (c := 256 ^ n) h4
    omega
theorem eq_step {A B n : Nat} (h : A / 256 ^ (n + 1) = B / 256 ^ (n + 1)) (hd : A / 256 ^ n % 256 = B / 256 ^ n % 256) : A / 256 ^ n = B / 256 ^ n := by
  have h1 := div_step A n
  have h2 := div_step B n
  rw [h] at h1
  omega
def SB4 (ga gb i x y : Nat) (bne : Bool) (opn : Nat) (v : Value) : Prop :=
  match opn with
  | 0 => v = .slice (some ⟨ga, 0, none⟩) 40 40
  | 1 | 5 => v = .int .i64 (i : Int)
  | 2 => v = .pointer (some ⟨ga, i, none⟩)
  | 3 => v = .int .i64 (x : Int)
  | 4 => v = .slice (some ⟨gb, 0, none⟩) 40 40
  | 6 => v = .pointer (some ⟨gb, i, none⟩)
  | 7 => v = .int .i64 (y : Int)
  | 8 => v = .bool bne
  | _ => True

def SB5 (ga gb i x y : Nat) (opn : Nat) (v : Value) : Prop :=
  match opn with
  | 0 => v = .slice (some ⟨ga, 0, none⟩) 40 40
  | 1 | 5 => v = .int .i64 (i : Int)
  | 2 => v = .pointer (some ⟨ga, i, none⟩)
  | 3 => v = .int .i64 (x : Int)
  | 4 => v = .slice (some ⟨gb, 0, none⟩) 40 40
  | 6 => v = .pointer (some ⟨gb, i, none⟩)
  | 7 => v = .int .i64 (y : Int)
  | 8 | 9 => v = .bool (decide ((x : Int) < (y : Int)))
  | _ => True

set_option maxRecDepth 100000 in
set_option maxHeartbeats 2000000 in
theorem below_any (ga gb A B : Nat) (w : World) (hA : A < 256 ^ 40) (hB : B < 256 ^ 40) (hra : DR w ga (dg A)) (hrb : DR w gb (dg B)) :
    Calls Try.prog 35 #[.slice (some ⟨ga, 0, none⟩) 40 40, .slice (some ⟨gb, 0, none⟩) 40 40] w fun e w' => e = .returned (.bool (decide (A < B))) ∧ Below w.heap.size w w' := by
  have h40 : A / 256 ^ 40 = B / 256 ^ 40 := by rw [Nat.div_eq_of_lt hA, Nat.div_eq_of_lt hB]
  have H40 := hide h40
  clear hA hB h40
  go_enter Try.func35, Try.ntmps35
  go_wp2
  go_loopw [5] (fun iv wr => ∃ n : Nat, n ≤ 40 ∧ iv = .int .i64 ((n : Int) - 1) ∧ Hid (A / 256 ^ n = B / 256 ^ n) ∧ Below w.heap.size w wr) (fun iv _ => (intOf iv + 1).toNat)
  case atStart => exact ⟨40, Nat.le_refl _, rfl, H40, Below.refl _ _⟩
  case round =>
    obtain ⟨n, hn, rfl, he, br⟩ := hrel
    by_cases hlt : 0 < n
    · obtain ⟨i, rfl⟩ : ∃ i, n = i + 1 := ⟨n - 1, by omega⟩
      have hi40 : i < 40 := by omega
      rw [show ((i + 1 : Nat) : Int) - 1 = (i : Int) by omega]
      have rga := Row.later hra br
      have rgb := Row.later hrb br
      have cga := vk_get (kd := .i64) (xs := dg A) (j := i) (by rw [dg_len]; exact hi40)
      have cgb := vk_get (kd := .i64) (xs := dg B) (j := i) (by rw [dg_len]; exact hi40)
      rw [dg_get hi40] at cga cgb
      have hlt' := fun h => lt_of_digit (n := i) he.out h
      have hgt' := fun h => lt_of_digit (A := B) (B := A) (n := i) he.out.symm h
      have heq' := fun h => eq_step (n := i) he.out h
      have HLT := hide hlt'
      have HGT := hide hgt'
      have HEQ := hide heq'
      clear hlt' hgt' heq' he hn hlt
      generalize A / 256 ^ i % 256 = x at *
      generalize B / 256 ^ i % 256 = y at *
      have hd0 : decide ((0 : Int) ≤ (i : Int)) = true := by simp
      obtain ⟨bne, hbne⟩ : ∃ bne : Bool, bne = ((x : Int) != (y : Int)) := ⟨_, rfl⟩
      go_wp2_with fail
      rename_i Q1 K1 hK1
      refine wp_region_vals [] (SB4 ga gb i x y bne) (JR wr) (by kernel_rfl) (by kernel_rfl) (by kernel_rfl) (by kernel_rfl) (by kernel_rfl) (Below.refl _ _).drew ?obs ?he
      case obs =>
        refine ⟨?_, ?_, ?_, ?_, ?_, ?_, ?_, ?_, ?_, trivial⟩
        · exact .inl ⟨by kernel_rfl, fun L a1 w1 n' h => ⟨_, rfl, run_move (.tmp 0) rfl (h.var n' 0 (by kernel_rfl))⟩⟩
        · exact .inl ⟨by kernel_rfl, fun L a1 w1 n' h => ⟨_, rfl, run_move (.tmp 5) rfl (h.var n' 5 (by kernel_rfl))⟩⟩
        · exact .inl ⟨by kernel_rfl, fun L a1 w1 n' h => ⟨_, rfl, run_indexS0 51 (.tmp 10) (.tmp 11) 3 ga 40 40 i rfl Try.underlying51 Try.sizeOf3 (h.dep n' 0 10 (by kernel_rfl) rfl) (h.dep n' 1 11 (by kernel_rfl) rfl) hi40⟩⟩
        · exact .inl ⟨by kernel_rfl, fun L a1 w1 n' h => ⟨_, rfl, run_loadA 3 (.tmp 12) ⟨ga, i, none⟩ rfl Try.isAgg3 (h.dep n' 2 12 (by kernel_rfl) rfl) ((rga.later h.inv).cell cga)⟩⟩
        · exact .inl ⟨by kernel_rfl, fun L a1 w1 n' h => ⟨_, rfl, run_move (.tmp 1) rfl (h.var n' 1 (by kernel_rfl))⟩⟩
        · exact .inl ⟨by kernel_rfl, fun L a1 w1 n' h => ⟨_, rfl, run_move (.tmp 5) rfl (h.var n' 5 (by kernel_rfl))⟩⟩
        · exact .inl ⟨by kernel_rfl, fun L a1 w1 n' h => ⟨_, rfl, run_indexS0 51 (.tmp 14) (.tmp 15) 3 gb 40 40 i rfl Try.underlying51 Try.sizeOf3 (h.dep n' 4 14 (by kernel_rfl) rfl) (h.dep n' 5 15 (by kernel_rfl) rfl) hi40⟩⟩
        · exact .inl ⟨by kernel_rfl, fun L a1 w1 n' h => ⟨_, rfl, run_loadA 3 (.tmp 16) ⟨gb, i, none⟩ rfl Try.isAgg3 (h.dep n' 6 16 (by kernel_rfl) rfl) ((rgb.later h.inv).cell cgb)⟩⟩
        · refine .inl ⟨by kernel_rfl, fun L a1 w1 n' h => ⟨.bool bne, rfl, ?_⟩⟩
          have e0 : a1.eval (.tmp 13) = _ := h.dep n' 3 13 (by kernel_rfl) rfl
          have e1 : a1.eval (.tmp 17) = _ := h.dep n' 7 17 (by kernel_rfl) rfl
          unfold execOp
          simp only [e0, e1]
          go_simp
      case he =>
        intro V w5 hV hJ
        have h8 : V 8 = .bool bne := hV 8 18 rfl
        have hB : Below wr.heap.size wr w5 := hJ
        clear hV hJ
        simp only [putOps, List.setIfInBounds_toArray, List.set_cons_succ, List.set_cons_zero]
        rw [h8]
        refine hK1 _ _ ?_
        have br5 := br.trans (hB.mono br.size)
        by_cases hxy : x = y
        · have hb : bne = false := by rw [hbne, hxy]; simp
          rw [hb]
          have hq := HEQ.out hxy
          have HQ := hide hq
          clear hq hbne hb HLT HGT HEQ hxy
          go_wp2
          go_roundw
          case rel => exact ⟨i, by omega, rfl, HQ.out, br5⟩
          case measure => simp [intOf]
        · have hb : bne = true := by rw [hbne, bne_iff_ne]; omega
          rw [hb]
          have hr : decide ((x : Int) < (y : Int)) = decide (A < B) := by
            rcases Nat.lt_or_ge x y with h | h
            · rw [decide_eq_true (by omega), decide_eq_true (HLT.out h)]
            · have := HGT.out (by omega)
              rw [decide_eq_false (by omega), decide_eq_false (by omega)]
          have HR := hide hr
          clear hr hbne hb HLT HGT HEQ
          have rga5 := Row.later hra br5
          have rgb5 := Row.later hrb br5
          clear rga rgb
          have rga := rga5
          have rgb := rgb5
          clear rga5 rgb5 br hB
          generalize hw5 : w5 = wr5 at *
          clear hw5
          go_wp2_with fail
          rename_i K2 hK2
          refine wp_region_vals [] (SB5 ga gb i x y) (JR wr5) (by kernel_rfl) (by kernel_rfl) (by kernel_rfl) (by kernel_rfl) (by kernel_rfl) (Below.refl _ _).drew ?obs ?he
          case obs =>
            refine ⟨?_, ?_, ?_, ?_, ?_, ?_, ?_, ?_, ?_, ?_, trivial⟩
            · exact .inl ⟨by kernel_rfl, fun L a1 w1 n' h => ⟨_, rfl, run_move (.tmp 0) rfl (h.var n' 0 (by kernel_rfl))⟩⟩
            · exact .inl ⟨by kernel_rfl, fun L a1 w1 n' h => ⟨_, rfl, run_move (.tmp 5) rfl (h.var n' 5 (by kernel_rfl))⟩⟩
            · exact .inl ⟨by kernel_rfl, fun L a1 w1 n' h => ⟨_, rfl, run_indexS0 51 (.tmp 19) (.tmp 20) 3 ga 40 40 i rfl Try.underlying51 Try.sizeOf3 (h.dep n' 0 19 (by kernel_rfl) rfl) (h.dep n' 1 20 (by kernel_rfl) rfl) hi40⟩⟩
            · exact .inl ⟨by kernel_rfl, fun L a1 w1 n' h => ⟨_, rfl, run_loadA 3 (.tmp 21) ⟨ga, i, none⟩ rfl Try.isAgg3 (h.dep n' 2 21 (by kernel_rfl) rfl) ((rga.later h.inv).cell cga)⟩⟩
            · exact .inl ⟨by kernel_rfl, fun L a1 w1 n' h => ⟨_, rfl, run_move (.tmp 1) rfl (h.var n' 1 (by kernel_rfl))⟩⟩
            · exact .inl ⟨by kernel_rfl, fun L a1 w1 n' h => ⟨_, rfl, run_move (.tmp 5) rfl (h.var n' 5 (by kernel_rfl))⟩⟩
            · exact .inl ⟨by kernel_rfl, fun L a1 w1 n' h => ⟨_, rfl, run_indexS0 51 (.tmp 23) (.tmp 24) 3 gb 40 40 i rfl Try.underlying51 Try.sizeOf3 (h.dep n' 4 23 (by kernel_rfl) rfl) (h.dep n' 5 24 (by kernel_rfl) rfl) hi40⟩⟩
            · exact .inl ⟨by kernel_rfl, fun L a1 w1 n' h => ⟨_, rfl, run_loadA 3 (.tmp 25) ⟨gb, i, none⟩ rfl Try.isAgg3 (h.dep n' 6 25 (by kernel_rfl) rfl) ((rgb.later h.inv).cell cgb)⟩⟩
            · refine .inl ⟨by kernel_rfl, fun L a1 w1 n' h => ⟨.bool (decide ((x : Int) < (y : Int))), rfl, ?_⟩⟩
              have e0 : a1.eval (.tmp 22) = _ := h.dep n' 3 22 (by kernel_rfl) rfl
              have e1 : a1.eval (.tmp 26) = _ := h.dep n' 7 26 (by kernel_rfl) rfl
              unfold execOp
              simp only [e0, e1]
              go_simp
            · exact .inl ⟨by kernel_rfl, fun L a1 w1 n' h => ⟨_, rfl, run_assign (.tmp 27) rfl (h.dep n' 8 27 (by kernel_rfl) rfl)⟩⟩
          case he =>
            intro V w6 hV hJ
            have h9 : V 9 = .bool (decide ((x : Int) < (y : Int))) := hV 9 4 rfl
            have hB : Below wr5.heap.size wr5 w6 := hJ
            clear hV hJ
            rw [HR.out] at h9
            simp only [putOps, List.setIfInBounds_toArray, List.set_cons_succ, List.set_cons_zero]
            refine hK2 _ _ ?_
            go_wp2
            go_ret
            exact ⟨congrArg Ending.returned h9, br5.trans (hB.mono br5.size)⟩
    · have h0 : n = 0 := by omega
      subst h0
      have hAB : decide (A < B) = false := by
        have := he.out
        rw [Nat.pow_zero, Nat.div_one, Nat.div_one] at this
        rw [this]; simp
      have HAB := hide hAB
      clear hAB
      go_wp2
      go_ret
      exact ⟨(congrArg (fun b => Ending.returned (Value.bool b)) HAB.out).symm, br⟩
end Go.Proofs.Ytcinhofapkddpaa

/-
  The document's answer for poly: a product: contract. Own work.
-/
import Derived.Test.YtcinhofapkddpaaRefP1
namespace Go.Proofs.Ytcinhofapkddpaa
open Go.RowKit
set_option linter.unusedVariables false
set_option linter.unusedSimpArgs false
/-- In the middle of the school method. -/
structure Sch (us bs : List Int) (i k : Nat) (ds : List Int) : Prop where
  len : ds.length = 40
  nn : IsNn ds
  bd : ∀ j, j < 40 → ds.getD j 0 ≤ 65025 * (20 * i + k : Nat)
  val : leN ds = leN (us.take i) * leN (bs.take 20) + 256 ^ i * (us.getD i 0).toNat * leN (bs.take k)
theorem Sch.start {us bs : List Int} : Sch us bs 0 0 (List.replicate 40 0) := by
  refine ⟨by simp, (IsBy.rep 40).nn, fun j hj => ?_, by simp [leN_zeros, leN]⟩
  have : (List.replicate 40 (0 : Int)).getD j 0 = 0 := by
    rw [List.getD, List.getElem?_replicate]
    split <;> rfl
  rw [this]; omega
theorem Sch.next {us bs ds : List Int} {i : Nat} (h : Sch us bs i 20 ds) (hu : us.length = 40) (hi : i < 20) : Sch us bs (i + 1) 0 ds := by
  refine ⟨h.len, h.nn, fun j hj => ?_, ?_⟩
  · have := h.bd j hj
    rw [show 20 * (i + 1) + 0 = 20 * i + 20 by omega]
    exact this
  · rw [h.val, leN_take_succ (ds := us) (i := i) (by omega), Nat.add_mul]
    simp [leN]
theorem Sch.step {us bs ds : List Int} {i k : Nat} (h : Sch us bs i k ds) (hu : us.length = 40) (hb : bs.length = 40) (bu : IsBy us) (bb : IsBy bs) (hi : i < 20) (hk : k < 20) {v : Int} (hv : v = ds.getD (i + k) 0 + ((us.getD i 0).toNat * (bs.getD k 0).toNat : Nat)) : Sch us bs i (k + 1) (ds.set (i + k) v) := by
  have hl := h.len
  have hd0 : 0 ≤ ds.getD (i + k) 0 := h.nn _ (by rw [List.getD, List.getElem?_eq_getElem (show i + k < ds.length by omega)]; simp)
  obtain ⟨a0, a1⟩ := getD_byte bu i
  obtain ⟨b0, b1⟩ := getD_byte bb k
  have hp : (us.getD i 0).toNat * (bs.getD k 0).toNat ≤ 255 * 255 := Nat.mul_le_mul (by omega) (by omega)
  refine ⟨by rw [List.length_set, hl], ?_, fun j hj => ?_, ?_⟩
  · intro x hx
    rcases List.mem_or_eq_of_mem_set hx with h1 | rfl
    · exact h.nn x h1
    · rw [hv]; omega
  · have hbj := h.bd j hj
    by_cases e : j = i + k
    · subst e
      have : (ds.set (i + k) v).getD (i + k) 0 = v := by simp [List.getD, List.getElem?_set_self (show i + k < ds.length by omega)]
      rw [this, hv]
      omega
    · have : (ds.set (i + k) v).getD j 0 = ds.getD j 0 := by simp [List.getD, List.getElem?_set_ne (Ne.symm e)]
      rw [this]
      omega
  · rw [leN_set (by omega) hd0 hv, h.val, leN_take_succ (ds := bs) (i := k) (by omega), Nat.pow_add, Nat.mul_add, ← Nat.add_assoc]
    congr 1
    ac_rfl
theorem Sch.done {us bs ds : List Int} (h : Sch us bs 20 0 ds) : leN ds = leN (us.take 20) * leN (bs.take 20) := by rw [h.val]; simp [leN]
def SRt (ga gb g5 i k X Y P : Nat) (o : Int) (opn : Nat) (v : Value) : Prop :=
  match opn with
  | 0 | 4 => v = .slice (some ⟨g5, 0, none⟩) 40 40
  | 1 | 5 | 11 => v = .int .i64 (i : Int)
  | 2 | 6 | 15 => v = .int .i64 (k : Int)
  | 3 | 7 => v = .int .i64 ((i + k : Nat) : Int)
  | 8 | 20 => v = .pointer (some ⟨g5, (i + k), none⟩)
  | 9 => v = .int .i64 o
  | 10 => v = .slice (some ⟨ga, 0, none⟩) 40 40
  | 12 => v = .pointer (some ⟨ga, i, none⟩)
  | 13 => v = .int .i64 (X : Int)
  | 14 => v = .slice (some ⟨gb, 0, none⟩) 40 40
  | 16 => v = .pointer (some ⟨gb, k, none⟩)
  | 17 => v = .int .i64 (Y : Int)
  | 18 => v = .int .i64 (P : Int)
  | 19 => v = .int .i64 (o + (P : Int))
  | _ => True

set_option maxRecDepth 100000 in
set_option maxHeartbeats 2000000 in
theorem rtimes_any (ga gb : Nat) (us bs : List Int) (w : World) (la : us.length = 40) (lb : bs.length = 40) (na : IsBy us) (nb' : IsBy bs) (hra : DR w ga us) (hrb : DR w gb bs) :
    Calls Try.prog 21 #[.slice (some ⟨ga, 0, none⟩) 40 40, .slice (some ⟨gb, 0, none⟩) 40 40] w fun e w' => ∃ g, e = .returned (.slice (some ⟨g, 0, none⟩) 40 40) ∧ w.heap.size ≤ g ∧ DR w' g (lowB ((leN (us.take 20) * leN (bs.take 20) : Nat) : Int) 40) ∧ Below w.heap.size w w' := by
  obtain ⟨i0, hi, hz, hsz, hby⟩ := int_info
  have La := hide la
  have Lb := hide lb
  clear la lb
  go_enter Try.func21, Try.ntmps21
  go_wp2_with (first
    | (with_reducible refine wl_make rfl 51 (.const (.int .i64 40)) (.const (.int .i64 40)) rfl 3 i0 (.int .i64 0) Try.underlying51 hi hz hsz rfl .i64 .i64 40 40 40 40 rfl rfl rfl rfl (Nat.le_refl _) (by omega) (by omega) ?_; intro g5 w1 r1 p1 l1 b1))
  have hnea : ga ≠ g5 := by have := hra.lt; omega
  have hneb : gb ≠ g5 := by have := hrb.lt; omega
  have rga1 := Row.later hra b1
  have rgb1 := Row.later hrb b1
  clear hra hrb
  go_loopw [6] (fun iv wr => ∃ (i : Nat) (ds : List Int), i ≤ 20 ∧ iv = .int .i64 i ∧ Row wr 3 g5 (vk .i64 ds) ∧ Sch us bs i 0 ds ∧ But g5 w1 wr) (fun iv _ => 20 - (intOf iv).toNat)
  case atStart => exact ⟨0, List.replicate 40 0, Nat.zero_le _, rfl, r1, Sch.start, But.refl _ _⟩
  case round =>
    clear r1
    obtain ⟨i, ds, him, rfl, rr, hs, br⟩ := hrel
    by_cases hi : i < 20
    · have hdi : decide ((i : Int) < 20) = true := by simp; omega
      go_wp2_with fail
      go_loopw [7] (fun kv wr' => ∃ (k : Nat) (ds : List Int), k ≤ 20 ∧ kv = .int .i64 k ∧ Row wr' 3 g5 (vk .i64 ds) ∧ Sch us bs i k ds ∧ But g5 w1 wr') (fun kv _ => 20 - (intOf kv).toNat)
      case atStart => exact ⟨0, ds, by omega, rfl, rr, hs, br⟩
      case round =>
        clear rr br hs
        obtain ⟨k, ds, hk2, rfl, rr, hs, br⟩ := hrel
        by_cases hk : k < 20
        · have rga := rga1.but br hnea
          have rgb := rgb1.but br hneb
          have hik : i + k < 40 := by omega
          have hi40 : i < 40 := by omega
          have hk40 : k < 40 := by omega
          have cga := vk_get (kd := .i64) (xs := us) (j := i) (by rw [La.out]; exact hi40)
          have cgb := vk_get (kd := .i64) (xs := bs) (j := k) (by rw [Lb.out]; exact hk40)
          have co := vk_get (kd := .i64) (xs := ds) (j := i + k) (by rw [hs.len]; exact hik)
          obtain ⟨x0, x1⟩ := getD_byte na i
          obtain ⟨y0, y1⟩ := getD_byte nb' k
          have o0 : 0 ≤ ds.getD (i + k) 0 := hs.nn _ (by rw [List.getD, List.getElem?_eq_getElem (show i + k < ds.length by rw [hs.len]; exact hik)]; simp)
          have o1 := hs.bd (i + k) hik
          have hst := fun v hv => hs.step La.out Lb.out na nb' hi hk (v := v) hv
          have HST := hide hst
          have hcl : i + k < (vk .i64 ds).length := by rw [vk_len, hs.len]; exact hik
          obtain ⟨X, hX⟩ := Int.eq_ofNat_of_zero_le x0
          obtain ⟨Y, hY⟩ := Int.eq_ofNat_of_zero_le y0
          rw [hX] at cga x1
          rw [hY] at cgb y1
          have hP : X * Y ≤ 255 * 255 := Nat.mul_le_mul (by omega) (by omega)
          have hst2 := HST.out _ rfl
          rw [hX, hY, Int.toNat_natCast, Int.toNat_natCast] at hst2
          have HPv : Hid ((X : Int) * (Y : Int) = ((X * Y : Nat) : Int)) := (by simp : (X : Int) * (Y : Int) = ((X * Y : Nat) : Int))
          have HS2 := hide hst2
          clear hst HST hst2 hs hX hY x0 y0
          generalize X * Y = P at *
          generalize ds.getD (i + k) 0 = o at *
          go_wp2_with fail
          rename_i Q1 K1 hK1
          refine wp_region_vals [21] (SRt ga gb g5 i k X Y P o) (JB g5 3 wr 0 (vk .i64 ds) (vk .i64 (ds.set (i + k) (o + (P : Int))))) (by kernel_rfl) (by kernel_rfl) (by kernel_rfl) (by kernel_rfl) (by kernel_rfl) (JB.start rr rfl) ?obs ?he
          case obs =>
            refine ⟨?_, ?_, ?_, ?_, ?_, ?_, ?_, ?_, ?_, ?_, ?_, ?_, ?_, ?_, ?_, ?_, ?_, ?_, ?_, ?_, ?_, ?_, trivial⟩
            · exact .inl ⟨by kernel_rfl, fun L a1 w1 n' h => ⟨_, rfl, run_move (.tmp 5) rfl (h.var n' 5 (by kernel_rfl))⟩⟩
            · exact .inl ⟨by kernel_rfl, fun L a1 w1 n' h => ⟨_, rfl, run_move (.tmp 6) rfl (h.var n' 6 (by kernel_rfl))⟩⟩
            · exact .inl ⟨by kernel_rfl, fun L a1 w1 n' h => ⟨_, rfl, run_move (.tmp 7) rfl (h.var n' 7 (by kernel_rfl))⟩⟩
            · refine .inl ⟨by kernel_rfl, fun L a1 w1 n' h => ⟨.int .i64 ((i + k : Nat) : Int), rfl, ?_⟩⟩
              have e0 : a1.eval (.tmp 18) = _ := h.dep n' 1 18 (by kernel_rfl) rfl
              have e1 : a1.eval (.tmp 19) = _ := h.dep n' 2 19 (by kernel_rfl) rfl
              unfold execOp
              simp only [e0, e1]
              go_simp
              rw [IntWalk.i64_in _ (by omega)]
            · exact .inl ⟨by kernel_rfl, fun L a1 w1 n' h => ⟨_, rfl, run_move (.tmp 5) rfl (h.var n' 5 (by kernel_rfl))⟩⟩
            · exact .inl ⟨by kernel_rfl, fun L a1 w1 n' h => ⟨_, rfl, run_move (.tmp 6) rfl (h.var n' 6 (by kernel_rfl))⟩⟩
            · exact .inl ⟨by kernel_rfl, fun L a1 w1 n' h => ⟨_, rfl, run_move (.tmp 7) rfl (h.var n' 7 (by kernel_rfl))⟩⟩
            · refine .inl ⟨by kernel_rfl, fun L a1 w1 n' h => ⟨.int .i64 ((i + k : Nat) : Int), rfl, ?_⟩⟩
              have e0 : a1.eval (.tmp 22) = _ := h.dep n' 5 22 (by kernel_rfl) rfl
              have e1 : a1.eval (.tmp 23) = _ := h.dep n' 6 23 (by kernel_rfl) rfl
              unfold execOp
              simp only [e0, e1]
              go_simp
              rw [IntWalk.i64_in _ (by omega)]
            · exact .inl ⟨by kernel_rfl, fun L a1 w1 n' h => ⟨_, rfl, run_indexS0 51 (.tmp 21) (.tmp 24) 3 g5 40 40 (i + k) rfl Try.underlying51 Try.sizeOf3 (h.dep n' 4 21 (by kernel_rfl) rfl) (h.dep n' 7 24 (by kernel_rfl) rfl) hik⟩⟩
            · exact .inl ⟨by kernel_rfl, fun L a1 w1 n' h => ⟨_, rfl, run_loadA 3 (.tmp 25) ⟨g5, (i + k), none⟩ rfl Try.isAgg3 (h.dep n' 8 25 (by kernel_rfl) rfl) ((h.inv.1 (n'.later (by kernel_rfl))).cell co)⟩⟩
            · exact .inl ⟨by kernel_rfl, fun L a1 w1 n' h => ⟨_, rfl, run_move (.tmp 0) rfl (h.var n' 0 (by kernel_rfl))⟩⟩
            · exact .inl ⟨by kernel_rfl, fun L a1 w1 n' h => ⟨_, rfl, run_move (.tmp 6) rfl (h.var n' 6 (by kernel_rfl))⟩⟩
            · exact .inl ⟨by kernel_rfl, fun L a1 w1 n' h => ⟨_, rfl, run_indexS0 51 (.tmp 27) (.tmp 28) 3 ga 40 40 i rfl Try.underlying51 Try.sizeOf3 (h.dep n' 10 27 (by kernel_rfl) rfl) (h.dep n' 11 28 (by kernel_rfl) rfl) hi40⟩⟩
            · exact .inl ⟨by kernel_rfl, fun L a1 w1 n' h => ⟨_, rfl, run_loadA 3 (.tmp 29) ⟨ga, i, none⟩ rfl Try.isAgg3 (h.dep n' 12 29 (by kernel_rfl) rfl) ((rga.but h.inv.2.2 hnea).cell cga)⟩⟩
            · exact .inl ⟨by kernel_rfl, fun L a1 w1 n' h => ⟨_, rfl, run_move (.tmp 1) rfl (h.var n' 1 (by kernel_rfl))⟩⟩
            · exact .inl ⟨by kernel_rfl, fun L a1 w1 n' h => ⟨_, rfl, run_move (.tmp 7) rfl (h.var n' 7 (by kernel_rfl))⟩⟩
            · exact .inl ⟨by kernel_rfl, fun L a1 w1 n' h => ⟨_, rfl, run_indexS0 51 (.tmp 31) (.tmp 32) 3 gb 40 40 k rfl Try.underlying51 Try.sizeOf3 (h.dep n' 14 31 (by kernel_rfl) rfl) (h.dep n' 15 32 (by kernel_rfl) rfl) hk40⟩⟩
            · exact .inl ⟨by kernel_rfl, fun L a1 w1 n' h => ⟨_, rfl, run_loadA 3 (.tmp 33) ⟨gb, k, none⟩ rfl Try.isAgg3 (h.dep n' 16 33 (by kernel_rfl) rfl) ((rgb.but h.inv.2.2 hneb).cell cgb)⟩⟩
            · refine .inl ⟨by kernel_rfl, fun L a1 w1 n' h => ⟨.int .i64 (P : Int), rfl, ?_⟩⟩
              have e0 : a1.eval (.tmp 30) = _ := h.dep n' 13 30 (by kernel_rfl) rfl
              have e1 : a1.eval (.tmp 34) = _ := h.dep n' 17 34 (by kernel_rfl) rfl
              unfold execOp
              simp only [e0, e1]
              go_simp
              rw [HPv.out, IntWalk.i64_in _ (by omega)]
            · refine .inl ⟨by kernel_rfl, fun L a1 w1 n' h => ⟨.int .i64 (o + (P : Int)), rfl, ?_⟩⟩
              have e0 : a1.eval (.tmp 26) = _ := h.dep n' 9 26 (by kernel_rfl) rfl
              have e1 : a1.eval (.tmp 35) = _ := h.dep n' 18 35 (by kernel_rfl) rfl
              unfold execOp
              simp only [e0, e1]
              go_simp
              rw [IntWalk.i64_in _ (by omega)]
            · exact .inl ⟨by kernel_rfl, fun L a1 w1 n' h => ⟨_, rfl, run_indexS0 51 (.tmp 17) (.tmp 20) 3 g5 40 40 (i + k) rfl Try.underlying51 Try.sizeOf3 (h.dep n' 0 17 (by kernel_rfl) rfl) (h.dep n' 3 20 (by kernel_rfl) rfl) hik⟩⟩
            · refine .inr fun L a1 w1 n' h K hK => ?_
              have no : L.getD 21 false = false := n'.not_yet
              refine st_store 3 (.tmp 37) (.tmp 36) g5 (i + k) 3 (vk .i64 ds) (.int .i64 (o + (P : Int))) rfl (by kernel_rfl) (h.dep n' 20 37 (by kernel_rfl) rfl) (h.dep n' 19 36 (by kernel_rfl) rfl) (h.inv.1 no) hcl rfl ?_
              intro w3 r3 o3
              rw [vk_set] at r3
              exact hK undef w3 trivial (h.inv.store (us := []) o3 r3 rfl)
          case he =>
            intro V w5 hV hJ
            have r5 := hJ.2.1 rfl
            have bx := br.trans hJ.2.2
            clear hV hJ
            simp only [putOps, List.setIfInBounds_toArray, List.set_cons_succ, List.set_cons_zero]
            refine hK1 _ _ ?_
            go_wp2
            go_roundw
            case rel => exact ⟨k + 1, _, by omega, by go_num, r5, HS2.out, bx⟩
            case measure => simp [intOf]; omega
        · have hk20 : k = 20 := by omega
          rw [hk20] at hs
          have hs' := hs.next La.out hi
          have HS := hide hs'
          clear hs hs' hk20
          go_wp2
          go_roundw
          case rel => exact ⟨i + 1, ds, by omega, by go_num, rr, HS.out, br⟩
          case measure => simp [intOf]; omega
    · have : i = 20 := by omega
      subst this
      have hv := hs.done
      have HV := hide hv
      have hl := hs.len
      have nz := hs.nn
      have bz : ∀ i, i < ds.length → (ds.getD i 0).toNat ≤ 255 * 1099511627776 := fun j hj => by
        have := hs.bd j (by omega)
        omega
      clear hv hs
      go_wp2_with fail
      refine (carry_any g5 ds wr hl nz bz rr).mono ?_
      rintro e w5 ⟨rfl, r5, b5⟩
      rw [HV.out] at r5
      go_wp2
      go_ret
      exact ⟨g5, rfl, p1, r5, b1.trans ((br.trans b5).below p1 b1.size)⟩
end Go.Proofs.Ytcinhofapkddpaa

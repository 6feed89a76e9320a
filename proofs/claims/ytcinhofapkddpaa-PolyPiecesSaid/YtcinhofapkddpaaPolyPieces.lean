/-
  The law PolyPieces: contract. Own work.
-/
import Derived.Test.YtcinhofapkddpaaPolyP
namespace Go.Proofs.Ytcinhofapkddpaa
open Go.RowKit
set_option linter.unusedVariables false
set_option linter.unusedSimpArgs false
def SLp (ks xs : List Int) (A : Option Addr) (g3 g9 gm m c I : Nat) (opn : Nat) (v : Value) : Prop :=
  match opn with
  | 0 | 5 => v = .agg (bv (pS ks (xs.take I))).toArray
  | 1 | 10 => v = .agg (bv ks).toArray
  | 2 | 11 => v = .slice A m c
  | 3 => v = .int .i64 (I : Int)
  | 4 => v = .slice A I c
  | 6 | 7 | 13 | 14 | 15 | 16 | 17 | 18 => v = .bool true
  | 8 => v = .pointer (some ⟨gm, 0, none⟩)
  | 9 | 12 => v = .agg (bv (pS ks xs)).toArray
  | _ => True

set_option maxRecDepth 100000 in
set_option maxHeartbeats 2000000 in
theorem polyPieces_any (ks xs : List Int) (cut : Int) (A : Option Addr) (m c : Nat) (w : World) (hk : ks.length = 32) (hkb : IsBy ks) (hbs : Bs w w.heap.size A m xs) (hby : IsBy xs) (hc : m ≤ c) (h0 : 0 ≤ cut) (h1 : cut < 65536) :
    Calls Try.prog 5 #[.agg (bv ks).toArray, .slice A m c, .int .u16 cut] w fun e w' => e = .returned (.bool true) ∧ Below w.heap.size w w' := by
  have Hk := hide hk
  have h32 := hide (size32 hk)
  clear hk
  by_cases hlong : (1000 : Int) < (m : Int)
  · have hd : decide ((1000 : Int) < (m : Int)) = true := by simp; omega
    go_enter Try.func5, Try.ntmps5
    go_wp2_with (first
      | (with_reducible refine wl_box rfl 22 (.tmp 0) _ (bv ks) rfl rfl rfl ?_; intro g1 w1 r1 p1 l1 b1))
    refine (awake_any _).mono ?_
    rintro e w2 ⟨rfl, b2⟩
    go_wp2
    go_ret
    exact ⟨rfl, b1.trans (b2.mono b1.size)⟩
  · have hd : decide ((1000 : Int) < (m : Int)) = false := by simp; omega
    obtain ⟨I, hI, hIe⟩ : ∃ I : Nat, I ≤ m ∧ Hid (cut % ((m : Int) + 1) = (I : Int)) := by
      have p1 := Int.emod_nonneg cut (show (m : Int) + 1 ≠ 0 by omega)
      have p2 := Int.emod_lt_of_pos cut (show (0 : Int) < (m : Int) + 1 by omega)
      exact ⟨(cut % ((m : Int) + 1)).toNat, by omega, show _ = _ by omega⟩
    have hIc : I ≤ c := by omega
    have hS1 := fun w => run_sliceTo (P := Try.prog) w 23 5 1 Try.underlying23 Try.sizeOf5 A m c .i64 (I : Int) I rfl hIc
    have hS3 := fun w => run_sliceFrom (P := Try.prog) w 23 5 Try.underlying23 Try.sizeOf5 A m c .i64 I hI
    have HR := clN_lt (leN (ks.take 16))
    have HN := fun w => new_any ks w Hk.out hkb
    have HSI : ∀ g w, MacAt w g (clN (leN (ks.take 16))) (leN (ks.drop 16)) (xs.take I) → Calls Try.prog 16 #[.pointer (some ⟨g, 0, none⟩)] w fun e w' => e = .returned (.agg (bv (pS ks (xs.take I))).toArray) ∧ Below w.heap.size w w' := fun g w h => sum_any g _ _ _ w h HR (hby.take I)
    have HS : ∀ g w, MacAt w g (clN (leN (ks.take 16))) (leN (ks.drop 16)) xs → Calls Try.prog 16 #[.pointer (some ⟨g, 0, none⟩)] w fun e w' => e = .returned (.agg (bv (pS ks xs)).toArray) ∧ Below w.heap.size w w' := fun g w h => sum_any g _ _ _ w h HR hby
    have p1 := Int.emod_nonneg cut (show (m : Int) + 1 ≠ 0 by omega)
    have p2 := Int.emod_lt_of_pos cut (show (0 : Int) < (m : Int) + 1 by omega)
    go_enter Try.func5, Try.ntmps5
    go_wp2_with (first
      | (with_reducible refine wl_box rfl 22 (.tmp 0) _ (bv ks) rfl rfl rfl ?_; intro g3 w1 r1 p1 l1 b1)
      | (with_reducible refine wl_load_row rfl 22 (.tmp 3) g3 22 _ _ rfl rfl r1 Try.underlying22 rfl h32.out ?_))
    rw [hIe.out]
    refine (HN _).mono ?_
    rintro e w2 ⟨gm, rfl, pm, mm, b2⟩
    go_wp2_with fail
    have s1 := b1.size; have s2 := b2.size
    have hx2 : Bs w2 w.heap.size A m xs := (hbs.below b1).below (b2.mono s1)
    refine (write_any gm _ _ I c w.heap.size [] (xs.take I) A w2 mm HR (fun _ h => by simp at h) (hby.take I) (hx2.take hI) (by omega) hIc).mono ?_
    rintro e w3 ⟨rfl, m3, b3⟩
    rw [List.nil_append] at m3
    go_wp2_with fail
    refine (HSI gm w3 m3).mono ?_
    rintro e w4 ⟨rfl, b4⟩
    have s3 := b3.size; have s4 := b4.size
    have l16 := hide (show (bv (List.replicate 16 0)).length = (bv (pS ks (xs.take I))).length by rw [bv_len, bv_len, pS_len, List.length_replicate])
    go_wp2_with (first
      | (with_reducible refine wl_alloc rfl 26 _ (bv (List.replicate 16 0)) rfl zero16 rfl ?_; intro g9 w5 r5 p5 l5 b5)
      | (with_reducible refine wl_store_row rfl 26 (.tmp 9) (.tmp 28) g9 26 _ (bv (pS ks (xs.take I))) rfl rfl rfl r5 (size16 (pS_len _ _)) l16.out (bv_one _) ?_; intro w6 r6 o6))
    have s5 := b5.size; have s6 := o6.size
    have gl := m3.lt
    have m6 : MacAt w6 gm _ _ _ := ((Row.later m3 b4).later b5).only o6 (by omega)
    have hx3 := hx2.keep fun p hp => b3.cellB (show w.heap.size ≤ gm by omega) (by omega) hp
    have hx6 : Bs w6 w.heap.size A m xs := ((hx3.below (b4.mono (by omega))).below (b5.mono (by omega))).below (o6.below (by omega))
    have hxd := hx6.sub (I := I) (K := m) hI (Nat.le_refl _) hc
    rw [List.take_of_length_le (by rw [List.length_drop, hbs.1]; exact Nat.le_refl _)] at hxd
    refine (write_any gm _ _ (m - I) (c - I) w.heap.size (xs.take I) (xs.drop I) (subA A c I) w6 m6 HR (hby.take I) (hby.drop I) hxd (by omega) (by omega)).mono ?_
    rintro e wS ⟨rfl, rM, b7⟩
    rw [List.take_append_drop] at rM
    have s7 := b7.size
    have r3 := (((((r1.later b2).but b3 (by have := r1.lt; omega)).later b4).later b5).only o6 (by have := r1.lt; omega)).but b7 (by have := r1.lt; omega)
    have r9 := r6.but b7 (by omega)
    have BS : Below w.heap.size w wS := (((((b1.trans (b2.mono s1)).trans (b3.below (by omega) (by omega))).trans (b4.mono (by omega))).trans (b5.mono (by omega))).trans (o6.below (by omega))).trans (b7.below (by omega) (by omega))
    have hxS : Bs wS wS.heap.size A m xs := (hbs.below BS).up BS.size
    have hxI := hxS.take hI
    clear r1 r5 r6 hx2 hx3 hx6 hxd b1 b2 b3 b4 b5 o6 b7 m3 m6 mm
    go_wp2_with fail
    rename_i K1 hK1
    refine wp_region_valsG [5, 9, 12, 16] (SLp ks xs A g3 g9 gm m c I) (JR wS) (by kernel_rfl) (by kernel_rfl) (by kernel_rfl) (by kernel_rfl) (Below.refl _ _).drew ?obs ?he
    case obs =>
      refine ⟨?_, ?_, ?_, ?_, ?_, ?_, ?_, ?_, ?_, ?_, ?_, ?_, ?_, ?_, ?_, ?_, ?_, ?_, ?_, trivial⟩
      · refine ⟨.inl rfl, ?_⟩
        exact .inl ⟨by kernel_rfl, fun L a1 w1 n' h => ⟨_, rfl, run_loadRow 26 (.tmp 9) g9 26 _ _ rfl (h.var n' 9 (by kernel_rfl)) (r9.later h.inv) Try.underlying26 rfl (size16 (pS_len _ _))⟩⟩
      · refine ⟨.inl rfl, ?_⟩
        exact .inl ⟨by kernel_rfl, fun L a1 w1 n' h => ⟨_, rfl, run_loadRow 22 (.tmp 3) g3 22 _ _ rfl (h.var n' 3 (by kernel_rfl)) (r3.later h.inv) Try.underlying22 rfl (h32.out)⟩⟩
      · refine ⟨.inl rfl, ?_⟩
        exact .inl ⟨by kernel_rfl, fun L a1 w1 n' h => ⟨_, rfl, run_move (.tmp 1) rfl (h.var n' 1 (by kernel_rfl))⟩⟩
      · refine ⟨.inl rfl, ?_⟩
        exact .inl ⟨by kernel_rfl, fun L a1 w1 n' h => ⟨_, rfl, run_move (.tmp 7) rfl (h.var n' 7 (by kernel_rfl))⟩⟩
      · refine ⟨.inl rfl, ?_⟩
        refine .inl ⟨by kernel_rfl, fun L a1 w1 n' h => ⟨.slice A I c, rfl, ?_⟩⟩
        have e0 : a1.eval (.tmp 36) = _ := h.dep n' 2 36 (by kernel_rfl) rfl
        have e1 : a1.eval (.tmp 37) = _ := h.dep n' 3 37 (by kernel_rfl) rfl
        unfold execOp
        simp only [e0, e1, Option.map_some, Option.map_none, Sem.run_bind, hS1, Result.andThen_ok, Sem.run_pure]
      · refine ⟨.inl rfl, ?_⟩
        refine .inr fun L a1 w1 n' h K hK => ?_
        have e0 : a1.eval (.tmp 35) = .agg (bv ks).toArray := h.dep n' 1 35 (by kernel_rfl) rfl
        have e1 : a1.eval (.tmp 38) = .slice A I c := h.dep n' 4 38 (by kernel_rfl) rfl
        refine st_call 11 _ _ #[.agg (bv ks).toArray, .slice A I c] rfl Try.call11 ?_ (psum_any ks (xs.take I) A I c w1 Hk.out hkb (hby.take I) (hxI.later h.inv) hIc) ?_
        · simp only [List.map_toArray, List.map_cons, List.map_nil, e0, e1]
        · rintro e w3 ⟨rfl, b9⟩
          exact ⟨_, rfl, hK _ w3 rfl (JR.call h.inv b9)⟩
      · refine ⟨.inl rfl, ?_⟩
        exact .inl ⟨by kernel_rfl, fun L a1 w1 n' h => ⟨_, rfl, run_eqlT (.tmp 34) (.tmp 39) rfl Try.underlying26 (Classical.choose_spec u8_info).1 (by kernel_rfl) Try.underlying5 Try.isAgg5 (pS ks (xs.take I)) (h.dep n' 0 34 (by kernel_rfl) rfl) (h.dep n' 5 39 (by kernel_rfl) rfl) (pS_len _ _) (by kernel_rfl)⟩⟩
      · refine ⟨.inl rfl, ?_⟩
        exact .inl ⟨by kernel_rfl, fun L a1 w1 n' h => ⟨_, rfl, run_move (.tmp 40) rfl (h.dep n' 6 40 (by kernel_rfl) rfl)⟩⟩
      · refine ⟨.inr ⟨7, true, 41, rfl, by kernel_rfl, rfl, by simp, fun v h => h⟩, ?_⟩
        exact .inl ⟨by kernel_rfl, fun L a1 w1 n' h => ⟨_, rfl, run_move (.tmp 8) rfl (h.var n' 8 (by kernel_rfl))⟩⟩
      · refine ⟨.inr ⟨7, true, 41, rfl, by kernel_rfl, rfl, by simp, fun v h => h⟩, ?_⟩
        refine .inr fun L a1 w1 n' h K hK => ?_
        have e0 : a1.eval (.tmp 42) = .pointer (some ⟨gm, 0, none⟩) := h.dep n' 8 42 (by kernel_rfl) rfl
        refine st_call 16 _ _ #[.pointer (some ⟨gm, 0, none⟩)] rfl Try.call16 ?_ (HS gm w1 (Row.later rM h.inv)) ?_
        · simp only [List.map_toArray, List.map_cons, List.map_nil, e0]
        · rintro e w3 ⟨rfl, b9⟩
          exact ⟨_, rfl, hK _ w3 rfl (JR.call h.inv b9)⟩
      · refine ⟨.inr ⟨7, true, 41, rfl, by kernel_rfl, rfl, by simp, fun v h => h⟩, ?_⟩
        exact .inl ⟨by kernel_rfl, fun L a1 w1 n' h => ⟨_, rfl, run_loadRow 22 (.tmp 3) g3 22 _ _ rfl (h.var n' 3 (by kernel_rfl)) (r3.later h.inv) Try.underlying22 rfl (h32.out)⟩⟩
      · refine ⟨.inr ⟨7, true, 41, rfl, by kernel_rfl, rfl, by simp, fun v h => h⟩, ?_⟩
        exact .inl ⟨by kernel_rfl, fun L a1 w1 n' h => ⟨_, rfl, run_move (.tmp 1) rfl (h.var n' 1 (by kernel_rfl))⟩⟩
      · refine ⟨.inr ⟨7, true, 41, rfl, by kernel_rfl, rfl, by simp, fun v h => h⟩, ?_⟩
        refine .inr fun L a1 w1 n' h K hK => ?_
        have e0 : a1.eval (.tmp 44) = .agg (bv ks).toArray := h.dep n' 10 44 (by kernel_rfl) rfl
        have e1 : a1.eval (.tmp 45) = .slice A m c := h.dep n' 11 45 (by kernel_rfl) rfl
        refine st_call 11 _ _ #[.agg (bv ks).toArray, .slice A m c] rfl Try.call11 ?_ (psum_any ks xs A m c w1 Hk.out hkb hby (hxS.later h.inv) hc) ?_
        · simp only [List.map_toArray, List.map_cons, List.map_nil, e0, e1]
        · rintro e w3 ⟨rfl, b9⟩
          exact ⟨_, rfl, hK _ w3 rfl (JR.call h.inv b9)⟩
      · refine ⟨.inr ⟨7, true, 41, rfl, by kernel_rfl, rfl, by simp, fun v h => h⟩, ?_⟩
        exact .inl ⟨by kernel_rfl, fun L a1 w1 n' h => ⟨_, rfl, run_eqlT (.tmp 43) (.tmp 46) rfl Try.underlying26 (Classical.choose_spec u8_info).1 (by kernel_rfl) Try.underlying5 Try.isAgg5 (pS ks xs) (h.dep n' 9 43 (by kernel_rfl) rfl) (h.dep n' 12 46 (by kernel_rfl) rfl) (pS_len _ _) (by kernel_rfl)⟩⟩
      · refine ⟨.inl rfl, ?_⟩
        exact .inl ⟨by kernel_rfl, fun L a1 w1 n' h => ⟨_, rfl, run_pickT (.tmp 41) _ _ rfl (h.dep n' 7 41 (by kernel_rfl) rfl) (h.dep n' 13 47 (by kernel_rfl) rfl)⟩⟩
      · refine ⟨.inl rfl, ?_⟩
        exact .inl ⟨by kernel_rfl, fun L a1 w1 n' h => ⟨_, rfl, run_move (.tmp 48) rfl (h.dep n' 14 48 (by kernel_rfl) rfl)⟩⟩
      · refine ⟨.inr ⟨15, true, 49, rfl, by kernel_rfl, rfl, by simp, fun v h => h⟩, ?_⟩
        refine .inr fun L a1 w1 n' h K hK => ?_
        refine st_call 9 _ _ #[] rfl Try.call9 ?_ (awake_any w1) ?_
        · simp
        · rintro e w3 ⟨rfl, b9⟩
          exact ⟨_, rfl, hK _ w3 rfl (JR.call h.inv b9)⟩
      · refine ⟨.inl rfl, ?_⟩
        exact .inl ⟨by kernel_rfl, fun L a1 w1 n' h => ⟨_, rfl, run_pickT (.tmp 49) _ _ rfl (h.dep n' 15 49 (by kernel_rfl) rfl) (h.dep n' 16 50 (by kernel_rfl) rfl)⟩⟩
      · refine ⟨.inl rfl, ?_⟩
        exact .inl ⟨by kernel_rfl, fun L a1 w1 n' h => ⟨_, rfl, run_assign (.tmp 51) rfl (h.dep n' 17 51 (by kernel_rfl) rfl)⟩⟩
    case he =>
      intro V w5 hV hJ
      have h18 : V 18 = .bool true := hV 18 6 rfl
      have hB : Below wS.heap.size wS w5 := hJ
      clear hV hJ
      simp only [putOps, List.setIfInBounds_toArray, List.set_cons_succ, List.set_cons_zero]
      refine hK1 _ _ ?_
      go_wp2
      go_ret
      exact ⟨congrArg Ending.returned h18, BS.trans (hB.mono BS.size)⟩
end Go.Proofs.Ytcinhofapkddpaa

/-
  The law PolySum: contract. Own work.
-/
import Derived.Test.YtcinhofapkddpaaRefP7
namespace Go.Proofs.Ytcinhofapkddpaa
open Go.RowKit
set_option linter.unusedVariables false
set_option linter.unusedSimpArgs false
theorem equal_same (A B : Option Addr) (n m c d : Nat) (xs : List Int) (w : World) (h1 : Bs w w.heap.size A n xs) (h2 : Bs w w.heap.size B m xs) :
    Calls Try.prog 13 #[.slice A n c, .slice B m d] w fun e w' => e = .returned (.bool true) ∧ Below w.heap.size w w' := by
  refine (equal_any A B n m c d xs xs w h1 h2).mono ?_
  rintro e w' ⟨rfl, rfl⟩
  exact ⟨by rw [equal_self], Below.refl _ _⟩
def SLs (ks xs : List Int) (A A5 : Option Addr) (g2 m c c5 : Nat) (opn : Nat) (v : Value) : Prop :=
  match opn with
  | 0 | 3 => v = .agg (bv ks).toArray
  | 1 | 8 => v = .slice A m c
  | 2 | 5 => v = .agg (bv (pS ks xs)).toArray
  | 4 | 9 => v = .slice A5 m c5
  | 6 | 7 | 10 | 11 | 12 | 13 | 14 | 15 => v = .bool true
  | _ => True

set_option maxRecDepth 100000 in
set_option maxHeartbeats 2000000 in
theorem polySum_any (ks xs : List Int) (A : Option Addr) (m c : Nat) (w : World) (hk : ks.length = 32) (hkb : IsBy ks) (hbs : Bs w w.heap.size A m xs) (hby : IsBy xs) (hc : m ≤ c) :
    Calls Try.prog 3 #[.agg (bv ks).toArray, .slice A m c] w fun e w' => e = .returned (.bool true) ∧ Below w.heap.size w w' := by
  have Hk := hide hk
  have h32 := hide (size32 hk)
  clear hk
  by_cases hlong : (1000 : Int) < (m : Int)
  · have hd : decide ((1000 : Int) < (m : Int)) = true := by simp; omega
    go_enter Try.func3, Try.ntmps3
    go_wp2_with (first
      | (with_reducible refine wl_box rfl 22 (.tmp 0) _ (bv ks) rfl rfl rfl ?_; intro g1 w1 r1 p1 l1 b1))
    refine (awake_any _).mono ?_
    rintro e w2 ⟨rfl, b2⟩
    go_wp2
    go_ret
    exact ⟨rfl, b1.trans (b2.mono b1.size)⟩
  · have hd : decide ((1000 : Int) < (m : Int)) = false := by simp; omega
    go_enter Try.func3, Try.ntmps3
    go_wp2_with (first
      | (with_reducible refine wl_box rfl 22 (.tmp 0) _ (bv ks) rfl rfl rfl ?_; intro g2 w1 r1 p1 l1 b1))
    have hx1 := hbs.later b1
    refine (clone_any A m c xs w1 hx1 (by omega)).mono ?_
    rintro e wS ⟨A5, n5, c5, rfl, hx5, hc5, _, b2⟩
    obtain rfl : n5 = m := by rw [← hx5.1, hbs.1]
    have s1 := b1.size
    have hxS := hx1.later b2
    have r2 := r1.later b2
    have BS := b1.trans (b2.mono s1)
    have hm1 : n5 ≤ 1000000 := by omega
    clear r1 b1 b2 hx1
    go_wp2_with fail
    rename_i K1 hK1
    refine wp_region_valsG [2, 5, 10, 13] (SLs ks xs A A5 g2 n5 c c5) (JR wS) (by kernel_rfl) (by kernel_rfl) (by kernel_rfl) (by kernel_rfl) (Below.refl _ _).drew ?obs ?he
    case obs =>
      refine ⟨?_, ?_, ?_, ?_, ?_, ?_, ?_, ?_, ?_, ?_, ?_, ?_, ?_, ?_, ?_, ?_, trivial⟩
      · refine ⟨.inl rfl, ?_⟩
        exact .inl ⟨by kernel_rfl, fun L a1 w1 n' h => ⟨_, rfl, run_loadRow 22 (.tmp 2) g2 22 _ _ rfl (h.var n' 2 (by kernel_rfl)) (r2.later h.inv) Try.underlying22 rfl (h32.out)⟩⟩
      · refine ⟨.inl rfl, ?_⟩
        exact .inl ⟨by kernel_rfl, fun L a1 w1 n' h => ⟨_, rfl, run_move (.tmp 1) rfl (h.var n' 1 (by kernel_rfl))⟩⟩
      · refine ⟨.inl rfl, ?_⟩
        refine .inr fun L a1 w1 n' h K hK => ?_
        have e0 : a1.eval (.tmp 12) = .agg (bv ks).toArray := h.dep n' 0 12 (by kernel_rfl) rfl
        have e1 : a1.eval (.tmp 13) = .slice A n5 c := h.dep n' 1 13 (by kernel_rfl) rfl
        refine st_call 11 _ _ #[.agg (bv ks).toArray, .slice A n5 c] rfl Try.call11 ?_ (psum_any ks xs A n5 c w1 Hk.out hkb hby (hxS.later h.inv) hc) ?_
        · simp only [List.map_toArray, List.map_cons, List.map_nil, e0, e1]
        · rintro e w3 ⟨rfl, b9⟩
          exact ⟨_, rfl, hK _ w3 rfl (JR.call h.inv b9)⟩
      · refine ⟨.inl rfl, ?_⟩
        exact .inl ⟨by kernel_rfl, fun L a1 w1 n' h => ⟨_, rfl, run_loadRow 22 (.tmp 2) g2 22 _ _ rfl (h.var n' 2 (by kernel_rfl)) (r2.later h.inv) Try.underlying22 rfl (h32.out)⟩⟩
      · refine ⟨.inl rfl, ?_⟩
        exact .inl ⟨by kernel_rfl, fun L a1 w1 n' h => ⟨_, rfl, run_move (.tmp 5) rfl (h.var n' 5 (by kernel_rfl))⟩⟩
      · refine ⟨.inl rfl, ?_⟩
        refine .inr fun L a1 w1 n' h K hK => ?_
        have e0 : a1.eval (.tmp 15) = .agg (bv ks).toArray := h.dep n' 3 15 (by kernel_rfl) rfl
        have e1 : a1.eval (.tmp 16) = .slice A5 n5 c5 := h.dep n' 4 16 (by kernel_rfl) rfl
        refine st_call 12 _ _ #[.agg (bv ks).toArray, .slice A5 n5 c5] rfl Try.call12 ?_ (refSum_any ks xs A5 n5 c5 w1 Hk.out hkb hby (hx5.later h.inv) hc5 hm1) ?_
        · simp only [List.map_toArray, List.map_cons, List.map_nil, e0, e1]
        · rintro e w3 ⟨rfl, b9⟩
          exact ⟨_, rfl, hK _ w3 rfl (JR.call h.inv b9)⟩
      · refine ⟨.inl rfl, ?_⟩
        exact .inl ⟨by kernel_rfl, fun L a1 w1 n' h => ⟨_, rfl, run_eqlT (.tmp 14) (.tmp 17) rfl Try.underlying26 (Classical.choose_spec u8_info).1 (by kernel_rfl) Try.underlying5 Try.isAgg5 (pS ks xs) (h.dep n' 2 14 (by kernel_rfl) rfl) (h.dep n' 5 17 (by kernel_rfl) rfl) (pS_len _ _) (by kernel_rfl)⟩⟩
      · refine ⟨.inl rfl, ?_⟩
        exact .inl ⟨by kernel_rfl, fun L a1 w1 n' h => ⟨_, rfl, run_move (.tmp 18) rfl (h.dep n' 6 18 (by kernel_rfl) rfl)⟩⟩
      · refine ⟨.inr ⟨7, true, 19, rfl, by kernel_rfl, rfl, by simp, fun v h => h⟩, ?_⟩
        exact .inl ⟨by kernel_rfl, fun L a1 w1 n' h => ⟨_, rfl, run_move (.tmp 1) rfl (h.var n' 1 (by kernel_rfl))⟩⟩
      · refine ⟨.inr ⟨7, true, 19, rfl, by kernel_rfl, rfl, by simp, fun v h => h⟩, ?_⟩
        exact .inl ⟨by kernel_rfl, fun L a1 w1 n' h => ⟨_, rfl, run_move (.tmp 5) rfl (h.var n' 5 (by kernel_rfl))⟩⟩
      · refine ⟨.inr ⟨7, true, 19, rfl, by kernel_rfl, rfl, by simp, fun v h => h⟩, ?_⟩
        refine .inr fun L a1 w1 n' h K hK => ?_
        have e0 : a1.eval (.tmp 20) = .slice A n5 c := h.dep n' 8 20 (by kernel_rfl) rfl
        have e1 : a1.eval (.tmp 21) = .slice A5 n5 c5 := h.dep n' 9 21 (by kernel_rfl) rfl
        refine st_call 13 _ _ #[.slice A n5 c, .slice A5 n5 c5] rfl Try.call13 ?_ (equal_same A A5 n5 n5 c c5 xs w1 (hxS.later h.inv) (hx5.later h.inv)) ?_
        · simp only [List.map_toArray, List.map_cons, List.map_nil, e0, e1]
        · rintro e w3 ⟨rfl, b9⟩
          exact ⟨_, rfl, hK _ w3 rfl (JR.call h.inv b9)⟩
      · refine ⟨.inl rfl, ?_⟩
        exact .inl ⟨by kernel_rfl, fun L a1 w1 n' h => ⟨_, rfl, run_pickT (.tmp 19) _ _ rfl (h.dep n' 7 19 (by kernel_rfl) rfl) (h.dep n' 10 22 (by kernel_rfl) rfl)⟩⟩
      · refine ⟨.inl rfl, ?_⟩
        exact .inl ⟨by kernel_rfl, fun L a1 w1 n' h => ⟨_, rfl, run_move (.tmp 23) rfl (h.dep n' 11 23 (by kernel_rfl) rfl)⟩⟩
      · refine ⟨.inr ⟨12, true, 24, rfl, by kernel_rfl, rfl, by simp, fun v h => h⟩, ?_⟩
        refine .inr fun L a1 w1 n' h K hK => ?_
        refine st_call 9 _ _ #[] rfl Try.call9 ?_ (awake_any w1) ?_
        · simp
        · rintro e w3 ⟨rfl, b9⟩
          exact ⟨_, rfl, hK _ w3 rfl (JR.call h.inv b9)⟩
      · refine ⟨.inl rfl, ?_⟩
        exact .inl ⟨by kernel_rfl, fun L a1 w1 n' h => ⟨_, rfl, run_pickT (.tmp 24) _ _ rfl (h.dep n' 12 24 (by kernel_rfl) rfl) (h.dep n' 13 25 (by kernel_rfl) rfl)⟩⟩
      · refine ⟨.inl rfl, ?_⟩
        exact .inl ⟨by kernel_rfl, fun L a1 w1 n' h => ⟨_, rfl, run_assign (.tmp 26) rfl (h.dep n' 14 26 (by kernel_rfl) rfl)⟩⟩
    case he =>
      intro V w5 hV hJ
      have h15 : V 15 = .bool true := hV 15 4 rfl
      have hB : Below wS.heap.size wS w5 := hJ
      clear hV hJ
      simp only [putOps, List.setIfInBounds_toArray, List.set_cons_succ, List.set_cons_zero]
      refine hK1 _ _ ?_
      go_wp2
      go_ret
      exact ⟨congrArg Ending.returned h15, BS.trans (hB.mono BS.size)⟩
end Go.Proofs.Ytcinhofapkddpaa

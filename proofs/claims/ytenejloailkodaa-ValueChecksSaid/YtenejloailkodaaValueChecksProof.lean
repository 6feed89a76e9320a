/- Proved: the law ValueChecks (P15.1) answers true and leaves its argument as it read before. For every entry; no condition. -/
import Derived.Test.YtenejloailkodaaRows
import Derived.WalkKit
import Derived.SizedLaws
import Derived.ProofKit
import Derived.OpenShut
import Derived.ShutString
import Derived.ChangeOld
import Derived.Below
import Derived.Test.YtenejloailkodaaGH
import Derived.Test.YtenejloailkodaaGF
set_option linter.unusedVariables false
set_option linter.unusedSimpArgs false
/-
  The law ValueChecks. Own work.
-/
namespace Go.Proofs.Ytenejloailkodaa
open Go.RowKit Go.Shelf
theorem szEn (key : Nm) (x : Vl) (vp vl vs : Value) (at_ : Int) : (Try.prog.info? 28).map (·.size) = some (enC key x vp vl vs at_).length := by kernel_rfl
def FVc (q : Unit) (opn : Nat) (v : Value) (w : World) : Prop := True
theorem FVc_mono (q : Unit) : ∀ j v w w', FVc q j v w → Below w.heap.size w w' → FVc q j v w' := fun _ _ _ _ _ _ => trivial
def SVcZ (g1 : Nat) (key : Nm) (x : Vl) (vp vl vs : Value) (at_ c ec sz : Int) (opn : Nat) (v : Value) : Prop :=
  match opn with
  | 0 | 16 | 19 => v = .pointer (some ⟨g1, 1, none⟩)
  | 1 | 17 | 20 => v = .agg (vlC x vp vl vs).toArray
  | 2 | 3 | 13 => v = .int .i64 c
  | 4 | 5 | 10 | 11 | 12 | 22 | 23 | 24 | 25 | 26 | 27 | 28 => v = .bool true
  | 6 | 8 => v = .agg (enC key x vp vl vs at_).toArray
  | 7 | 9 => v = .int .i64 ec
  | 14 | 15 => v = .bool false
  | 18 | 21 => v = .int .i64 sz
  | _ => True

def SVcN (g1 : Nat) (key : Nm) (x : Vl) (vp vl vs : Value) (at_ c ec : Int) (opn : Nat) (v : Value) : Prop :=
  match opn with
  | 0 => v = .pointer (some ⟨g1, 1, none⟩)
  | 1 => v = .agg (vlC x vp vl vs).toArray
  | 2 | 3 | 13 => v = .int .i64 c
  | 4 | 5 | 10 | 11 | 12 | 14 | 15 | 23 | 24 | 25 | 26 | 27 | 28 => v = .bool true
  | 6 | 8 => v = .agg (enC key x vp vl vs at_).toArray
  | 7 | 9 => v = .int .i64 ec
  | 16 | 17 | 18 | 19 | 20 | 21 | 22 => v = undef
  | _ => True

set_option maxRecDepth 100000 in
set_option maxHeartbeats 4000000 in
theorem valueChecks_any (w : World) (key : Nm) (x : Vl) (vp vl vs : Value) (at_ : Int) (hx : VlM w w.heap.size x vp vl vs) (fx : x.Fits) (hcp : CapS vs x.ss.length) (hky : key.length ≤ 140737488355328) :
    Calls Try.prog 3 #[enV key x vp vl vs at_] w fun e w' => e = .returned (.bool true) ∧ Below w.heap.size w w' := by
  have HA := awake_any
  have hsz := szVl x vp vl vs
  have hst := str_len key
  have hcp := hide hcp
  replace hcp := hcp.out
  go_enter Try.func3, Try.ntmps3
  go_wp2_with (first
    | ((with_reducible refine wl_box (o := ⟨some 1, _, _, _, _, _⟩) rfl 28 (.tmp 0) _ (enC key x vp vl vs at_) rfl rfl rfl ?_); intro g1 w1 r1 p1 l1 b1)
    | (with_reducible refine wl_load_part (o := ⟨some 5, _, _, _, _, _⟩) rfl 26 (.tmp 4) g1 1 28 [encStr key] (vlC x vp vl vs) [.int .i64 at_] _ rfl rfl r1 rfl Try.underlying26 rfl hsz ?_))
  refine (light_any w1 x vp vl vs (hx.later b1) fx).mono ?_
  rintro e w2 ⟨⟨b, rfl, hfew⟩, b2⟩
  have B2 := b1.trans (b2.mono b1.size)
  have r2 := r1.later b2
  have c0 := r2.cell (j := 0) rfl
  cases b with
  | false =>
    go_wp2_with fail
    refine (HA w2).mono ?_
    rintro e w5 ⟨rfl, b5⟩
    go_wp2_with fail
    go_ret
    exact ⟨rfl, B2.trans (b5.mono B2.size)⟩
  | true =>
    have few := hfew rfl
    clear hfew
    by_cases hk : 200 < key.length
    · have hkI : (200 : Int) < (key.length : Int) := by omega
      go_wp2_with fail
      refine (HA w2).mono ?_
      rintro e w5 ⟨rfl, b5⟩
      go_wp2_with fail
      go_ret
      exact ⟨rfl, B2.trans (b5.mono B2.size)⟩
    · have hkI : ¬ (200 : Int) < (key.length : Int) := by omega
      go_wp2_with (first
        | (with_reducible refine wl_load_part (o := ⟨some 16, _, _, _, _, _⟩) rfl 26 (.tmp 15) g1 1 28 [encStr key] (vlC x vp vl vs) [.int .i64 at_] _ rfl rfl r2 rfl Try.underlying26 rfl hsz ?_))
      refine (rcheck_any w2 x vp vl vs (hx.later B2) few fx.t hcp).mono ?_
      rintro e w5 ⟨rfl, b5⟩
      have B5 := B2.trans (b5.mono B2.size)
      have hM := hx.later B5
      have r5 := r2.later b5
      obtain ⟨c, hc⟩ : ∃ c, x.rchk = c := ⟨_, rfl⟩
      obtain ⟨ec, hec⟩ : ∃ ec, entC key at_ x.rchk = ec := ⟨_, rfl⟩
      rw [hc]
      clear r1 r2 p1 l1 b1 b2 c0
      have r1 := r5
      clear r5
      by_cases hc0 : c = 0
      · have hcd := hide (show decide (c = 0) = !false by rw [hc0]; rfl)
        have hrk := rchk_ok (hc.trans hc0)
        have hown := hide hrk.1
        have hlx := hide hrk.2
        have hlt := hide (show lngT x.own.tells = false by rw [← hrk.1, lng_tells (ownE hrk.1)]; exact hrk.2)
        obtain ⟨sz, hszz⟩ : ∃ sz, x.rsize = sz := ⟨_, rfl⟩
        replace hszz := hide hszz
        replace hc := hide hc
        replace hec := hide hec
        replace hc0 := hide hc0
        clear hrk
        go_wp2_with fail
        refine wp_region_valsS [2, 7, 9, 18, 21, 26] (SVcZ g1 key x vp vl vs at_ c ec sz) (JF w5 [2, 7, 9, 18, 21, 26] (FVc ())) (by kernel_rfl) (by kernel_rfl) (by kernel_rfl) (by kernel_rfl) (JF.start _) ?obsZ ?heZ
        case obsZ =>
          refine ⟨?_, ?_, ?_, ?_, ?_, ?_, ?_, ?_, ?_, ?_, ?_, ?_, ?_, ?_, ?_, ?_, ?_, ?_, ?_, ?_, ?_, ?_, ?_, ?_, ?_, ?_, ?_, ?_, ?_, trivial⟩
          · refine .inl ⟨.inl rfl, ?_⟩
            refine .inl ⟨by kernel_rfl, fun L a1 w1 n h => ⟨.pointer (some ⟨g1, 1, none⟩), rfl, ?_⟩⟩
            have e0 : a1.eval (.tmp 1) = _ := h.var n 1 (by kernel_rfl)
            unfold execOp
            simp only [e0]
            go_simp
          · refine .inl ⟨.inl rfl, ?_⟩
            exact .inl ⟨by kernel_rfl, fun L a1 w1 n h => ⟨_, rfl, run_loadP 26 (.tmp 18) g1 1 TE [encStr key] (vlC x vp vl vs) [.int .i64 at_] _ rfl (h.dep n 0 18 (by kernel_rfl) rfl) (r1.later h.inv.1) rfl Try.underlying26 rfl (szVl x _ _ _)⟩⟩
          · refine .inl ⟨.inl rfl, ?_⟩
            refine .inr fun L a1 w1 n h K hK => ?_
            have e0 : a1.eval (.tmp 19) = vlV x vp vl vs := h.dep n 1 19 (by kernel_rfl) rfl
            refine JF.call (FVc_mono ()) h hK 20 rfl 8 _ _ #[vlV x vp vl vs] rfl Try.call8 ?_ (check_any w1 x _ _ _ (hM.later h.inv.1) few fx.t) ?_
            · simp only [List.map_toArray, List.map_cons, List.map_nil, e0]
            · rintro e w3 ⟨rfl, b9⟩
              exact ⟨_, rfl, (show Value.int .i64 _ = Value.int .i64 _ by rw [chk_eq, hc.out]), trivial, b9⟩
          · refine .inl ⟨.inl rfl, ?_⟩
            exact .inl ⟨by kernel_rfl, fun L a1 w1 n h => ⟨_, rfl, run_move (.tmp 3) rfl (h.var n 3 (by kernel_rfl))⟩⟩
          · refine .inl ⟨.inl rfl, ?_⟩
            exact .inl ⟨by kernel_rfl, fun L a1 w1 n h => ⟨_, rfl, run_eqlI (.tmp 20) (.tmp 21) rfl (h.dep n 2 20 (by kernel_rfl) rfl) (h.dep n 3 21 (by kernel_rfl) rfl) (decide_eq_true rfl)⟩⟩
          · refine .inl ⟨.inl rfl, ?_⟩
            exact .inl ⟨by kernel_rfl, fun L a1 w1 n h => ⟨_, rfl, run_move (.tmp 22) rfl (h.dep n 4 22 (by kernel_rfl) rfl)⟩⟩
          · refine .inl ⟨.inr ⟨5, true, 23, rfl, by kernel_rfl, rfl, by simp, fun v h => h⟩, ?_⟩
            exact .inl ⟨by kernel_rfl, fun L a1 w1 n h => ⟨_, rfl, run_loadRow 28 (.tmp 1) g1 28 _ _ rfl (h.var n 1 (by kernel_rfl)) (r1.later h.inv.1) Try.underlying28 rfl (szEn key x _ _ _ at_)⟩⟩
          · refine .inl ⟨.inr ⟨5, true, 23, rfl, by kernel_rfl, rfl, by simp, fun v h => h⟩, ?_⟩
            refine .inr fun L a1 w1 n h K hK => ?_
            have e0 : a1.eval (.tmp 24) = enV key x vp vl vs at_ := h.dep n 6 24 (by kernel_rfl) rfl
            refine JF.call (FVc_mono ()) h hK 25 rfl 9 _ _ #[enV key x vp vl vs at_] rfl Try.call9 ?_ (entry_any w1 key x _ _ _ at_ (fun wz hb => check_any wz x _ _ _ ((hM.later h.inv.1).later hb) few fx.t)) ?_
            · simp only [List.map_toArray, List.map_cons, List.map_nil, e0]
            · rintro e w3 ⟨rfl, b9⟩
              exact ⟨_, rfl, (show Value.int .i64 _ = Value.int .i64 _ by rw [chk_eq, hec.out]), trivial, b9⟩
          · refine .inl ⟨.inr ⟨5, true, 23, rfl, by kernel_rfl, rfl, by simp, fun v h => h⟩, ?_⟩
            exact .inl ⟨by kernel_rfl, fun L a1 w1 n h => ⟨_, rfl, run_loadRow 28 (.tmp 1) g1 28 _ _ rfl (h.var n 1 (by kernel_rfl)) (r1.later h.inv.1) Try.underlying28 rfl (szEn key x _ _ _ at_)⟩⟩
          · refine .inl ⟨.inr ⟨5, true, 23, rfl, by kernel_rfl, rfl, by simp, fun v h => h⟩, ?_⟩
            refine .inr fun L a1 w1 n h K hK => ?_
            have e0 : a1.eval (.tmp 26) = enV key x vp vl vs at_ := h.dep n 8 26 (by kernel_rfl) rfl
            refine JF.call (FVc_mono ()) h hK 27 rfl 10 _ _ #[enV key x vp vl vs at_] rfl Try.call10 ?_ (rentry_any w1 key x _ _ _ at_ (fun wz hb => rcheck_any wz x _ _ _ ((hM.later h.inv.1).later hb) few fx.t hcp)) ?_
            · simp only [List.map_toArray, List.map_cons, List.map_nil, e0]
            · rintro e w3 ⟨rfl, b9⟩
              exact ⟨_, rfl, (show Value.int .i64 _ = Value.int .i64 _ by rw [hec.out]), trivial, b9⟩
          · refine .inl ⟨.inr ⟨5, true, 23, rfl, by kernel_rfl, rfl, by simp, fun v h => h⟩, ?_⟩
            exact .inl ⟨by kernel_rfl, fun L a1 w1 n h => ⟨_, rfl, run_eqlI (.tmp 25) (.tmp 27) rfl (h.dep n 7 25 (by kernel_rfl) rfl) (h.dep n 9 27 (by kernel_rfl) rfl) (decide_eq_true rfl)⟩⟩
          · refine .inl ⟨.inl rfl, ?_⟩
            exact .inl ⟨by kernel_rfl, fun L a1 w1 n h => ⟨_, rfl, run_pickT (.tmp 23) _ _ rfl (h.dep n 5 23 (by kernel_rfl) rfl) (h.dep n 10 28 (by kernel_rfl) rfl)⟩⟩
          · refine .inl ⟨.inl rfl, ?_⟩
            exact .inl ⟨by kernel_rfl, fun L a1 w1 n h => ⟨_, rfl, run_move (.tmp 29) rfl (h.dep n 11 29 (by kernel_rfl) rfl)⟩⟩
          · refine .inl ⟨.inr ⟨12, true, 30, rfl, by kernel_rfl, rfl, by simp, fun v h => h⟩, ?_⟩
            exact .inl ⟨by kernel_rfl, fun L a1 w1 n h => ⟨_, rfl, run_move (.tmp 3) rfl (h.var n 3 (by kernel_rfl))⟩⟩
          · refine .inl ⟨.inr ⟨12, true, 30, rfl, by kernel_rfl, rfl, by simp, fun v h => h⟩, ?_⟩
            exact .inl ⟨by kernel_rfl, fun L a1 w1 n h => ⟨_, rfl, run_neqI (.tmp 31) (.const (.int .i64 0)) rfl (h.dep n 13 31 (by kernel_rfl) rfl) rfl hcd.out⟩⟩
          · refine .inl ⟨.inr ⟨12, true, 30, rfl, by kernel_rfl, rfl, by simp, fun v h => h⟩, ?_⟩
            exact .inl ⟨by kernel_rfl, fun L a1 w1 n h => ⟨_, rfl, run_move (.tmp 32) rfl (h.dep n 14 32 (by kernel_rfl) rfl)⟩⟩
          · refine .inl ⟨.inr ⟨15, false, 33, rfl, by kernel_rfl, rfl, by simp, fun v h => h⟩, ?_⟩
            refine .inl ⟨by kernel_rfl, fun L a1 w1 n h => ⟨.pointer (some ⟨g1, 1, none⟩), rfl, ?_⟩⟩
            have e0 : a1.eval (.tmp 1) = _ := h.var n 1 (by kernel_rfl)
            unfold execOp
            simp only [e0]
            go_simp
          · refine .inl ⟨.inr ⟨15, false, 33, rfl, by kernel_rfl, rfl, by simp, fun v h => h⟩, ?_⟩
            exact .inl ⟨by kernel_rfl, fun L a1 w1 n h => ⟨_, rfl, run_loadP 26 (.tmp 34) g1 1 TE [encStr key] (vlC x vp vl vs) [.int .i64 at_] _ rfl (h.dep n 16 34 (by kernel_rfl) rfl) (r1.later h.inv.1) rfl Try.underlying26 rfl (szVl x _ _ _)⟩⟩
          · refine .inl ⟨.inr ⟨15, false, 33, rfl, by kernel_rfl, rfl, by simp, fun v h => h⟩, ?_⟩
            refine .inr fun L a1 w1 n h K hK => ?_
            have e0 : a1.eval (.tmp 35) = vlV x vp vl vs := h.dep n 17 35 (by kernel_rfl) rfl
            refine JF.call (FVc_mono ()) h hK 36 rfl 11 _ _ #[vlV x vp vl vs] rfl Try.call11 ?_ (size_any w1 x _ _ _ (hM.later h.inv.1) few.own fx.own.t hlt.out) ?_
            · simp only [List.map_toArray, List.map_cons, List.map_nil, e0]
            · rintro e w3 ⟨rfl, b9⟩
              exact ⟨_, rfl, (show Value.int .i64 _ = Value.int .i64 _ by rw [size_eq hown.out, hszz.out]), trivial, b9⟩
          · refine .inl ⟨.inr ⟨15, false, 33, rfl, by kernel_rfl, rfl, by simp, fun v h => h⟩, ?_⟩
            refine .inl ⟨by kernel_rfl, fun L a1 w1 n h => ⟨.pointer (some ⟨g1, 1, none⟩), rfl, ?_⟩⟩
            have e0 : a1.eval (.tmp 1) = _ := h.var n 1 (by kernel_rfl)
            unfold execOp
            simp only [e0]
            go_simp
          · refine .inl ⟨.inr ⟨15, false, 33, rfl, by kernel_rfl, rfl, by simp, fun v h => h⟩, ?_⟩
            exact .inl ⟨by kernel_rfl, fun L a1 w1 n h => ⟨_, rfl, run_loadP 26 (.tmp 37) g1 1 TE [encStr key] (vlC x vp vl vs) [.int .i64 at_] _ rfl (h.dep n 19 37 (by kernel_rfl) rfl) (r1.later h.inv.1) rfl Try.underlying26 rfl (szVl x _ _ _)⟩⟩
          · refine .inl ⟨.inr ⟨15, false, 33, rfl, by kernel_rfl, rfl, by simp, fun v h => h⟩, ?_⟩
            refine .inr fun L a1 w1 n h K hK => ?_
            have e0 : a1.eval (.tmp 38) = vlV x vp vl vs := h.dep n 20 38 (by kernel_rfl) rfl
            refine JF.call (FVc_mono ()) h hK 39 rfl 12 _ _ #[vlV x vp vl vs] rfl Try.call12 ?_ (rsize_any w1 x _ _ _ (hM.later h.inv.1) few fx.t hlx.out) ?_
            · simp only [List.map_toArray, List.map_cons, List.map_nil, e0]
            · rintro e w3 ⟨rfl, b9⟩
              exact ⟨_, rfl, (show Value.int .i64 _ = Value.int .i64 _ by rw [hszz.out]), trivial, b9⟩
          · refine .inl ⟨.inr ⟨15, false, 33, rfl, by kernel_rfl, rfl, by simp, fun v h => h⟩, ?_⟩
            exact .inl ⟨by kernel_rfl, fun L a1 w1 n h => ⟨_, rfl, run_eqlI (.tmp 36) (.tmp 39) rfl (h.dep n 18 36 (by kernel_rfl) rfl) (h.dep n 21 39 (by kernel_rfl) rfl) (decide_eq_true rfl)⟩⟩
          · refine .inl ⟨.inr ⟨12, true, 30, rfl, by kernel_rfl, rfl, by simp, fun v h => h⟩, ?_⟩
            exact .inl ⟨by kernel_rfl, fun L a1 w1 n h => ⟨_, rfl, run_pickF (.tmp 33) _ _ rfl (h.dep n 15 33 (by kernel_rfl) rfl) (h.dep n 22 40 (by kernel_rfl) rfl)⟩⟩
          · refine .inl ⟨.inl rfl, ?_⟩
            exact .inl ⟨by kernel_rfl, fun L a1 w1 n h => ⟨_, rfl, run_pickT (.tmp 30) _ _ rfl (h.dep n 12 30 (by kernel_rfl) rfl) (h.dep n 23 41 (by kernel_rfl) rfl)⟩⟩
          · refine .inl ⟨.inl rfl, ?_⟩
            exact .inl ⟨by kernel_rfl, fun L a1 w1 n h => ⟨_, rfl, run_move (.tmp 42) rfl (h.dep n 24 42 (by kernel_rfl) rfl)⟩⟩
          · refine .inl ⟨.inr ⟨25, true, 43, rfl, by kernel_rfl, rfl, by simp, fun v h => h⟩, ?_⟩
            refine .inr fun L a1 w1 n h K hK => ?_
            refine JF.call (FVc_mono ()) h hK 44 rfl 6 _ _ #[] rfl Try.call6 ?_ (awake_any w1) ?_
            · simp
            · rintro e w3 ⟨rfl, b9⟩
              exact ⟨_, rfl, rfl, trivial, b9⟩
          · refine .inl ⟨.inl rfl, ?_⟩
            exact .inl ⟨by kernel_rfl, fun L a1 w1 n h => ⟨_, rfl, run_pickT (.tmp 43) _ _ rfl (h.dep n 25 43 (by kernel_rfl) rfl) (h.dep n 26 44 (by kernel_rfl) rfl)⟩⟩
          · refine .inl ⟨.inl rfl, ?_⟩
            exact .inl ⟨by kernel_rfl, fun L a1 w1 n h => ⟨_, rfl, run_assign (.tmp 45) rfl (h.dep n 27 45 (by kernel_rfl) rfl)⟩⟩
        case heZ =>
          intro V w9 hV hJ
          have b9 : Below w5.heap.size w5 w9 := hJ.1
          have hE9 : V 28 = .bool true := hV 28 _ rfl
          clear hV hJ
          simp only [putOps, List.setIfInBounds_toArray, List.set_cons_succ, List.set_cons_zero, Nat.reduceAdd]
          rw [hE9]
          go_wp2_with fail
          go_ret
          exact ⟨rfl, B5.trans (b9.mono B5.size)⟩
      · have hcd := hide (show decide (c = 0) = !true from decide_eq_false hc0)
        replace hc := hide hc
        replace hec := hide hec
        replace hc0 := hide hc0
        go_wp2_with fail
        refine wp_region_valsS [2, 7, 9, 26] (SVcN g1 key x vp vl vs at_ c ec) (JF w5 [2, 7, 9, 26] (FVc ())) (by kernel_rfl) (by kernel_rfl) (by kernel_rfl) (by kernel_rfl) (JF.start _) ?obsN ?heN
        case obsN =>
          refine ⟨?_, ?_, ?_, ?_, ?_, ?_, ?_, ?_, ?_, ?_, ?_, ?_, ?_, ?_, ?_, ?_, ?_, ?_, ?_, ?_, ?_, ?_, ?_, ?_, ?_, ?_, ?_, ?_, ?_, trivial⟩
          · refine .inl ⟨.inl rfl, ?_⟩
            refine .inl ⟨by kernel_rfl, fun L a1 w1 n h => ⟨.pointer (some ⟨g1, 1, none⟩), rfl, ?_⟩⟩
            have e0 : a1.eval (.tmp 1) = _ := h.var n 1 (by kernel_rfl)
            unfold execOp
            simp only [e0]
            go_simp
          · refine .inl ⟨.inl rfl, ?_⟩
            exact .inl ⟨by kernel_rfl, fun L a1 w1 n h => ⟨_, rfl, run_loadP 26 (.tmp 18) g1 1 TE [encStr key] (vlC x vp vl vs) [.int .i64 at_] _ rfl (h.dep n 0 18 (by kernel_rfl) rfl) (r1.later h.inv.1) rfl Try.underlying26 rfl (szVl x _ _ _)⟩⟩
          · refine .inl ⟨.inl rfl, ?_⟩
            refine .inr fun L a1 w1 n h K hK => ?_
            have e0 : a1.eval (.tmp 19) = vlV x vp vl vs := h.dep n 1 19 (by kernel_rfl) rfl
            refine JF.call (FVc_mono ()) h hK 20 rfl 8 _ _ #[vlV x vp vl vs] rfl Try.call8 ?_ (check_any w1 x _ _ _ (hM.later h.inv.1) few fx.t) ?_
            · simp only [List.map_toArray, List.map_cons, List.map_nil, e0]
            · rintro e w3 ⟨rfl, b9⟩
              exact ⟨_, rfl, (show Value.int .i64 _ = Value.int .i64 _ by rw [chk_eq, hc.out]), trivial, b9⟩
          · refine .inl ⟨.inl rfl, ?_⟩
            exact .inl ⟨by kernel_rfl, fun L a1 w1 n h => ⟨_, rfl, run_move (.tmp 3) rfl (h.var n 3 (by kernel_rfl))⟩⟩
          · refine .inl ⟨.inl rfl, ?_⟩
            exact .inl ⟨by kernel_rfl, fun L a1 w1 n h => ⟨_, rfl, run_eqlI (.tmp 20) (.tmp 21) rfl (h.dep n 2 20 (by kernel_rfl) rfl) (h.dep n 3 21 (by kernel_rfl) rfl) (decide_eq_true rfl)⟩⟩
          · refine .inl ⟨.inl rfl, ?_⟩
            exact .inl ⟨by kernel_rfl, fun L a1 w1 n h => ⟨_, rfl, run_move (.tmp 22) rfl (h.dep n 4 22 (by kernel_rfl) rfl)⟩⟩
          · refine .inl ⟨.inr ⟨5, true, 23, rfl, by kernel_rfl, rfl, by simp, fun v h => h⟩, ?_⟩
            exact .inl ⟨by kernel_rfl, fun L a1 w1 n h => ⟨_, rfl, run_loadRow 28 (.tmp 1) g1 28 _ _ rfl (h.var n 1 (by kernel_rfl)) (r1.later h.inv.1) Try.underlying28 rfl (szEn key x _ _ _ at_)⟩⟩
          · refine .inl ⟨.inr ⟨5, true, 23, rfl, by kernel_rfl, rfl, by simp, fun v h => h⟩, ?_⟩
            refine .inr fun L a1 w1 n h K hK => ?_
            have e0 : a1.eval (.tmp 24) = enV key x vp vl vs at_ := h.dep n 6 24 (by kernel_rfl) rfl
            refine JF.call (FVc_mono ()) h hK 25 rfl 9 _ _ #[enV key x vp vl vs at_] rfl Try.call9 ?_ (entry_any w1 key x _ _ _ at_ (fun wz hb => check_any wz x _ _ _ ((hM.later h.inv.1).later hb) few fx.t)) ?_
            · simp only [List.map_toArray, List.map_cons, List.map_nil, e0]
            · rintro e w3 ⟨rfl, b9⟩
              exact ⟨_, rfl, (show Value.int .i64 _ = Value.int .i64 _ by rw [chk_eq, hec.out]), trivial, b9⟩
          · refine .inl ⟨.inr ⟨5, true, 23, rfl, by kernel_rfl, rfl, by simp, fun v h => h⟩, ?_⟩
            exact .inl ⟨by kernel_rfl, fun L a1 w1 n h => ⟨_, rfl, run_loadRow 28 (.tmp 1) g1 28 _ _ rfl (h.var n 1 (by kernel_rfl)) (r1.later h.inv.1) Try.underlying28 rfl (szEn key x _ _ _ at_)⟩⟩
          · refine .inl ⟨.inr ⟨5, true, 23, rfl, by kernel_rfl, rfl, by simp, fun v h => h⟩, ?_⟩
            refine .inr fun L a1 w1 n h K hK => ?_
            have e0 : a1.eval (.tmp 26) = enV key x vp vl vs at_ := h.dep n 8 26 (by kernel_rfl) rfl
            refine JF.call (FVc_mono ()) h hK 27 rfl 10 _ _ #[enV key x vp vl vs at_] rfl Try.call10 ?_ (rentry_any w1 key x _ _ _ at_ (fun wz hb => rcheck_any wz x _ _ _ ((hM.later h.inv.1).later hb) few fx.t hcp)) ?_
            · simp only [List.map_toArray, List.map_cons, List.map_nil, e0]
            · rintro e w3 ⟨rfl, b9⟩
              exact ⟨_, rfl, (show Value.int .i64 _ = Value.int .i64 _ by rw [hec.out]), trivial, b9⟩
          · refine .inl ⟨.inr ⟨5, true, 23, rfl, by kernel_rfl, rfl, by simp, fun v h => h⟩, ?_⟩
            exact .inl ⟨by kernel_rfl, fun L a1 w1 n h => ⟨_, rfl, run_eqlI (.tmp 25) (.tmp 27) rfl (h.dep n 7 25 (by kernel_rfl) rfl) (h.dep n 9 27 (by kernel_rfl) rfl) (decide_eq_true rfl)⟩⟩
          · refine .inl ⟨.inl rfl, ?_⟩
            exact .inl ⟨by kernel_rfl, fun L a1 w1 n h => ⟨_, rfl, run_pickT (.tmp 23) _ _ rfl (h.dep n 5 23 (by kernel_rfl) rfl) (h.dep n 10 28 (by kernel_rfl) rfl)⟩⟩
          · refine .inl ⟨.inl rfl, ?_⟩
            exact .inl ⟨by kernel_rfl, fun L a1 w1 n h => ⟨_, rfl, run_move (.tmp 29) rfl (h.dep n 11 29 (by kernel_rfl) rfl)⟩⟩
          · refine .inl ⟨.inr ⟨12, true, 30, rfl, by kernel_rfl, rfl, by simp, fun v h => h⟩, ?_⟩
            exact .inl ⟨by kernel_rfl, fun L a1 w1 n h => ⟨_, rfl, run_move (.tmp 3) rfl (h.var n 3 (by kernel_rfl))⟩⟩
          · refine .inl ⟨.inr ⟨12, true, 30, rfl, by kernel_rfl, rfl, by simp, fun v h => h⟩, ?_⟩
            exact .inl ⟨by kernel_rfl, fun L a1 w1 n h => ⟨_, rfl, run_neqI (.tmp 31) (.const (.int .i64 0)) rfl (h.dep n 13 31 (by kernel_rfl) rfl) rfl hcd.out⟩⟩
          · refine .inl ⟨.inr ⟨12, true, 30, rfl, by kernel_rfl, rfl, by simp, fun v h => h⟩, ?_⟩
            exact .inl ⟨by kernel_rfl, fun L a1 w1 n h => ⟨_, rfl, run_move (.tmp 32) rfl (h.dep n 14 32 (by kernel_rfl) rfl)⟩⟩
          · exact .inr ⟨⟨15, false, 33, rfl, by kernel_rfl, rfl, by simp, fun v h => by rw [show v = .bool true from h]; first | exact ne_tf | exact ne_ft | exact ne_undef _⟩, by kernel_rfl, rfl⟩
          · exact .inr ⟨⟨15, false, 33, rfl, by kernel_rfl, rfl, by simp, fun v h => by rw [show v = .bool true from h]; first | exact ne_tf | exact ne_ft | exact ne_undef _⟩, by kernel_rfl, rfl⟩
          · exact .inr ⟨⟨15, false, 33, rfl, by kernel_rfl, rfl, by simp, fun v h => by rw [show v = .bool true from h]; first | exact ne_tf | exact ne_ft | exact ne_undef _⟩, by kernel_rfl, rfl⟩
          · exact .inr ⟨⟨15, false, 33, rfl, by kernel_rfl, rfl, by simp, fun v h => by rw [show v = .bool true from h]; first | exact ne_tf | exact ne_ft | exact ne_undef _⟩, by kernel_rfl, rfl⟩
          · exact .inr ⟨⟨15, false, 33, rfl, by kernel_rfl, rfl, by simp, fun v h => by rw [show v = .bool true from h]; first | exact ne_tf | exact ne_ft | exact ne_undef _⟩, by kernel_rfl, rfl⟩
          · exact .inr ⟨⟨15, false, 33, rfl, by kernel_rfl, rfl, by simp, fun v h => by rw [show v = .bool true from h]; first | exact ne_tf | exact ne_ft | exact ne_undef _⟩, by kernel_rfl, rfl⟩
          · exact .inr ⟨⟨15, false, 33, rfl, by kernel_rfl, rfl, by simp, fun v h => by rw [show v = .bool true from h]; first | exact ne_tf | exact ne_ft | exact ne_undef _⟩, by kernel_rfl, rfl⟩
          · refine .inl ⟨.inr ⟨12, true, 30, rfl, by kernel_rfl, rfl, by simp, fun v h => h⟩, ?_⟩
            exact .inl ⟨by kernel_rfl, fun L a1 w1 n h => ⟨_, rfl, run_pickT (.tmp 33) _ _ rfl (h.dep n 15 33 (by kernel_rfl) rfl) rfl⟩⟩
          · refine .inl ⟨.inl rfl, ?_⟩
            exact .inl ⟨by kernel_rfl, fun L a1 w1 n h => ⟨_, rfl, run_pickT (.tmp 30) _ _ rfl (h.dep n 12 30 (by kernel_rfl) rfl) (h.dep n 23 41 (by kernel_rfl) rfl)⟩⟩
          · refine .inl ⟨.inl rfl, ?_⟩
            exact .inl ⟨by kernel_rfl, fun L a1 w1 n h => ⟨_, rfl, run_move (.tmp 42) rfl (h.dep n 24 42 (by kernel_rfl) rfl)⟩⟩
          · refine .inl ⟨.inr ⟨25, true, 43, rfl, by kernel_rfl, rfl, by simp, fun v h => h⟩, ?_⟩
            refine .inr fun L a1 w1 n h K hK => ?_
            refine JF.call (FVc_mono ()) h hK 44 rfl 6 _ _ #[] rfl Try.call6 ?_ (awake_any w1) ?_
            · simp
            · rintro e w3 ⟨rfl, b9⟩
              exact ⟨_, rfl, rfl, trivial, b9⟩
          · refine .inl ⟨.inl rfl, ?_⟩
            exact .inl ⟨by kernel_rfl, fun L a1 w1 n h => ⟨_, rfl, run_pickT (.tmp 43) _ _ rfl (h.dep n 25 43 (by kernel_rfl) rfl) (h.dep n 26 44 (by kernel_rfl) rfl)⟩⟩
          · refine .inl ⟨.inl rfl, ?_⟩
            exact .inl ⟨by kernel_rfl, fun L a1 w1 n h => ⟨_, rfl, run_assign (.tmp 45) rfl (h.dep n 27 45 (by kernel_rfl) rfl)⟩⟩
        case heN =>
          intro V w9 hV hJ
          have b9 : Below w5.heap.size w5 w9 := hJ.1
          have hE9 : V 28 = .bool true := hV 28 _ rfl
          clear hV hJ
          simp only [putOps, List.setIfInBounds_toArray, List.set_cons_succ, List.set_cons_zero, Nat.reduceAdd]
          rw [hE9]
          go_wp2_with fail
          go_ret
          exact ⟨rfl, B5.trans (b9.mono B5.size)⟩
end Go.Proofs.Ytenejloailkodaa

/- Proved: the law ValueChecks (P15.1) answers true and leaves its argument as it read before. For every entry; no condition. -/
namespace Go.Proofs.Ytenejloailkodaa.valueChecks
open Go.ChangeShapes Go.WideShapes Go.ChangeAt Go.RowKit

theorem own : ownKnob Try.prog.godebug = none := by kernel_rfl
theorem laidOut : laidOutB Try.prog = true := by kernel_rfl

set_option maxRecDepth 100000 in
theorem lifted (os : Os) (started : os.Started) (H : Type) (enc : TypeId × Value → H) :
    ReturnsInHanded {} Try.checked os 3 .any (Rows.valueChecksSpec.pre6 enc Try.prog Try.f3 Rows.valueChecksRow.domain false) (Rows.valueChecksSpec.post enc Try.prog Try.f3 false true false false) := by
  refine returnsInHanded_of_change_sized (C := Try.checked) own started (by kernel_rfl) Try.func3
    (ChangeSpec.witness6 (enc := enc) (C := Try.checked) false ⟨#[], #[.agg #[.string ByteArray.empty, .int .i64 0, .string ByteArray.empty, .slice none 0 0, .slice none 0 0, .slice none 0 0, .int .i64 0]], []⟩ 8 (by kernel_rfl) (by kernel_rfl) (by kernel_rfl) (by kernel_rfl)) ?_
  intro W base args ds gs before hval0 hW hcnd hsz0 _
  have hsz : (DataW.weightsEach Try.prog (Try.f3.params.toList ++ Rows.valueChecksSpec.plain.varTypes Try.prog) (ds ++ gs)).all (· ≤ reachBytes) = true := hsz0
  have hval : ∀ (j : Nat) t v, Try.f3.params[j]? = some t → args[j]? = some v → Value.okWide Try.prog W .any base t v := hval0
  have hW' := hW
  obtain ⟨p, q, hA0, hV, rfl, hfz, hnd⟩ := hW
  have hA : DataW.TrodAll enc Try.prog W 0 (fun _ => true) true Try.f3.params.toList args.toList ds p := hA0
  rw [Try.params3] at hA hval hsz
  obtain ⟨v0, vs0, d0, ds0, p0, q0, hargs, rfl, rfl, h0, r0⟩ := trodAll_cons hA
  obtain ⟨rfl, rfl, rfl⟩ := trodAll_nil r0
  obtain rfl : args = #[v0] := by cases args; simp_all
  obtain ⟨rfl, rfl⟩ := trodVars_none hV
  have k0 := h0
  have lt0 : ∀ x ∈ p0, x.block < W.heap.size := by obtain ⟨m, hm⟩ := k0; exact DataW.trod_lt m _ _ _ hm
  clear hA0 hval0 hsz0
  obtain ⟨cs0, rfl⟩ : ∃ cs : List Value, v0 = .agg cs.toArray := by
    have := hval 0 28 v0 rfl rfl
    obtain ⟨cs, rfl, _⟩ : ∃ cs, v0 = .agg cs ∧ cs.size = Try.prog.cellsOf 28 ∧ Row.okWide Try.prog W .any base 28 cs := by
      simpa [Value.okWide, Try.underlying28] using this
    exact ⟨cs.toList, by simp⟩
  have kk0 := k0
  obtain ⟨fuel0, hf0⟩ := kk0
  have z0 : ∀ n ∈ d0.weights Try.prog 28, n ≤ reachBytes := fun n hn => by
    have := List.all_eq_true.1 hsz n (DataW.weights_mem_each (j := 0) rfl rfl n hn)
    simpa using this
  obtain ⟨y0, q0, p0p, p0l, p0s, t0, hcs0, m0, f0, c0, b0, i0⟩ := open_entry hf0 z0
  obtain rfl : cs0 = _ := hcs0
  refine (valueChecks_any W y0 q0 _ _ _ t0 m0 f0 c0 b0).mono fun e W' ⟨he, bel⟩ => ?_
  subst he
  exact ⟨_, rfl, _, _, _, [], _, [], hW', trodAll_mk1 (shut_bool Try.underlying4 _), (trodAll_cons_mk (Below.trod laidOut (by kernel_rfl) (of_decide_eq_true (by kernel_rfl)) k0 bel lt0) trodAll_mk0), rfl, bel.frame _, fun h => by cases h⟩

theorem over : Rows.valueChecksRow.holds Try.pinned (OpenSpec.ofChange Rows.valueChecksSpec) :=
  OpenClaim.holds_of_wide 3 Try.f3 rfl rfl rfl rfl rfl rfl rfl ⟨rfl, rfl, rfl, rfl, rfl⟩ rfl rfl rfl rfl rfl (by kernel_rfl) Try.func3 (by kernel_rfl)
    (of_decide_eq_true (by kernel_rfl)) (by unfold Func.isWrapper; first | (rw [if_pos (by decide +kernel)]; kernel_rfl) | (rw [if_neg (by decide +kernel)]; exact ⟨rfl, rfl⟩))
    (fun os started H enc _ => lifted os started H enc)

/-- The given statement. -/
theorem proved : Rows.ValueChecksSaid := over
#print axioms proved
end Go.Proofs.Ytenejloailkodaa.valueChecks

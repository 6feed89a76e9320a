/-
  Several own texts in one: DiskR, DiskS, DiskT, DiskU, DiskX, DiskY, DiskZ, DiskZb, DiskZc, DiskZd, DiskZe, DiskZf, DiskZg, DiskZh, DiskZi, DiskZk, DiskZl, DiskZm, DiskZn, DiskZo, DiskZp, DiskZq. Own work.
-/
import Derived.Deep.Slices
import Derived.OpenShut
import Derived.ChangeSame
import Derived.BigQuiet
import Derived.Test.YtfijhfolanhifaaGB
import Derived.Test.YtfijhfolanhifaaGA
set_option linter.unusedVariables false
set_option linter.unusedSimpArgs false
/-
  Powers: On; a power that no call made; the law DiskPower: contract. Own work.
-/
namespace Go.Proofs.Ytfijhfolanhifaa
open Go.RowKit Go.Maps Go.ChangeMaps
set_option maxRecDepth 100000 in
theorem pOn_any (w : World) (gP gp : Nat) (on : Bool) (fuse : Int) (hp : Pwr w gP gp) (h : Plg w gp on fuse) : Calls Try.prog 24 #[ptr gP] w fun e w' => e = .returned (.bool on) ∧ w = w' := by
  go_enter Try.func24, Try.ntmps24
  go_wp2_with fail
  refine (shared_any w gP _ hp).mono ?_
  rintro en w1 ⟨rfl, rfl⟩
  go_wp2_with fail
  refine (live_any w gp on fuse h).mono ?_
  rintro en w1 ⟨rfl, rfl⟩
  go_wp2_with fail
  go_ret
  exact ⟨rfl, rfl⟩
/-- A power that no call made. -/
def PwNone (w : World) (v : Value) : Prop := v = .pointer none ∨ ∃ g, v = ptr g ∧ Row w 57 g [.pointer none]
theorem shared_none (w : World) (v : Value) (h : PwNone w v) : Calls Try.prog 72 #[v] w fun e w' => e = .returned (.pointer none) ∧ w = w' := by
  rcases h with rfl | ⟨g, rfl, h⟩
  · exact shared_nil w
  · exact shared_any w g _ h
set_option maxRecDepth 100000 in
theorem burn_nil (w : World) (m : Int) : Calls Try.prog 84 #[.pointer none, .int .i64 m] w fun e w' => e = .returned (.tuple #[]) ∧ w = w' := by
  go_enter Try.func84, Try.ntmps84
  go_wp2_with fail
  go_end0
  exact ⟨rfl, rfl⟩
set_option maxRecDepth 100000 in
theorem mend_nil (w : World) : Calls Try.prog 71 #[.pointer none] w fun e w' => e = .returned (.tuple #[]) ∧ w = w' := by
  go_enter Try.func71, Try.ntmps71
  go_wp2_with fail
  go_end0
  exact ⟨rfl, rfl⟩
set_option maxRecDepth 100000 in
theorem pFuse_none (w : World) (v : Value) (m : Int) (h : PwNone w v) : Calls Try.prog 28 #[v, .int .i64 m] w fun e w' => e = .returned (.tuple #[]) ∧ w = w' := by
  have hS := shared_none w v h
  clear h
  go_enter Try.func28, Try.ntmps28
  go_wp2_with fail
  refine hS.mono ?_
  rintro en w1 ⟨rfl, rfl⟩
  clear hS
  go_wp2_with fail
  refine (burn_nil w m).mono ?_
  rintro en w1 ⟨rfl, rfl⟩
  go_wp2_with fail
  go_end0
  exact ⟨rfl, rfl⟩
set_option maxRecDepth 100000 in
theorem pMend_none (w : World) (v : Value) (h : PwNone w v) : Calls Try.prog 30 #[v] w fun e w' => e = .returned (.tuple #[]) ∧ w = w' := by
  have hS := shared_none w v h
  clear h
  go_enter Try.func30, Try.ntmps30
  go_wp2_with fail
  refine hS.mono ?_
  rintro en w1 ⟨rfl, rfl⟩
  clear hS
  go_wp2_with fail
  refine (mend_nil w).mono ?_
  rintro en w1 ⟨rfl, rfl⟩
  go_wp2_with fail
  go_end0
  exact ⟨rfl, rfl⟩
set_option maxRecDepth 100000 in
theorem pOn_none (w : World) (v : Value) (h : PwNone w v) : Calls Try.prog 24 #[v] w fun e w' => e = .returned (.bool false) ∧ w = w' := by
  have hS := shared_none w v h
  clear h
  go_enter Try.func24, Try.ntmps24
  go_wp2_with fail
  refine hS.mono ?_
  rintro en w1 ⟨rfl, rfl⟩
  clear hS
  go_wp2_with fail
  refine (live_nil w).mono ?_
  rintro en w1 ⟨rfl, rfl⟩
  go_wp2_with fail
  go_ret
  exact ⟨rfl, rfl⟩
set_option maxRecDepth 100000 in
theorem pAct_none (w : World) (v : Value) (h : PwNone w v) : Calls Try.prog 31 #[v] w fun e w' => e = .returned (.int .i64 8) ∧ w = w' := by
  have hS := shared_none w v h
  clear h
  go_enter Try.func31, Try.ntmps31
  go_wp2_with fail
  refine hS.mono ?_
  rintro en w1 ⟨rfl, rfl⟩
  clear hS
  go_wp2_with fail
  refine (act_nil w).mono ?_
  rintro en w1 ⟨rfl, rfl⟩
  go_wp2_with fail
  go_ret
  exact ⟨rfl, rfl⟩

set_option maxRecDepth 100000 in
theorem eqB (on : Bool) (w : World) : (Op.equal 4 (.bool on) (.bool (!on))).run Try.prog w = .ok false w := by cases on <;> rfl
def SPp (gP gq : Nat) (on2 : Bool) (opn : Nat) (v : Value) : Prop :=
  match opn with
  | 0 => v = ptr gP
  | 1 => v = .bool on2
  | 2 | 3 => v = ptr gq
  | 4 => v = .pointer (some ⟨gq, 0, none⟩)
  | 5 => v = .bool (!on2)
  | 6 => v = .bool false
  | _ => True

def FNoP  (opn : Nat) (v : Value) (w : World) : Prop :=
  match opn with
  | _ => True
theorem FNoP_mono  : ∀ j v w w', FNoP  j v w → Below w.heap.size w w' → FNoP  j v w' := by
  intro j v w w' h hb
  unfold FNoP at h ⊢
  split at h
  · trivial

set_option maxRecDepth 100000 in
set_option maxHeartbeats 2000000 in
theorem diskPower_any (A : Option Addr) (m c : Nat) (cs : List Int) (w : World) (h : IsAt w w.heap.size A m cs) :
    Calls Try.prog 4 #[.slice A m c] w fun e w' => e = .returned (.bool true) ∧ Below w.heap.size w w' := by
  by_cases hlong : (60 : Int) < (m : Int)
  · have hd : decide ((60 : Int) < (m : Int)) = true := by simp; omega
    go_enter Try.func4, Try.ntmps4
    go_wp2_with fail
    refine (awakeD_any w).mono ?_
    rintro e w2 ⟨rfl, b2⟩
    go_wp2_with fail
    go_ret
    exact ⟨rfl, b2⟩
  · have hd : decide ((60 : Int) < (m : Int)) = false := by simp; omega
    have hm : m ≤ 60 := by omega
    clear hlong
    have HH := hide h
    clear h
    obtain ⟨B, hBe⟩ : ∃ B, B = w.heap.size := ⟨_, rfl⟩
    have hBw : B ≤ w.heap.size := Nat.le_of_eq hBe
    go_enter Try.func4, Try.ntmps4
    go_wp2_with fail
    refine (plug_any w).mono ?_
    rintro en w1 ⟨gP, gp, rfl, hPw, hPl, hgP, hgp, hne, b1⟩
    go_wp2_with fail
    refine (rPlug_any w1).mono ?_
    rintro en w2 ⟨gq, rfl, hRp, hgq, b2⟩
    rw [← hBe] at hgP hgp b1
    have hPw := Row.later hPw b2
    have hPl := Row.later hPl b2
    have hgq : B ≤ gq := Nat.le_trans (Nat.le_trans hBw b1.size) hgq
    have B2 : Below B w w2 := b1.trans (b2.mono (Nat.le_trans hBw b1.size))
    clear b1 b2
    go_wp2_with fail
    go_loopw [5] (fun iv wr => ∃ (i : Nat) (on : Bool) (fuse : Int), i ≤ m ∧ iv = .int .i64 i ∧ Pwr wr gP gp ∧ Plg wr gp on fuse ∧ RPw wr gq (!on) (max fuse (-1)) ∧ isI fuse ∧ Below B w wr) (fun iv _ => m - (intOf iv).toNat)
    case atStart => exact ⟨0, true, -1, by omega, rfl, hPw, hPl, hRp, isI_m1, B2⟩
    case round =>
      clear hPw hPl hRp B2 hne
      obtain ⟨i, on, fuse, him, rfl, hPw, hPl, hRp, hfu, hBr⟩ := hrel
      have nqp := rne hRp hPl (by decide)
      have nqP := rne hRp hPw (by decide)
      have npP := rne hPl hPw (by decide)
      by_cases hi : i < m
      · obtain ⟨cb, co, rfl, hcb, hcc⟩ := HH.out.2 (by omega)
        have cc := (hBr.cell (p := ⟨cb, co + i, none⟩) (hBe ▸ hcb)).trans (hcc i hi)
        clear hcc
        generalize cs.getD i 0 = x at cc
        have hBs := Nat.le_trans hBw hBr.size
        by_cases k0 : (IntKind.u64.wrap x).tmod 4 = 0
        · have z0 : ((IntKind.u64.wrap x).tmod 4 == 0) = true := by simpa using k0
          go_wp2_with fail
          refine (pFuse_any wr gP gp on fuse _ hPw hPl).mono ?_
          rintro e wa ⟨rfl, hPl, oa⟩
          have hPw := hPw.only oa npP.symm
          have hRp := hRp.only oa nqp
          have ba := oa.below hgp
          have cc := (ba.cell (p := ⟨cb, co + i, none⟩) (hBe ▸ hcb)).trans cc
          have hBr := hBr.trans ba
          go_wp2_with fail
          refine (rFuse_any wa gq (!on) (max fuse (-1)) _ hRp).mono ?_
          rintro e wb ⟨rfl, hRp, ob⟩
          have hPw := hPw.only ob nqP.symm
          have hPl := hPl.only ob nqp.symm
          have hBr := hBr.trans (ob.below hgq)
          have hfu : isI (wrap64 (x.tdiv 4)) := by unfold isI; generalize x.tdiv 4 = y; constructor <;> (unfold wrap64; omega)
          generalize wrap64 (x.tdiv 4) = fuse2 at hPl hRp hfu ⊢
          obtain ⟨on2, ho2⟩ : ∃ b, b = on := ⟨_, rfl⟩
          rw [← ho2] at hPl hRp
          clear cc oa ob ba z0 k0 ho2
          go_wp2_with fail
          rename_i K6 hK6
          refine wp_region_vals [1] (SPp gP gq on2) (JF wb [1] FNoP) (by kernel_rfl) (by kernel_rfl) (by kernel_rfl) (by kernel_rfl) (by kernel_rfl) (JF.start _) ?obsE ?heE
          case obsE =>
            refine ⟨?_, ?_, ?_, ?_, ?_, ?_, ?_, trivial⟩
            · exact .inl ⟨by kernel_rfl, fun L a1 w1 n h => ⟨_, rfl, run_move (.tmp 3) rfl (h.var n 3 (by kernel_rfl))⟩⟩
            · refine .inr fun L a1 w1 n h K hK => ?_
              have e0 : a1.eval (.tmp 57) = ptr gP := h.dep n 0 57 (by kernel_rfl) rfl
              refine JF.call (FNoP_mono ) h hK 58 rfl 24 _ _ #[ptr gP] rfl Try.call24 ?_ (pOn_any w1 gP gp on2 fuse2 (Row.later hPw h.inv.1) (Row.later hPl h.inv.1)) ?_
              · simp only [List.map_toArray, List.map_cons, List.map_nil, e0]
              · rintro e w3 ⟨rfl, rfl⟩
                exact ⟨_, rfl, rfl, trivial, (Below.refl _ _)⟩
            · exact .inl ⟨by kernel_rfl, fun L a1 w1 n h => ⟨_, rfl, run_move (.tmp 4) rfl (h.var n 4 (by kernel_rfl))⟩⟩
            · refine .inl ⟨by kernel_rfl, fun L a1 w1 n h => ⟨ptr gq, rfl, ?_⟩⟩
              have e0 : a1.eval (.tmp 59) = _ := h.dep n 2 59 (by kernel_rfl) rfl
              unfold execOp
              simp only [e0]
              go_simp
            · refine .inl ⟨by kernel_rfl, fun L a1 w1 n h => ⟨.pointer (some ⟨gq, 0, none⟩), rfl, ?_⟩⟩
              have e0 : a1.eval (.tmp 60) = _ := h.dep n 3 60 (by kernel_rfl) rfl
              unfold execOp
              simp only [e0]
              go_simp
            · exact .inl ⟨by kernel_rfl, fun L a1 w1 n h => ⟨_, rfl, run_loadA 4 (.tmp 61) ⟨gq, 0, none⟩ rfl Try.isAgg4 (h.dep n 4 61 (by kernel_rfl) rfl) ((Row.later hRp h.inv.1).cell (j := 0) (v := .bool (!on2)) rfl)⟩⟩
            · exact .inl ⟨by kernel_rfl, fun L a1 w1 n h => ⟨_, rfl, run_eqlB (.tmp 58) (.tmp 62) _ _ rfl (h.dep n 1 58 (by kernel_rfl) rfl) (h.dep n 5 62 (by kernel_rfl) rfl) (eqB on2)⟩⟩
          case heE =>
            intro V w9 hV2 hJ
            have hz : V 6 = .bool false := hV2 6 63 rfl
            have b9 : Below wb.heap.size wb w9 := hJ.1
            have hPw := Row.later hPw b9
            have hPl := Row.later hPl b9
            have hRp := Row.later hRp b9
            have hBr := hBr.trans (b9.mono (Nat.le_trans hBw hBr.size))
            clear hV2 hJ b9
            simp only [putOps, List.setIfInBounds_toArray, List.set_cons_succ, List.set_cons_zero, Nat.reduceAdd]
            rw [hz]
            refine hK6 _ _ ?_
            clear hz
            go_wp2_with fail
            go_roundw
            case rel => exact ⟨i + 1, on2, fuse2, by omega, by go_num, hPw, hPl, hRp, hfu, hBr⟩
            case measure => simp [intOf]; omega
        · have z0 : ((IntKind.u64.wrap x).tmod 4 == 0) = false := by simpa using k0
          by_cases k1 : (IntKind.u64.wrap x).tmod 4 = 1
          · have z1 : ((IntKind.u64.wrap x).tmod 4 == 1) = true := by simpa using k1
            go_wp2_with fail
            refine (pMend_any wr gP gp on fuse hPw hPl).mono ?_
            rintro e wa ⟨rfl, hPl, oa⟩
            have hPw := hPw.only oa npP.symm
            have hRp := hRp.only oa nqp
            have hBr := hBr.trans (oa.below hgp)
            go_wp2_with (first
              | ((with_reducible refine wl_store rfl 4 (.tmp 54) (.const (.bool false)) gq 0 42 [.bool (!on), .int .i64 (max fuse (-1))] (.bool false) rfl szBool rfl rfl hRp (lt2 _ _ (by decide)) rfl ?_); intro wb hR2' ob; have hR2 : Row wb 42 gq [.bool false, .int .i64 (max fuse (-1))] := hR2')
              | (with_reducible refine wl_store rfl 3 (.tmp 56) (.const (.int .i64 (-1))) gq 1 42 [.bool false, .int .i64 (max fuse (-1))] (.int .i64 (-1)) rfl szInt rfl rfl hR2 (lt2 _ _ (by decide)) rfl ?_; intro wc hR3 oc))
            rename_i K6 hK6
            have hPw := (hPw.only ob nqP.symm).only oc nqP.symm
            have hPl := (hPl.only ob nqp.symm).only oc nqp.symm
            have hBr := (hBr.trans (ob.below hgq)).trans (oc.below hgq)
            have hRp : RPw wc gq (!true) (max (-1) (-1)) := hR3
            have hfu := isI_m1
            obtain ⟨on2, ho2⟩ : ∃ b, b = true := ⟨_, rfl⟩
            rw [← ho2] at hPl hRp
            obtain ⟨fuse2, hf2⟩ : ∃ b : Int, b = -1 := ⟨_, rfl⟩
            have hRp : RPw wc gq (!on2) (max fuse2 (-1)) := hf2 ▸ hRp
            rw [← hf2] at hPl hfu
            clear cc oa ob oc z0 z1 k0 k1 ho2 hf2 hR2' hR2 hR3
            skip
            refine wp_region_vals [1] (SPp gP gq on2) (JF wc [1] FNoP) (by kernel_rfl) (by kernel_rfl) (by kernel_rfl) (by kernel_rfl) (by kernel_rfl) (JF.start _) ?obsE ?heE
            case obsE =>
              refine ⟨?_, ?_, ?_, ?_, ?_, ?_, ?_, trivial⟩
              · exact .inl ⟨by kernel_rfl, fun L a1 w1 n h => ⟨_, rfl, run_move (.tmp 3) rfl (h.var n 3 (by kernel_rfl))⟩⟩
              · refine .inr fun L a1 w1 n h K hK => ?_
                have e0 : a1.eval (.tmp 57) = ptr gP := h.dep n 0 57 (by kernel_rfl) rfl
                refine JF.call (FNoP_mono ) h hK 58 rfl 24 _ _ #[ptr gP] rfl Try.call24 ?_ (pOn_any w1 gP gp on2 fuse2 (Row.later hPw h.inv.1) (Row.later hPl h.inv.1)) ?_
                · simp only [List.map_toArray, List.map_cons, List.map_nil, e0]
                · rintro e w3 ⟨rfl, rfl⟩
                  exact ⟨_, rfl, rfl, trivial, (Below.refl _ _)⟩
              · exact .inl ⟨by kernel_rfl, fun L a1 w1 n h => ⟨_, rfl, run_move (.tmp 4) rfl (h.var n 4 (by kernel_rfl))⟩⟩
              · refine .inl ⟨by kernel_rfl, fun L a1 w1 n h => ⟨ptr gq, rfl, ?_⟩⟩
                have e0 : a1.eval (.tmp 59) = _ := h.dep n 2 59 (by kernel_rfl) rfl
                unfold execOp
                simp only [e0]
                go_simp
              · refine .inl ⟨by kernel_rfl, fun L a1 w1 n h => ⟨.pointer (some ⟨gq, 0, none⟩), rfl, ?_⟩⟩
                have e0 : a1.eval (.tmp 60) = _ := h.dep n 3 60 (by kernel_rfl) rfl
                unfold execOp
                simp only [e0]
                go_simp
              · exact .inl ⟨by kernel_rfl, fun L a1 w1 n h => ⟨_, rfl, run_loadA 4 (.tmp 61) ⟨gq, 0, none⟩ rfl Try.isAgg4 (h.dep n 4 61 (by kernel_rfl) rfl) ((Row.later hRp h.inv.1).cell (j := 0) (v := .bool (!on2)) rfl)⟩⟩
              · exact .inl ⟨by kernel_rfl, fun L a1 w1 n h => ⟨_, rfl, run_eqlB (.tmp 58) (.tmp 62) _ _ rfl (h.dep n 1 58 (by kernel_rfl) rfl) (h.dep n 5 62 (by kernel_rfl) rfl) (eqB on2)⟩⟩
            case heE =>
              intro V w9 hV2 hJ
              have hz : V 6 = .bool false := hV2 6 63 rfl
              have b9 : Below wc.heap.size wc w9 := hJ.1
              have hPw := Row.later hPw b9
              have hPl := Row.later hPl b9
              have hRp := Row.later hRp b9
              have hBr := hBr.trans (b9.mono (Nat.le_trans hBw hBr.size))
              clear hV2 hJ b9
              simp only [putOps, List.setIfInBounds_toArray, List.set_cons_succ, List.set_cons_zero, Nat.reduceAdd]
              rw [hz]
              refine hK6 _ _ ?_
              clear hz
              go_wp2_with fail
              go_roundw
              case rel => exact ⟨i + 1, on2, fuse2, by omega, by go_num, hPw, hPl, hRp, hfu, hBr⟩
              case measure => simp [intOf]; omega
          · have z1 : ((IntKind.u64.wrap x).tmod 4 == 1) = false := by simpa using k1
            go_wp2_with fail
            refine (pAct_any wr gP gp on fuse hPw hPl hfu).mono ?_
            rintro e wa ⟨rfl, hPl, oa⟩
            have hPw := hPw.only oa npP.symm
            have hRp := hRp.only oa nqp
            have hBr := hBr.trans (oa.below hgp)
            go_wp2_with fail
            refine (rAct_any wa gq on fuse hRp hfu).mono ?_
            rintro e wb ⟨rfl, hRp, ob⟩
            have hPw := hPw.only ob nqP.symm
            have hPl := hPl.only ob nqp.symm
            have hBr := hBr.trans (ob.below hgq)
            have hfu : isI (actF on fuse) := by
              unfold actF isI at *
              split <;> omega
            generalize actE on fuse = ev
            generalize actF on fuse = fuse2 at hPl hRp hfu
            generalize (on && actOn on fuse) = on2 at hPl hRp
            clear cc oa ob z0 z1 k0 k1
            go_wp2_with fail
            rename_i K6 hK6
            refine wp_region_vals [1] (SPp gP gq on2) (JF wb [1] FNoP) (by kernel_rfl) (by kernel_rfl) (by kernel_rfl) (by kernel_rfl) (by kernel_rfl) (JF.start _) ?obsE ?heE
            case obsE =>
              refine ⟨?_, ?_, ?_, ?_, ?_, ?_, ?_, trivial⟩
              · exact .inl ⟨by kernel_rfl, fun L a1 w1 n h => ⟨_, rfl, run_move (.tmp 3) rfl (h.var n 3 (by kernel_rfl))⟩⟩
              · refine .inr fun L a1 w1 n h K hK => ?_
                have e0 : a1.eval (.tmp 57) = ptr gP := h.dep n 0 57 (by kernel_rfl) rfl
                refine JF.call (FNoP_mono ) h hK 58 rfl 24 _ _ #[ptr gP] rfl Try.call24 ?_ (pOn_any w1 gP gp on2 fuse2 (Row.later hPw h.inv.1) (Row.later hPl h.inv.1)) ?_
                · simp only [List.map_toArray, List.map_cons, List.map_nil, e0]
                · rintro e w3 ⟨rfl, rfl⟩
                  exact ⟨_, rfl, rfl, trivial, (Below.refl _ _)⟩
              · exact .inl ⟨by kernel_rfl, fun L a1 w1 n h => ⟨_, rfl, run_move (.tmp 4) rfl (h.var n 4 (by kernel_rfl))⟩⟩
              · refine .inl ⟨by kernel_rfl, fun L a1 w1 n h => ⟨ptr gq, rfl, ?_⟩⟩
                have e0 : a1.eval (.tmp 59) = _ := h.dep n 2 59 (by kernel_rfl) rfl
                unfold execOp
                simp only [e0]
                go_simp
              · refine .inl ⟨by kernel_rfl, fun L a1 w1 n h => ⟨.pointer (some ⟨gq, 0, none⟩), rfl, ?_⟩⟩
                have e0 : a1.eval (.tmp 60) = _ := h.dep n 3 60 (by kernel_rfl) rfl
                unfold execOp
                simp only [e0]
                go_simp
              · exact .inl ⟨by kernel_rfl, fun L a1 w1 n h => ⟨_, rfl, run_loadA 4 (.tmp 61) ⟨gq, 0, none⟩ rfl Try.isAgg4 (h.dep n 4 61 (by kernel_rfl) rfl) ((Row.later hRp h.inv.1).cell (j := 0) (v := .bool (!on2)) rfl)⟩⟩
              · exact .inl ⟨by kernel_rfl, fun L a1 w1 n h => ⟨_, rfl, run_eqlB (.tmp 58) (.tmp 62) _ _ rfl (h.dep n 1 58 (by kernel_rfl) rfl) (h.dep n 5 62 (by kernel_rfl) rfl) (eqB on2)⟩⟩
            case heE =>
              intro V w9 hV2 hJ
              have hz : V 6 = .bool false := hV2 6 63 rfl
              have b9 : Below wb.heap.size wb w9 := hJ.1
              have hPw := Row.later hPw b9
              have hPl := Row.later hPl b9
              have hRp := Row.later hRp b9
              have hBr := hBr.trans (b9.mono (Nat.le_trans hBw hBr.size))
              clear hV2 hJ b9
              simp only [putOps, List.setIfInBounds_toArray, List.set_cons_succ, List.set_cons_zero, Nat.reduceAdd]
              rw [hz]
              refine hK6 _ _ ?_
              clear hz
              go_wp2_with fail
              go_roundw
              case rel => exact ⟨i + 1, on2, fuse2, by omega, by go_num, hPw, hPl, hRp, hfu, hBr⟩
              case measure => simp [intOf]; omega
      · obtain rfl : i = m := by omega
        clear hPw hPl hRp nqp nqP npP
        have HB := hide (And.intro hBr hfu)
        clear hBr hfu
        have bp : Try.prog.built 57 [] = some [Value.pointer none].toArray := by kernel_rfl
        obtain ⟨ip, hip, hpz, hps, _⟩ := info_parts (show (Try.prog.info? 25).map (fun i => (i.zero, i.size, i.bytes)) = some (some (.pointer none), 1, 8) by kernel_rfl)
        go_wp2_with (first
          | ((with_reducible refine wl_build rfl 57 _ rfl _ ?hv _ bp ?hk); case hv => rfl)
          | (with_reducible refine wl_box rfl 57 (.tmp 64) _ [.pointer none] rfl rfl rfl ?_; intro g2 w3 r2 q2 l2 b2)
          | (with_reducible refine wl_build2P rfl 58 (.const (.pointer none)) (.tmp 65) rfl 25 ip (.pointer none) (.pointer none) (ptr g2) Try.underlying58 hip hpz hps rfl rfl rfl rfl rfl ?_; intro gs w4 rs q3 l3 b3; have r2 := Row.later r2 b3))
        have B4 := (b2.trans (b3.mono b2.size)).mono (Nat.le_trans hBw HB.out.1.size)
        have B4 := HB.out.1.trans B4
        clear q2 l2 b2 q3 l3 b3
        go_loopw [7] (fun iv wq => ∃ j : Nat, j ≤ 2 ∧ iv = .int .i64 j ∧ Row wq 57 g2 [.pointer none] ∧ Row wq 25 gs [.pointer none, ptr g2] ∧ Below B w wq) (fun iv _ => 2 - (intOf iv).toNat)
        case atStart => exact ⟨0, by omega, rfl, r2, rs, B4⟩
        case round =>
          clear r2 rs B4 HB
          obtain ⟨j, hj2, rfl, r2, rs, hB⟩ := hrel
          by_cases hj : j < 2
          · obtain ⟨u0, hu0, hv⟩ : ∃ u0, [Value.pointer none, ptr g2][j]? = some u0 ∧ PwNone wr u0 := by
              match j, hj with
              | 0, _ => exact ⟨_, rfl, .inl rfl⟩
              | 1, _ => exact ⟨_, rfl, .inr ⟨g2, rfl, r2⟩⟩
            have hvi := rs.cell hu0
            clear hu0
            go_wp2_with fail
            refine (pFuse_none _ u0 3 hv).mono ?_
            rintro e wa ⟨rfl, rfl⟩
            go_wp2_with fail
            refine (pMend_none _ u0 hv).mono ?_
            rintro e wa ⟨rfl, rfl⟩
            go_wp2_with fail
            refine (pOn_none _ u0 hv).mono ?_
            rintro e wa ⟨rfl, rfl⟩
            go_wp2_with fail
            refine (pAct_none _ u0 hv).mono ?_
            rintro e wa ⟨rfl, rfl⟩
            go_wp2_with fail
            go_roundw
            case rel => exact ⟨j + 1, by omega, by go_num, r2, rs, hB⟩
            case measure => simp [intOf]; omega
          · clear r2 rs
            go_wp2_with fail
            refine (awakeD_any _).mono ?_
            rintro e wz ⟨rfl, bz⟩
            go_wp2_with fail
            go_ret
            exact ⟨rfl, hBe ▸ hB.trans (bz.mono (Nat.le_trans hBw hB.size))⟩
end Go.Proofs.Ytfijhfolanhifaa

/-
  Numbers that came in, as they were read. Own work.
-/
namespace Go.Proofs.Ytfijhfolanhifaa
open Go.RowKit Go.Maps Go.ChangeMaps Go.ChangeShapes Go.WideShapes
theorem trod_is {H : Type} {enc : TypeId × Value → H} {w : World} {spare : Nat → Bool} {held : Bool} {fuel : Nat} {cs : List Value} {x : DataW H × List MemPlace} (h : DataW.trod enc Try.prog w 0 spare held fuel 36 cs = some x) : ∃ A n c zs, cs = [.slice A n c] ∧ IsAt w w.heap.size A n zs ∧ ∀ z ∈ zs, isI z := by
  rcases Go.Deep.open_slice1 Try.underlying36 (by kernel_rfl) h with ⟨hcs, _⟩ | ⟨a, len, cap, m, k, V, D, Pl, hcs, _, hl, hm, hmm, _, hx⟩
  · exact ⟨none, 0, 0, [], hcs, ⟨rfl, fun h => absurd h (by omega)⟩, fun z hz => by cases hz⟩
  · have hnm : len ≤ m := by rw [hmm]; split <;> omega
    have key : ∀ i, i < len → ∃ z : Int, w.cell? (a.add i) = some (.int .i64 z) ∧ isI z := by
      intro i hi
      obtain ⟨h1, h2⟩ := hx i (by omega)
      obtain ⟨z, hv, _, hw⟩ := DataW.trod_int Try.underlying3 h2
      simp at hv
      exact ⟨z, by rw [h1, hv], wf_i64 hw⟩
    obtain ⟨f, hf'⟩ := Go.Deep.choose_lt (α := Int) key
    refine ⟨some a, len, cap, (List.range len).map f, hcs, ⟨by simp, fun h0 => ?_⟩, fun z hz => ?_⟩
    · obtain ⟨b, off, spot⟩ := a
      have hc0 := (hf' 0 h0).1
      have hspot : spot = none := by simpa [Addr.add] using World.cell?_spot hc0
      subst hspot
      refine ⟨b, off, rfl, ?_, fun j hj => ?_⟩
      · have := block_lt_of_cell hc0
        simpa [Addr.add] using this
      · have := (hf' j hj).1
        rw [addr_plain] at this
        rw [this]
        simp [List.getD, hj]
    · obtain ⟨i, hi, rfl⟩ := List.mem_map.1 hz
      exact (hf' i (List.mem_range.1 hi)).2
theorem trod_isT {H : Type} {enc : TypeId × Value → H} {w : World} {spare : Nat → Bool} {held : Bool} {A : Option Addr} {n c : Nat} {d : DataW H} {p : List MemPlace} (h : DataW.Trod enc Try.prog w 0 spare held 36 (.slice A n c) d p) : ∃ zs, IsAt w w.heap.size A n zs ∧ ∀ z ∈ zs, isI z := by
  obtain ⟨fuel, hf⟩ := h
  obtain ⟨A', n', c', zs, hcs, h1, h2⟩ := trod_is hf
  simp [Value.cells] at hcs
  obtain ⟨rfl, rfl, rfl⟩ := hcs
  exact ⟨zs, h1, h2⟩
end Go.Proofs.Ytfijhfolanhifaa

/-
  The disk: one that no call made. Own work.
-/
namespace Go.Proofs.Ytfijhfolanhifaa
open Go.RowKit Go.Maps Go.ChangeMaps
set_option maxRecDepth 100000 in
theorem change_errV (w : World) (v : Value) (e : Int) (fv : Value) (he : e ≠ 0) : Calls Try.prog 91 #[v, .int .i64 e, fv] w fun en w' => en = .returned (.int .i64 e) ∧ w = w' := by
  have hd : decide (e = 0) = false := by simp [he]
  go_enter Try.func91, Try.ntmps91
  go_wp2_with fail
  go_ret
  exact ⟨rfl, rfl⟩
set_option maxRecDepth 100000 in
theorem find_no (w : World) (pa : Option Addr) (n : Nm) (h : Unmade w (.pointer pa)) :
    Calls Try.prog 93 #[.pointer pa, encStr n, .slice none 0 0] w fun e w' => e = .returned (.tuple #[zV.val, .int .i64 2]) ∧ Below w.heap.size w w' := by
  obtain ⟨i0, hi, hz, hs, hb⟩ := str_info
  go_enter Try.func93, Try.ntmps93
  go_wp2_with (first
    | ((with_reducible refine wl_alloc rfl 137 _ [.slice none 0 0, .int .i64 0] rfl zFile rfl ?_); intro g1 w1 r1 p1 l1 b1)
    | ((with_reducible refine wl_build1 rfl 43 (.tmp 12) rfl 9 i0 (.string ByteArray.empty) (encStr n) Try.underlying43 hi hz hs rfl rfl rfl ?_); intro g3 w3 r3 p3 l3 b3; have own3 : w3.ownsRow w.heap.size 9 1 (.slice (some ⟨g3, 0, none⟩) 1 1) 1 [encStr n] := row_own r3 (Nat.le_trans b1.size p3) len1)
    | (with_reducible refine wl_append_none rfl (.tmp 13) (.tmp 14) 43 rfl w.heap.size 9 i0 1 Try.underlying43 hi (.slice (some ⟨g3, 0, none⟩) 1 1) 1 [encStr n] rfl rfl own3 ?_))
  have bW : Below w.heap.size w w3 := b1.trans (b3.mono b1.size)
  have rW := Row.later r1 b3
  refine (refuse_no w3 _ _ _ _ (h.later bW)).mono ?_
  rintro e w5 ⟨rfl, rfl⟩
  go_wp2_with (first
    | ((with_reducible refine wl_build rfl 137 _ rfl _ ?hv _ builtFile0 ?hk); case hv => rfl)
    | ((with_reducible refine wl_store_row rfl 137 (.tmp 6) (.tmp 19) g1 137 _ [.slice zV.A zV.n zV.c, .int .i64 zV.kept] rfl rfl rfl rW (szFile zV) rfl (one_file zV) ?_); intro w7 r7 o7))
  refine bodyPost_ret (v := .tuple #[zV.val, .int .i64 2]) ?_ rfl ⟨rfl, bW.trans (o7.below p1)⟩
  exact results_file2 Try.results93 rfl rfl r7
set_option maxRecDepth 100000 in
theorem find_no2 (w : World) (pa : Option Addr) (n : Nm) (n2 : Nm) (A : Option Addr) (c : Nat) (h2 : NmsAt w A 1 [n2]) (hlt : ∀ b o, A = some ⟨b, o, none⟩ → b < w.heap.size) (h : Unmade w (.pointer pa)) :
    Calls Try.prog 93 #[.pointer pa, encStr n, .slice A 1 c] w fun e w' => e = .returned (.tuple #[zV.val, .int .i64 2]) ∧ Below w.heap.size w w' := by
  obtain ⟨i0, hi, hz, hs, hb⟩ := str_info
  obtain ⟨b2, o2, rfl, hc2⟩ := h2.2 (by decide)
  have hb2 := hlt b2 o2 rfl
  go_enter Try.func93, Try.ntmps93
  go_wp2_with (first
    | ((with_reducible refine wl_alloc rfl 137 _ [.slice none 0 0, .int .i64 0] rfl zFile rfl ?_); intro g1 w1 r1 p1 l1 b1)
    | ((with_reducible refine wl_build1 rfl 43 (.tmp 12) rfl 9 i0 (.string ByteArray.empty) (encStr n) Try.underlying43 hi hz hs rfl rfl rfl ?_); intro g3 w3 r3 p3 l3 b3; have hC3 := nms_src (nms_below (b1.trans (b3.mono b1.size)) hb2 hc2); have own3 : w3.ownsRow w.heap.size 9 1 (.slice (some ⟨g3, 0, none⟩) 1 1) 1 [encStr n] := row_own r3 (Nat.le_trans b1.size p3) len1)
    | ((with_reducible refine wl_append_at rfl (.tmp 13) (.tmp 14) 43 rfl w.heap.size 9 i0 (.string ByteArray.empty) 1 16 Try.underlying43 hi hz hs hb rfl (by decide) (.slice (some ⟨g3, 0, none⟩) 1 1) 1 [encStr n] rfl own3 ⟨b2, o2, none⟩ 1 c [encStr n2] rfl rfl hC3 (one_str n2) le2a le2b (Nat.le_trans b1.size b3.size) ?_); intro v4 w4 own4 hg4 hl4; obtain ⟨A4, c4, rfl, hN⟩ := own_nms (ns := [n, n2]) own4 (by decide); have b4 := grown_lo hg4 (sl_own (Nat.le_trans b1.size p3)) (Nat.le_trans b1.size b3.size)))
  have bW : Below w.heap.size w w4 := (b1.trans (b3.mono b1.size)).trans b4
  have rW : Row w4 137 g1 [.slice none 0 0, .int .i64 0] := by
    have ne13 : g1 ≠ g3 := Nat.ne_of_lt (Nat.lt_of_lt_of_le r1.lt p3)
    exact (hg4.block g1 (Row.later r1 b3).lt (fun e => ne13 (by cases e; rfl))).trans (Row.later r1 b3)
  refine (refuse_no w4 _ _ _ _ (h.later bW)).mono ?_
  rintro e w5 ⟨rfl, rfl⟩
  go_wp2_with (first
    | ((with_reducible refine wl_build rfl 137 _ rfl _ ?hv _ builtFile0 ?hk); case hv => rfl)
    | ((with_reducible refine wl_store_row rfl 137 (.tmp 6) (.tmp 19) g1 137 _ [.slice zV.A zV.n zV.c, .int .i64 zV.kept] rfl rfl rfl rW (szFile zV) rfl (one_file zV) ?_); intro w7 r7 o7))
  refine bodyPost_ret (v := .tuple #[zV.val, .int .i64 2]) ?_ rfl ⟨rfl, bW.trans (o7.below p1)⟩
  exact results_file2 Try.results93 rfl rfl r7

set_option maxRecDepth 100000 in
theorem sync_no (w : World) (pa : Option Addr) (n : Nm) (h : Unmade w (.pointer pa)) :
    Calls Try.prog 37 #[.pointer pa, encStr n] w fun e w' => e = .returned (.int .i64 2) ∧ Below w.heap.size w w' := by
  obtain ⟨i0, hi, hz, hs, hb⟩ := str_info
  have HFD := fun (w1 : World) (b : Below w.heap.size w w1) => find_no w1 pa n (h.later b)
  have HFD := hide HFD
  clear h
  go_enter Try.func37, Try.ntmps37
  go_wp2_with (first
    | ((with_reducible refine wl_box rfl 27 _ (.pointer pa) [.pointer pa] rfl rfl rfl ?_); intro gA wgA rgA pgA lgA bgA; have bX := bgA)
    | ((with_reducible refine wl_box rfl 9 _ (encStr n) [encStr n] rfl rfl rfl ?_); intro gB wgB rgB pgB lgB bgB; have bX0 := bX; have pgB := Nat.le_trans bX0.size pgB; have bX := bX.trans (bgB.mono bX.size); have rgA := Row.later rgA bgB)
    | (with_reducible refine wl_load rfl 27 _ gA 0 27 _ (.pointer pa) rfl Try.isAgg27 rfl rgA rfl ?_)
    | (with_reducible refine wl_load rfl 9 _ gB 0 9 _ (encStr n) rfl Try.isAgg9 rfl rgB rfl ?_))
  refine (HFD.out wgB bX).mono ?_
  rintro en w4 ⟨rfl, b4⟩
  have rgA := Row.later rgA b4
  have rgB := Row.later rgB b4
  have cgA := rgA.cell (j := 0) rfl
  have cgB := rgB.cell (j := 0) rfl
  have bX := bX.trans (b4.mono bX.size)
  clear HFD b4 bgA lgA bgB lgB
  go_wp2_with (first
    | ((with_reducible refine wl_alloc rfl 137 _ [.slice none 0 0, .int .i64 0] rfl zFile rfl ?_); intro gF w5 rF pF lF bF; clear cgA; have rgA := Row.later rgA bF; clear cgB; have rgB := Row.later rgB bF; have pF := Nat.le_trans bX.size pF; have bX := bX.trans (bF.mono bX.size))
    | ((with_reducible refine wl_store_row rfl 137 (.tmp 5) (.tmp 11) gF 137 _ [.slice zV.A zV.n zV.c, .int .i64 zV.kept] rfl rfl rfl rF (szFile zV) rfl (one_file zV) ?_); intro w6 r6 o6; have rgA := rgA.only o6 (rne rgA rF (by decide)); have rgB := rgB.only o6 (rne rgB rF (by decide)); have bX := bX.trans (o6.below pF); have cgA := rgA.cell (j := 0) rfl; have cgB := rgB.cell (j := 0) rfl; have cF0 := r6.cell (j := 0) rfl))
  refine (change_errV w6 _ 2 _ (by decide)).mono ?_
  rintro en w7 ⟨rfl, rfl⟩
  go_wp2_with fail
  go_ret
  exact ⟨rfl, bX⟩
set_option maxRecDepth 100000 in
theorem remove_no (w : World) (pa : Option Addr) (n : Nm) (h : Unmade w (.pointer pa)) :
    Calls Try.prog 43 #[.pointer pa, encStr n] w fun e w' => e = .returned (.int .i64 2) ∧ Below w.heap.size w w' := by
  obtain ⟨i0, hi, hz, hs, hb⟩ := str_info
  have HFD := fun (w1 : World) (b : Below w.heap.size w w1) => find_no w1 pa n (h.later b)
  have HFD := hide HFD
  clear h
  go_enter Try.func43, Try.ntmps43
  go_wp2_with (first
    | ((with_reducible refine wl_box rfl 27 _ (.pointer pa) [.pointer pa] rfl rfl rfl ?_); intro gA wgA rgA pgA lgA bgA; have bX := bgA)
    | ((with_reducible refine wl_box rfl 9 _ (encStr n) [encStr n] rfl rfl rfl ?_); intro gB wgB rgB pgB lgB bgB; have bX0 := bX; have pgB := Nat.le_trans bX0.size pgB; have bX := bX.trans (bgB.mono bX.size); have rgA := Row.later rgA bgB)
    | (with_reducible refine wl_load rfl 27 _ gA 0 27 _ (.pointer pa) rfl Try.isAgg27 rfl rgA rfl ?_)
    | (with_reducible refine wl_load rfl 9 _ gB 0 9 _ (encStr n) rfl Try.isAgg9 rfl rgB rfl ?_))
  refine (HFD.out wgB bX).mono ?_
  rintro en w4 ⟨rfl, b4⟩
  have rgA := Row.later rgA b4
  have rgB := Row.later rgB b4
  have cgA := rgA.cell (j := 0) rfl
  have cgB := rgB.cell (j := 0) rfl
  have bX := bX.trans (b4.mono bX.size)
  clear HFD b4 bgA lgA bgB lgB
  go_wp2_with (first
    | ((with_reducible refine wl_alloc rfl 137 _ [.slice none 0 0, .int .i64 0] rfl zFile rfl ?_); intro gF w5 rF pF lF bF; clear cgA; have rgA := Row.later rgA bF; clear cgB; have rgB := Row.later rgB bF; have pF := Nat.le_trans bX.size pF; have bX := bX.trans (bF.mono bX.size))
    | ((with_reducible refine wl_store_row rfl 137 (.tmp 5) (.tmp 11) gF 137 _ [.slice zV.A zV.n zV.c, .int .i64 zV.kept] rfl rfl rfl rF (szFile zV) rfl (one_file zV) ?_); intro w6 r6 o6; have rgA := rgA.only o6 (rne rgA rF (by decide)); have rgB := rgB.only o6 (rne rgB rF (by decide)); have bX := bX.trans (o6.below pF); have cgA := rgA.cell (j := 0) rfl; have cgB := rgB.cell (j := 0) rfl; have cF0 := r6.cell (j := 0) rfl))
  refine (change_errV w6 _ 2 _ (by decide)).mono ?_
  rintro en w7 ⟨rfl, rfl⟩
  go_wp2_with fail
  go_ret
  exact ⟨rfl, bX⟩
set_option maxRecDepth 100000 in
theorem rename_no (w : World) (pa : Option Addr) (n n2 : Nm) (h : Unmade w (.pointer pa)) :
    Calls Try.prog 42 #[.pointer pa, encStr n, encStr n2] w fun e w' => e = .returned (.int .i64 2) ∧ Below w.heap.size w w' := by
  obtain ⟨i0, hi, hz, hs, hb⟩ := str_info
  have HFD := fun (w1 : World) (b : Below w.heap.size w w1) (A : Option Addr) (c : Nat) (hN : NmsAt w1 A 1 [n2]) (hA : ∀ b o, A = some ⟨b, o, none⟩ → b < w1.heap.size) => find_no2 w1 pa n n2 A c hN hA (h.later b)
  have HFD := hide HFD
  clear h
  go_enter Try.func42, Try.ntmps42
  go_wp2_with (first
    | ((with_reducible refine wl_box rfl 27 _ (.pointer pa) [.pointer pa] rfl rfl rfl ?_); intro gA wgA rgA pgA lgA bgA; have bX := bgA)
    | ((with_reducible refine wl_box rfl 9 _ (encStr n) [encStr n] rfl rfl rfl ?_); intro gB wgB rgB pgB lgB bgB; have bX0 := bX; have pgB := Nat.le_trans bX0.size pgB; have bX := bX.trans (bgB.mono bX.size); have rgA := Row.later rgA bgB)
    | ((with_reducible refine wl_box rfl 9 _ (encStr n2) [encStr n2] rfl rfl rfl ?_); intro gT wgT rgT pgT lgT bgT; have bX0 := bX; have pgT := Nat.le_trans bX0.size pgT; have bX := bX.trans (bgT.mono bX.size); have rgA := Row.later rgA bgT; have rgB := Row.later rgB bgT)
    | (with_reducible refine wl_load rfl 27 _ gA 0 27 _ (.pointer pa) rfl Try.isAgg27 rfl rgA rfl ?_)
    | (with_reducible refine wl_load rfl 9 _ gB 0 9 _ (encStr n) rfl Try.isAgg9 rfl rgB rfl ?_)
    | (with_reducible refine wl_load rfl 9 _ gT 0 9 _ (encStr n2) rfl Try.isAgg9 rfl rgT rfl ?_)
    | ((with_reducible refine wl_build1 rfl 43 (.tmp 12) rfl 9 i0 (.string ByteArray.empty) (encStr n2) Try.underlying43 hi hz hs rfl rfl rfl ?_); intro g3 w3 r3 p3 l3 b3; have bX := bX.trans (b3.mono bX.size); have rgA := Row.later rgA b3; have rgB := Row.later rgB b3; have rgT := Row.later rgT b3))
  refine (HFD.out w3 bX (some ⟨g3, 0, none⟩) 1 (row_nms r3) (fun b o e => by cases e; exact l3)).mono ?_
  rintro en w4 ⟨rfl, b4⟩
  have rgA := Row.later rgA b4
  have rgB := Row.later rgB b4
  have rgT := Row.later rgT b4
  have cgA := rgA.cell (j := 0) rfl
  have cgB := rgB.cell (j := 0) rfl
  have cgT := rgT.cell (j := 0) rfl
  have bX := bX.trans (b4.mono bX.size)
  clear HFD b4 r3 l3 p3 b3 bgA lgA bgB lgB bgT lgT
  go_wp2_with (first
    | ((with_reducible refine wl_alloc rfl 137 _ [.slice none 0 0, .int .i64 0] rfl zFile rfl ?_); intro gF w5 rF pF lF bF; clear cgA; have rgA := Row.later rgA bF; clear cgB; have rgB := Row.later rgB bF; clear cgT; have rgT := Row.later rgT bF; have pF := Nat.le_trans bX.size pF; have bX := bX.trans (bF.mono bX.size))
    | ((with_reducible refine wl_store_row rfl 137 (.tmp 7) (.tmp 15) gF 137 _ [.slice zV.A zV.n zV.c, .int .i64 zV.kept] rfl rfl rfl rF (szFile zV) rfl (one_file zV) ?_); intro w6 r6 o6; have rgA := rgA.only o6 (rne rgA rF (by decide)); have rgB := rgB.only o6 (rne rgB rF (by decide)); have rgT := rgT.only o6 (rne rgT rF (by decide)); have bX := bX.trans (o6.below pF); have cgA := rgA.cell (j := 0) rfl; have cgB := rgB.cell (j := 0) rfl; have cgT := rgT.cell (j := 0) rfl; have cF0 := r6.cell (j := 0) rfl))
  refine (change_errV w6 _ 2 _ (by decide)).mono ?_
  rintro en w7 ⟨rfl, rfl⟩
  go_wp2_with fail
  go_ret
  exact ⟨rfl, bX⟩
set_option maxRecDepth 100000 in
theorem append_no (w : World) (pa : Option Addr) (n : Nm) (A : Option Addr) (m c : Nat) (h : Unmade w (.pointer pa)) :
    Calls Try.prog 36 #[.pointer pa, encStr n, .slice A m c] w fun e w' => e = .returned (.int .i64 2) ∧ Below w.heap.size w w' := by
  obtain ⟨i0, hi, hz, hs, hb⟩ := str_info
  have HFD := fun (w1 : World) (b : Below w.heap.size w w1) => find_no w1 pa n (h.later b)
  have HFD := hide HFD
  clear h
  go_enter Try.func36, Try.ntmps36
  go_wp2_with (first
    | ((with_reducible refine wl_box rfl 27 _ (.pointer pa) [.pointer pa] rfl rfl rfl ?_); intro gA wgA rgA pgA lgA bgA; have bX := bgA)
    | ((with_reducible refine wl_box rfl 9 _ (encStr n) [encStr n] rfl rfl rfl ?_); intro gB wgB rgB pgB lgB bgB; have bX0 := bX; have pgB := Nat.le_trans bX0.size pgB; have bX := bX.trans (bgB.mono bX.size); have rgA := Row.later rgA bgB)
    | ((with_reducible refine wl_box rfl 35 _ (.slice A m c) [.slice A m c] rfl rfl rfl ?_); intro gC wgC rgC pgC lgC bgC; have bX0 := bX; have pgC := Nat.le_trans bX0.size pgC; have bX := bX.trans (bgC.mono bX.size); have rgA := Row.later rgA bgC; have rgB := Row.later rgB bgC)
    | (with_reducible refine wl_load rfl 27 _ gA 0 27 _ (.pointer pa) rfl Try.isAgg27 rfl rgA rfl ?_)
    | (with_reducible refine wl_load rfl 9 _ gB 0 9 _ (encStr n) rfl Try.isAgg9 rfl rgB rfl ?_)
    | (with_reducible refine wl_load rfl 35 _ gC 0 35 _ (.slice A m c) rfl Try.isAgg35 rfl rgC rfl ?_))
  refine (HFD.out wgC bX).mono ?_
  rintro en w4 ⟨rfl, b4⟩
  have rgA := Row.later rgA b4
  have rgB := Row.later rgB b4
  have rgC := Row.later rgC b4
  have cgA := rgA.cell (j := 0) rfl
  have cgB := rgB.cell (j := 0) rfl
  have cgC := rgC.cell (j := 0) rfl
  have bX := bX.trans (b4.mono bX.size)
  clear HFD b4 bgA lgA bgB lgB bgC lgC
  go_wp2_with (first
    | ((with_reducible refine wl_alloc rfl 137 _ [.slice none 0 0, .int .i64 0] rfl zFile rfl ?_); intro gF w5 rF pF lF bF; clear cgA; have rgA := Row.later rgA bF; clear cgB; have rgB := Row.later rgB bF; clear cgC; have rgC := Row.later rgC bF; have pF := Nat.le_trans bX.size pF; have bX := bX.trans (bF.mono bX.size))
    | ((with_reducible refine wl_store_row rfl 137 (.tmp 7) (.tmp 13) gF 137 _ [.slice zV.A zV.n zV.c, .int .i64 zV.kept] rfl rfl rfl rF (szFile zV) rfl (one_file zV) ?_); intro w6 r6 o6; have rgA := rgA.only o6 (rne rgA rF (by decide)); have rgB := rgB.only o6 (rne rgB rF (by decide)); have rgC := rgC.only o6 (rne rgC rF (by decide)); have bX := bX.trans (o6.below pF); have cgA := rgA.cell (j := 0) rfl; have cgB := rgB.cell (j := 0) rfl; have cgC := rgC.cell (j := 0) rfl; have cF0 := r6.cell (j := 0) rfl))
  refine (change_errV w6 _ 2 _ (by decide)).mono ?_
  rintro en w7 ⟨rfl, rfl⟩
  go_wp2_with fail
  go_ret
  exact ⟨rfl, bX⟩

set_option maxRecDepth 100000 in
theorem create_no (w : World) (pa : Option Addr) (n : Nm) (h : Unmade w (.pointer pa)) : Calls Try.prog 35 #[.pointer pa, encStr n] w fun e w' => e = .returned (.int .i64 2) ∧ Below w.heap.size w w' := by
  obtain ⟨i0, hi, hz, hs, hb⟩ := str_info
  go_enter Try.func35, Try.ntmps35
  go_wp2_with (first
    | ((with_reducible refine wl_box rfl 27 _ (.pointer pa) [.pointer pa] rfl rfl rfl ?_); intro gA w1 rA pA lA bA)
    | ((with_reducible refine wl_box rfl 9 _ (encStr n) [encStr n] rfl rfl rfl ?_); intro gB w2 rB pB lB bB; have rA := Row.later rA bB; have bAB := bA.trans (bB.mono bA.size))
    | (with_reducible refine wl_load rfl 27 _ gA 0 27 _ (.pointer pa) rfl Try.isAgg27 rfl rA rfl ?_)
    | (with_reducible refine wl_load rfl 9 _ gB 0 9 _ (encStr n) rfl Try.isAgg9 rfl rB rfl ?_)
    | ((with_reducible refine wl_build1 rfl 43 (.tmp 7) rfl 9 i0 (.string ByteArray.empty) (encStr n) Try.underlying43 hi hz hs rfl rfl rfl ?_); intro g3 w3 r3 p3 l3 b3; have rA := Row.later rA b3; have rB := Row.later rB b3; have b03 := bAB.trans (b3.mono bAB.size)))
  refine (refuse_no w3 _ _ _ _ (h.later b03)).mono ?_
  rintro en w4 ⟨rfl, rfl⟩
  have cA := rA.cell (j := 0) rfl
  have cB := rB.cell (j := 0) rfl
  go_wp2_with fail
  refine (change_errV w3 _ 2 _ (by decide)).mono ?_
  rintro en w7 ⟨rfl, rfl⟩
  go_wp2_with fail
  go_ret
  exact ⟨rfl, b03⟩
theorem clone_nilF (w : World) : Calls Try.prog 22 #[.slice none 0 0] w fun e w' => e = .returned (.slice none 0 0) ∧ w = w' := by
  have q : ∀ (w : World) (a : Option Addr) (n c n' c' : Nat), (binOp .eql 35 (.slice a n c) (.slice none n' c')).run Try.prog w = .ok (.bool a.isNone) w := fun w a n c n' c' => Lib.run_eql_slice_nil w _ _ a n c n' c' Try.underlying35
  go_enter Try.func22, Try.ntmps22
  go_wp2
  go_ret
  exact ⟨rfl, rfl⟩
set_option maxRecDepth 100000 in
theorem read_no (w : World) (pa : Option Addr) (n : Nm) (h : Unmade w (.pointer pa)) : Calls Try.prog 39 #[.pointer pa, encStr n] w fun e w' => e = .returned (.tuple #[.slice none 0 0, .int .i64 2]) ∧ Below w.heap.size w w' := by
  go_enter Try.func39, Try.ntmps39
  go_wp2_with fail
  refine (find_no w pa n h).mono ?_
  rintro en w4 ⟨rfl, b4⟩
  go_wp2_with (first
    | ((with_reducible refine wl_alloc rfl 137 _ [.slice none 0 0, .int .i64 0] rfl zFile rfl ?_); intro gF w5 rF pF lF bF)
    | ((with_reducible refine wl_store_row rfl 137 (.tmp 6) (.tmp 12) gF 137 _ [.slice zV.A zV.n zV.c, .int .i64 zV.kept] rfl rfl rfl rF (szFile zV) rfl (one_file zV) ?_); intro w6 r6 o6; have cF0 := r6.cell (j := 0) rfl))
  have b6 : Below w.heap.size w w6 := (b4.trans (bF.mono b4.size)).trans (o6.below (Nat.le_trans b4.size pF))
  refine (clone_nilF w6).mono ?_
  rintro en w7 ⟨rfl, rfl⟩
  go_wp2_with fail
  go_ret2
  exact ⟨rfl, b6⟩
set_option maxRecDepth 100000 in
theorem edit_no (w : World) (v nv bv : Value) (h : Unmade w v) : Calls Try.prog 41 #[v, nv, bv] w fun e w' => e = .returned (.int .i64 2) ∧ w = w' := by
  go_enter Try.func41, Try.ntmps41
  go_wp2_with fail
  refine (made_no w v h).mono ?_
  rintro e w1 ⟨rfl, rfl⟩
  go_wp2_with fail
  go_ret
  exact ⟨rfl, rfl⟩
set_option maxRecDepth 100000 in
theorem load_no (w : World) (v lv : Value) (h : Unmade w v) : Calls Try.prog 33 #[v, lv] w fun e w' => e = .returned (.int .i64 2) ∧ w = w' := by
  go_enter Try.func33, Try.ntmps33
  go_wp2_with fail
  refine (made_no w v h).mono ?_
  rintro e w1 ⟨rfl, rfl⟩
  go_wp2_with fail
  go_ret
  exact ⟨rfl, rfl⟩
set_option maxRecDepth 100000 in
theorem image_no (w : World) (v : Value) (h : Unmade w v) : Calls Try.prog 27 #[v] w fun e w' => e = .returned (.slice none 0 0) ∧ w = w' := by
  go_enter Try.func27, Try.ntmps27
  go_wp2_with fail
  refine (names_no w v h).mono ?_
  rintro e w1 ⟨rfl, rfl⟩
  go_wp2_with fail
  go_loopw [3, 10] (fun sv iv wr => sv = .slice none 0 0 ∧ iv = .int .i64 0 ∧ wr = w) (fun _ _ _ => 0)
  case atStart => exact ⟨rfl, rfl, rfl⟩
  case round =>
    obtain ⟨rfl, rfl, rfl⟩ := hrel
    go_wp2_with fail
    go_ret
    exact ⟨rfl, rfl⟩
end Go.Proofs.Ytfijhfolanhifaa

/-
  The disk's laws: their acts; few. Own work.
-/
namespace Go.Proofs.Ytfijhfolanhifaa
open Go.RowKit Go.Maps Go.ChangeMaps
/-- One act. -/
structure DAct where
  k : Int
  n : Nm
  t : Nm
  A : Option Addr
  m : Nat
  c : Nat
  xs : List Int
  q : Int
  CA : Option Addr
  cm : Nat
  cc : Nat
  cs : List Int
abbrev DAct.cells (a : DAct) : List Value := [.int .u8 a.k, encStr a.n, encStr a.t, .slice a.A a.m a.c, .int .i64 a.q, .slice a.CA a.cm a.cc]
/-- Acts that came in. -/
def DActs (w : World) (B : Nat) (A : Option Addr) (n : Nat) (f : Nat → DAct) : Prop :=
  0 < n → ∃ b o, A = some ⟨b, o, none⟩ ∧ b < B ∧ ∀ j, j < n → (∀ i v, (f j).cells[i]? = some v → w.cell? ⟨b, o + j * 6 + i, none⟩ = some v) ∧ Bs w B (f j).A (f j).m (f j).xs ∧ IsAt w B (f j).CA (f j).cm (f j).cs
def DAct.few (a : DAct) : Prop := a.n.length ≤ 60 ∧ a.t.length ≤ 60 ∧ a.m ≤ 300 ∧ a.cm ≤ 80
def FewRes (m : Nat) (f : Nat → DAct) (nn : Int) (e : Ending) : Prop := ∃ b : Bool, e = .returned (.bool b) ∧ (b = true → (m : Int) ≤ nn ∧ ∀ j, j < m → (f j).few)
set_option maxRecDepth 100000 in
set_option maxHeartbeats 1000000 in
theorem few9_any (w : World) (A : Option Addr) (m c : Nat) (f : Nat → DAct) (B : Nat) (nn : Int) (h : DActs w B A m f) (hnn : nn ≤ 60) : Calls Try.prog 17 #[.slice A m c, .int .i64 nn] w fun e w' => FewRes m f nn e ∧ w = w' := by
  by_cases hlong : nn < (m : Int)
  · have hd : decide (nn < (m : Int)) = true := by simp; omega
    go_enter Try.func17, Try.ntmps17
    go_wp2_with fail
    go_ret
    exact ⟨⟨false, rfl, fun h => by cases h⟩, rfl⟩
  · have hd : decide (nn < (m : Int)) = false := by simp; omega
    have hm : m ≤ 60 := by omega
    have hm2 : (m : Int) ≤ nn := by omega
    have HM := hide hm2
    have H := hide h
    clear h hlong hm2
    go_enter Try.func17, Try.ntmps17
    go_wp2_with fail
    clear hnn
    go_loopw [5] (fun iv wr => ∃ (i : Nat), i ≤ m ∧ iv = .int .i64 i ∧ wr = w ∧ ∀ j, j < i → (f j).few) (fun iv _ => m - (intOf iv).toNat)
    case atStart => exact ⟨0, by omega, rfl, rfl, fun j hj => absurd hj (by omega)⟩
    case round =>
      obtain ⟨i, him, rfl, rfl, hs⟩ := hrel
      have HS := hide hs
      clear hs
      by_cases hi : i < m
      · obtain ⟨bb, oo, rfl, hbb, hcc⟩ := H.out (by omega)
        obtain ⟨hcell, _, _⟩ := hcc i hi
        clear hcc
        have c1 := hcell 1 _ rfl
        have c2 := hcell 2 _ rfl
        have c3 := hcell 3 _ rfl
        have c5 := hcell 5 _ rfl
        clear hcell
        generalize hq : f i = q at c1 c2 c3 c5
        have HQ := hide hq
        clear hq
        have s1 := enc_size q.n
        have s2 := enc_size q.t
        by_cases h1 : (60 : Int) < (q.n.length : Int)
        · have d1 : decide ((60 : Int) < (q.n.length : Int)) = true := by simp; omega
          go_wp2_with fail
          go_ret
          exact ⟨⟨false, rfl, fun h => by cases h⟩, rfl⟩
        · have d1 : decide ((60 : Int) < (q.n.length : Int)) = false := by simp; omega
          by_cases h2 : (60 : Int) < (q.t.length : Int)
          · have d2 : decide ((60 : Int) < (q.t.length : Int)) = true := by simp; omega
            go_wp2_with fail
            go_ret
            exact ⟨⟨false, rfl, fun h => by cases h⟩, rfl⟩
          · have d2 : decide ((60 : Int) < (q.t.length : Int)) = false := by simp; omega
            by_cases h3 : (300 : Int) < (q.m : Int)
            · have d3 : decide ((300 : Int) < (q.m : Int)) = true := by simp; omega
              go_wp2_with fail
              go_ret
              exact ⟨⟨false, rfl, fun h => by cases h⟩, rfl⟩
            · have d3 : decide ((300 : Int) < (q.m : Int)) = false := by simp; omega
              by_cases h5 : (80 : Int) < (q.cm : Int)
              · have d5 : decide ((80 : Int) < (q.cm : Int)) = true := by simp; omega
                go_wp2_with fail
                go_ret
                exact ⟨⟨false, rfl, fun h => by cases h⟩, rfl⟩
              · have d5 : decide ((80 : Int) < (q.cm : Int)) = false := by simp; omega
                go_wp2_with fail
                go_roundw
                case rel => exact ⟨i + 1, by omega, by go_num, by first | rfl | trivial, fun j hj => by
                  by_cases hji : j = i
                  · rw [hji, HQ.out]; exact ⟨by omega, by omega, by omega, by omega⟩
                  · exact HS.out j (by omega)⟩
                case measure => simp [intOf]; omega
      · obtain rfl : i = m := by omega
        go_wp2_with fail
        go_ret
        exact ⟨⟨true, rfl, fun _ => ⟨HM.out, HS.out⟩⟩, rfl⟩
end Go.Proofs.Ytfijhfolanhifaa

/-
  From the readings of the disk laws' arguments to the walks' words: an act; acts. Own work.
-/
namespace Go.Proofs.Ytfijhfolanhifaa
open Go.RowKit Go.Maps Go.ChangeMaps Go.ChangeShapes Go.WideShapes
section
variable {H : Type} {enc : TypeId × Value → H} {w : World} {spare : Nat → Bool} {held : Bool}
instance : Inhabited DAct := ⟨⟨0, [], [], none, 0, 0, [], 0, none, 0, 0, []⟩⟩
/-- A field of a struct that was read. -/
theorem field_one {n off : Nat} {t : TypeId} {fs : Array Field} {cs : List Value} {xs : List (DataW H × List MemPlace)} (hlen : xs.length = fs.size)
    (hf : ∀ (i : Nat) (f : Field), fs[i]? = some f → DataW.trod enc Try.prog w 0 spare held n f.type ((cs.drop f.offset).take (Try.prog.cellsOf f.type)) = xs[i]?)
    (i : Nat) (hi : fs[i]?.map (fun f => (f.offset, f.type)) = some (off, t)) (h1 : Try.prog.cellsOf t = 1) (ho : off < cs.length) : ∃ v x, cs[off]? = some v ∧ DataW.trod enc Try.prog w 0 spare held n t [v] = some x := by
  obtain ⟨f, hfi, hft⟩ := Option.map_eq_some_iff.1 hi
  injection hft with h2 h3
  have hlt : i < xs.length := by rw [hlen]; exact (Array.getElem?_eq_some_iff.1 hfi).1
  have h := hf i f hfi
  rw [h2, h3, h1, List.getElem?_eq_getElem hlt] at h
  have e : (cs.drop off).take 1 = [cs[off]] := by
    rw [List.drop_eq_getElem_cons ho]; rfl
  rw [e] at h
  exact ⟨_, _, List.getElem?_eq_getElem ho, h⟩
set_option maxRecDepth 100000 in
/-- An act, as it was read. -/
theorem open_dact {fuel : Nat} {cs : List Value} {x : DataW H × List MemPlace} (h : DataW.trod enc Try.prog w 0 spare held fuel 38 cs = some x) : ∃ q : DAct, cs = q.cells ∧ Bs w w.heap.size q.A q.m q.xs ∧ IsAt w w.heap.size q.CA q.cm q.cs ∧ (0 ≤ q.k ∧ q.k < 256) ∧ isI q.q := by
  obtain ⟨xs, n, _, rfl, hl, hlen, hf⟩ := DataW.trod_struct (fs := Try.prog.fieldsOf 38) Try.underlying38 h
  rw [show Try.prog.cellsOf 38 = 6 by kernel_rfl] at hl
  obtain ⟨v0, x0, g0, h0⟩ := field_one hlen hf 0 (show (Try.prog.fieldsOf 38)[0]?.map (fun f => (f.offset, f.type)) = some (0, 5) by kernel_rfl) (by kernel_rfl) (by omega)
  obtain ⟨v1, x1, g1, h1⟩ := field_one hlen hf 1 (show (Try.prog.fieldsOf 38)[1]?.map (fun f => (f.offset, f.type)) = some (1, 9) by kernel_rfl) (by kernel_rfl) (by omega)
  obtain ⟨v2, x2, g2, h2⟩ := field_one hlen hf 2 (show (Try.prog.fieldsOf 38)[2]?.map (fun f => (f.offset, f.type)) = some (2, 9) by kernel_rfl) (by kernel_rfl) (by omega)
  obtain ⟨v3, x3, g3, h3⟩ := field_one hlen hf 3 (show (Try.prog.fieldsOf 38)[3]?.map (fun f => (f.offset, f.type)) = some (3, 35) by kernel_rfl) (by kernel_rfl) (by omega)
  obtain ⟨v4, x4, g4, h4⟩ := field_one hlen hf 4 (show (Try.prog.fieldsOf 38)[4]?.map (fun f => (f.offset, f.type)) = some (4, 3) by kernel_rfl) (by kernel_rfl) (by omega)
  obtain ⟨v5, x5, g5, h5⟩ := field_one hlen hf 5 (show (Try.prog.fieldsOf 38)[5]?.map (fun f => (f.offset, f.type)) = some (5, 36) by kernel_rfl) (by kernel_rfl) (by omega)
  obtain ⟨k, e0, _, hk⟩ := DataW.trod_int Try.underlying5 h0
  obtain ⟨s1, e1, _, _⟩ := DataW.trod_string Try.underlying9 h1
  obtain ⟨s2, e2, _, _⟩ := DataW.trod_string Try.underlying9 h2
  obtain ⟨A, m, c, ys, e3, hb, _⟩ := trod_bs Try.underlying35 Try.underlying5 (by kernel_rfl) h3
  obtain ⟨z, e4, _, hz⟩ := DataW.trod_int Try.underlying3 h4
  obtain ⟨CA, cm, cc, zs, e5, hi, _⟩ := trod_is h5
  refine ⟨⟨k, s1.data.toList, s2.data.toList, A, m, c, ys, z, CA, cm, cc, zs⟩, ?_, hb, hi, ?_, wf_i64 hz⟩
  · simp only [List.cons.injEq, and_true] at e0 e1 e2 e3 e4 e5
    subst e0 e1 e2 e3 e4 e5
    match cs, hl with
    | [u0, u1, u2, u3, u4, u5], _ =>
      simp at g0 g1 g2 g3 g4 g5
      rw [g0, g1, g2, g3, g4, g5]
  · show 0 ≤ k ∧ k < 256
    have := bounds_u8 hk
    omega
set_option maxRecDepth 100000 in
/-- Acts that came in. -/
theorem trod_dacts {A : Option Addr} {n c : Nat} {d : DataW H} {p : List MemPlace} (h : DataW.Trod enc Try.prog w 0 spare held 22 (.slice A n c) d p) :
    ∃ f : Nat → DAct, DActs w w.heap.size A n f ∧ ∀ j, j < n → (0 ≤ (f j).k ∧ (f j).k < 256) ∧ isI (f j).q := by
  obtain ⟨fuel, hf⟩ := h
  rcases Go.Deep.open_slice Try.underlying22 hf with ⟨hcs, _⟩ | ⟨a, len, cap, m, k, D, Pl, hcs, _, hl, hm, hmm, _, hx⟩
  · simp [Value.cells] at hcs
    obtain ⟨rfl, rfl, rfl⟩ := hcs
    exact ⟨fun _ => default, fun h => absurd h (by omega), fun j hj => absurd hj (by omega)⟩
  · simp [Value.cells] at hcs
    obtain ⟨rfl, rfl, rfl⟩ := hcs
    have hnm : n ≤ m := by rw [hmm]; split <;> omega
    have key : ∀ i, i < n → ∃ q : DAct, (∀ j v, q.cells[j]? = some v → w.cell? ((a.add (i * 6)).add j) = some v) ∧ Bs w w.heap.size q.A q.m q.xs ∧ IsAt w w.heap.size q.CA q.cm q.cs ∧ (0 ≤ q.k ∧ q.k < 256) ∧ isI q.q := by
      intro i hi
      obtain ⟨cs', h1, h2⟩ := hx i (by omega)
      rw [show Try.prog.cellsOf 38 = 6 by kernel_rfl] at h1
      obtain ⟨_, hlen, hat⟩ := World.cells?_some h1
      obtain ⟨q, rfl, hb, hc, hk, hz⟩ := open_dact h2
      refine ⟨q, fun j v hj => ?_, hb, hc, hk, hz⟩
      have hj6 := (List.getElem?_eq_some_iff.1 hj).1
      have := hat j hj6
      rw [this]
      exact hj
    obtain ⟨q, hq⟩ := Go.Deep.choose_lt (α := DAct) key
    refine ⟨q, fun h0 => ?_, fun j hj => (hq j hj).2.2.2⟩
    obtain ⟨b, off, spot⟩ := a
    have hc0 := (hq 0 h0).1 0 _ rfl
    have hspot : spot = none := by simpa [Addr.add] using World.cell?_spot hc0
    subst hspot
    refine ⟨b, off, rfl, ?_, fun j hj => ?_⟩
    · have := block_lt_of_cell hc0
      simpa [Addr.add] using this
    · obtain ⟨h1, hb, hc, _⟩ := hq j hj
      refine ⟨fun i v hv => ?_, hb, hc⟩
      have := h1 i v hv
      rw [addr_plain, addr_plain] at this
      exact this
end
end Go.Proofs.Ytfijhfolanhifaa

/-
  The law DiskKept: contract. Own work.
-/
namespace Go.Proofs.Ytfijhfolanhifaa
open Go.RowKit Go.Maps Go.ChangeMaps
theorem row_free {w : World} {B gd mb t g : Nat} {pl : Value} {fs : Fs} {vs : List Value} (hd : DiskAt w B gd pl mb fs) (h : Row w t g vs) (h1 : t ≠ 72) (h2 : t ≠ 5) : g ∉ dblocks gd mb fs := by
  intro hk
  rcases mem_dblocks.1 hk with e | e | ⟨p, hp, hk⟩
  · exact rne h hd.row h1 e
  · exact hd.map.ne_row h e.symm
  · exact owf_not_row (hd.files.own p hp) h h2 hk
/-- A power's row stays behind an act of a disk. -/
theorem pwr_keeps {w w' : World} {B gd mb gp gP : Nat} {pl' : Value} {on : Bool} {fuse : Int} {fs : Fs} (h : Pwr w gP gp) (hP : PlAt w (ptr gp) on fuse) (hd : DiskAt w B gd pl' mb fs) (hb : Buts (plB (ptr gp) ++ dblocks gd mb fs) w w') : Pwr w' gP gp := by
  refine Row.buts h hb (fun hk => ?_)
  rcases List.mem_append.1 hk with hk | hk
  · simp [plB] at hk
    exact rne h hP.plg (by decide) hk
  · exact row_free hd h (by decide) (by decide) hk
theorem ActedP.off {w w' : World} {B gd mb gp : Nat} {fs : Fs} {P : Fs → Prop} (h : ActedP w w' B gd (ptr gp) mb 0 true 0 fs P) : DiskAt w' B gd (ptr gp) mb fs ∧ PlAt w' (ptr gp) false 0 ∧ Buts (plB (ptr gp) ++ dblocks gd mb fs) w w' := by
  obtain ⟨fs', h1, h2, h3, h4, _⟩ := h
  rw [if_neg (by decide)] at h1
  subst h1
  exact ⟨h2, h3, h4⟩
theorem wl_build0 {P : Program} {ops : Array Oper} {rest : List Oper} {o : Oper} {a : Act} {w : World} {Q : Exit → Act → World → Prop} (hgd : o.guard = none) (t : TypeId) (ho : o.op = .buildSlice t 0 #[]) (e : TypeId) (i : TypeInfo) (ht : P.underlying t = some (.slice e)) (hi : P.info? e = some i) (hsz : i.size = 1)
    (hk : ∀ v w', w'.ownsRow w.heap.size e 1 v 0 (bv []) → Below w.heap.size w w' → wpList P ops Q rest (a.put o.dst v) w') : wpList P ops Q (o :: rest) a w :=
  wpList_plain hgd fun K hK => st_build0 t ho e i ht hi hsz fun v w' h1 h2 => hK _ _ (hk v w' h1 h2)
theorem equal_bothD (A B : Option Addr) (n m c d : Nat) (xs : List Int) (w : World) (h1 : Bs w w.heap.size A n xs) (h2 : Bs w w.heap.size B m xs) : Calls Try.prog 40 #[.slice A n c, .slice B m d] w fun e w' => e = .returned (.bool true) ∧ w = w' :=
  (equal_any A B n m c d xs xs w h1 h2).mono fun e w' h => ⟨by rw [h.1, equal_self], h.2⟩
theorem own_bsD {w : World} {base e n c : Nat} {A : Option Addr} {xs : List Int} (h : w.ownsRow base e 1 (.slice A n c) n (bv xs)) : Bs w w.heap.size A n xs := by
  obtain ⟨A', c', hv, hb, _⟩ := ownsRow_bs h
  injection hv with h1 _ _
  rw [h1]
  exact hb
theorem tornR_zero : tornR 0 0 = 0 := by decide
theorem IsAt.nil {w : World} {B : Nat} : IsAt w B none 0 [] := ⟨rfl, fun h => absurd h (by decide)⟩
theorem crash1 (n : Nm) (f : FV) (cs : List Int) : crashF [(n, f)] cs = [(n, tornV f (cs.getD 0 0))] := rfl
theorem ownr_later {w w' : World} {T e m : Nat} {v : Value} {xs : List Value} (h : w.ownsRow T e 1 v m xs) (hb : Below w.heap.size w w') : w'.ownsRow T e 1 v m xs :=
  ownr_buts h (Buts.of hb []) (fun k hk => by cases hk)
theorem own_cap {w : World} {T e m n c : Nat} {A : Option Addr} {xs : List Value} (h : w.ownsRow T e 1 (.slice A n c) m xs) : m ≤ c := by
  rcases h.2 with ⟨e1, h0⟩ | ⟨g, cap, cur, e1, _, _, hc, _⟩
  · omega
  · injection e1 with _ _ e3
    omega
set_option maxRecDepth 100000 in
set_option maxHeartbeats 4000000 in
theorem diskKept_any (A : Option Addr) (m c : Nat) (xs : List Int) (A' : Option Addr) (m' c' : Nat) (ys : List Int) (cut : Int) (w : World) (hx : Bs w w.heap.size A m xs) (hy : Bs w w.heap.size A' m' ys) :
    Calls Try.prog 6 #[.slice A m c, .slice A' m' c', .int .i64 cut] w fun e w' => e = .returned (.bool true) ∧ Below w.heap.size w w' := by
  by_cases h1 : (2000 : Int) < (m : Int)
  · have hd : decide ((2000 : Int) < (m : Int)) = true := by simp; omega
    go_enter Try.func6, Try.ntmps6
    go_wp2_with fail
    refine (awakeD_any w).mono ?_
    rintro e w2 ⟨rfl, b2⟩
    go_wp2_with fail
    go_ret
    exact ⟨rfl, b2⟩
  have d1 : decide ((2000 : Int) < (m : Int)) = false := by simp; omega
  by_cases h2 : (2000 : Int) < (m' : Int)
  · have hd : decide ((2000 : Int) < (m' : Int)) = true := by simp; omega
    go_enter Try.func6, Try.ntmps6
    go_wp2_with fail
    refine (awakeD_any w).mono ?_
    rintro e w2 ⟨rfl, b2⟩
    go_wp2_with fail
    go_ret
    exact ⟨rfl, b2⟩
  have d2 : decide ((2000 : Int) < (m' : Int)) = false := by simp; omega
  have hm : m ≤ 2000 := by omega
  have hm' : m' ≤ 2000 := by omega
  have kc := fun (w : World) (C : Array Value) (n c : Nat) => Lib.run_convert_bytes_const (P := Try.prog) w 35 5 C n c Try.underlying35 Try.underlying5
  obtain ⟨B, hBe⟩ : ∃ B, B = w.heap.size := ⟨_, rfl⟩
  have hBw : B ≤ w.heap.size := Nat.le_of_eq hBe
  have hxl := hide hx.1
  have hyl := hide hy.1
  have HX := hide (show Bs w B A m xs from hBe ▸ hx)
  have HY := hide (show Bs w B A' m' ys from hBe ▸ hy)
  clear h1 h2 hx hy
  go_enter Try.func6, Try.ntmps6
  go_wp2_with fail
  refine (plug_any w).mono ?_
  rintro en w1 ⟨gP, gp, rfl, hPw, hPl, hgP, hgp, hne, b1⟩
  go_wp2_with fail
  refine (new_any w1 gP (some ⟨gp, 0, none⟩) hPw).mono ?_
  rintro en w2 ⟨gd, mb, rfl, hD, b2⟩
  rw [← hBe] at hgP hgp b1
  have hD : DiskAt w2 B gd (ptr gp) mb [] := hD.mono (Nat.le_trans hBw b1.size)
  have hP : PlAt w2 (ptr gp) true (-1) := .inl ⟨gp, rfl, Row.later hPl b2⟩
  have hPw := Row.later hPw b2
  have B2 : Below B w w2 := b1.trans (b2.mono (Nat.le_trans hBw b1.size))
  clear hPl hne b1 b2
  go_wp2_with fail
  refine (create_any w2 B gd mb (ptr gp) true (-1) [] [102] hD hP isI_m1).mono ?_
  rintro en w3 ⟨rfl, hA⟩
  obtain ⟨hD3, hP3, bU⟩ := Acted.ok hA
  have hPw := pwr_keeps hPw hP hD bU
  have B3 : Below B w w3 := B2.trans (frame_below bU hD hgp (Nat.le_trans hBw B2.size))
  have hD3 : DiskAt w3 B gd (ptr gp) mb [([102], zV)] := hD3
  have hB3 := Nat.le_trans hBw B3.size
  clear hA bU hD hP B2
  go_wp2_with fail
  refine (append_any w3 B gd mb (ptr gp) true (-1) [([102], zV)] [102] A m c xs hB3 ((HX.out.below B3).up hB3) (by omega) hD3 hP3 isI_m1).mono ?_
  rintro en w4 ⟨rfl, hA⟩
  have hv0 : appE (findR [([102], zV)] [102] [] true).2 (findR [([102], zV)] [102] [] true).1.n m = 0 := by
    show appE 0 0 m = 0
    unfold appE
    rw [if_pos rfl, if_neg (by omega)]
  rw [hv0] at hA ⊢
  obtain ⟨fs4, ⟨f4, rfl, q1, q2, q3⟩, hD4, hP4, bU⟩ := ActedP.ok hA
  have hPw := pwr_keeps hPw hP3 hD3 bU
  have B4 : Below B w w4 := B3.trans (frame_below bU hD3 hgp hB3)
  have hD4 : DiskAt w4 B gd (ptr gp) mb [([102], f4)] := hD4
  have hB4 := Nat.le_trans hBw B4.size
  have e1 : f4.n = m := by rw [q1]; show 0 + m = m; omega
  have e2 : f4.xs = xs := q2
  clear hv0 hA bU hD3 hP3 B3 hB3 q1 q2 q3
  go_wp2_with fail
  refine (sync_any w4 B gd mb (ptr gp) true (-1) [([102], f4)] [102] hD4 hP4 isI_m1).mono ?_
  rintro en w5 ⟨rfl, hA⟩
  obtain ⟨hD5, hP5, bU⟩ := Acted.ok hA
  have hPw := pwr_keeps hPw hP4 hD4 bU
  have B5 : Below B w w5 := B4.trans (frame_below bU hD4 hgp hB4)
  have hD5 : DiskAt w5 B gd (ptr gp) mb [([102], { f4 with kept := (f4.n : Int) })] := hD5
  have hB5 := Nat.le_trans hBw B5.size
  obtain ⟨f5, hf5⟩ : ∃ f5 : FV, f5 = { f4 with kept := (f4.n : Int) } := ⟨_, rfl⟩
  have t1 : f5.n = m := by rw [hf5]; exact e1
  have t2 : f5.xs = xs := by rw [hf5]; exact e2
  have t3 : f5.kept = (m : Int) := by rw [hf5]; show (f4.n : Int) = m; rw [e1]
  rw [← hf5] at hD5
  clear hA bU hD4 hP4 B4 hB4 hf5 e1 e2
  go_wp2_with fail
  refine (append_any w5 B gd mb (ptr gp) true (-1) [([102], f5)] [102] A' m' c' ys hB5 ((HY.out.below B5).up hB5) (by omega) hD5 hP5 isI_m1).mono ?_
  rintro en w6 ⟨rfl, hA⟩
  have hv0 : appE (findR [([102], f5)] [102] [] true).2 (findR [([102], f5)] [102] [] true).1.n m' = 0 := by
    show appE 0 f5.n m' = 0
    unfold appE
    rw [if_pos rfl, if_neg (by omega)]
  rw [hv0] at hA ⊢
  obtain ⟨fs6, ⟨f6, rfl, q1, q2, q3⟩, hD6, hP6, bU⟩ := ActedP.ok hA
  have hPw := pwr_keeps hPw hP5 hD5 bU
  have B6 : Below B w w6 := B5.trans (frame_below bU hD5 hgp hB5)
  have hD6 : DiskAt w6 B gd (ptr gp) mb [([102], f6)] := hD6
  have hB6 := Nat.le_trans hBw B6.size
  have e1 : f6.n = m + m' := by rw [q1]; show f5.n + m' = _; rw [t1]
  have e2 : f6.xs = xs ++ ys := by rw [q2]; show f5.xs ++ ys = _; rw [t2]
  have e3 : f6.kept = (m : Int) := q3.trans t3
  clear hv0 hA bU hD5 hP5 B5 hB5 q1 q2 q3 t1 t2 t3
  go_wp2_with fail
  refine (pFuse_any w6 gP gp true (-1) 0 hPw hP6.plg).mono ?_
  rintro en w7 ⟨rfl, hPl7, o7⟩
  have hD7 := hD6.buts (Buts.only (S := [gp]) o7 (List.mem_singleton.2 rfl)) (fun k hk hk2 => pl_not hP6 hD6 k hk (by simpa [plB] using hk2))
  have B7 : Below B w w7 := B6.trans (o7.below hgp)
  have hB7 := Nat.le_trans hBw B7.size
  have hP7 : PlAt w7 (ptr gp) true 0 := .inl ⟨gp, rfl, hPl7⟩
  clear hD6 hP6 B6 hB6 hPw hPl7 o7
  go_wp2_with fail
  have hl := Bs.lit' w7 5 (4, 5) [108, 111, 115, 116] #[.int .u8 108, .int .u8 111, .int .u8 115, .int .u8 116] 4 _ rfl rfl rfl
  have bl : Below w7.heap.size w7 (w7.alloc (.cells #[.int .u8 108, .int .u8 111, .int .u8 115, .int .u8 116] 5 (4, 5))) := (Below.refl _ _).alloc (Nat.le_refl _) _
  refine (append_any _ B gd mb (ptr gp) true 0 [([102], f6)] [102] _ 4 4 [108, 111, 115, 116] (Nat.le_trans hB7 bl.size) hl (by decide) (hD7.later bl) (hP7.later bl) ⟨by decide, by decide⟩).mono ?_
  rintro en w8 ⟨rfl, hA⟩
  have hv0 : appE (findR [([102], f6)] [102] [] true).2 (findR [([102], f6)] [102] [] true).1.n 4 = 0 := by
    show appE 0 f6.n 4 = 0
    unfold appE
    rw [if_pos rfl, if_neg (by omega)]
  rw [hv0] at hA ⊢
  obtain ⟨hD8, hP8, bU⟩ := ActedP.off hA
  have B7a : Below B w _ := B7.trans (bl.mono hB7)
  have B8 : Below B w w8 := B7a.trans (frame_below bU (hD7.later bl) hgp (Nat.le_trans hB7 bl.size))
  have hB8 := Nat.le_trans hBw B8.size
  have hv : dE 0 true 0 = 8 := rfl
  rw [hv]
  clear hv hv0 hA bU hD7 hP7 B7 hB7 hl bl B7a
  go_wp2_with fail
  have rI : Row (w8.alloc (.cells #[.int .i64 cut] 3)) 3 w8.heap.size [.int .i64 cut] := by unfold Row; exact heap_alloc_new _ _
  have bl : Below w8.heap.size w8 (w8.alloc (.cells #[.int .i64 cut] 3)) := (Below.refl _ _).alloc (Nat.le_refl _) _
  have hI : IsAt (w8.alloc (.cells #[.int .i64 cut] 3)) (w8.alloc (.cells #[.int .i64 cut] 3)).heap.size (some ⟨w8.heap.size, 0, none⟩) 1 [cut] := ⟨rfl, fun _ => ⟨_, 0, rfl, rI.lt, fun j hj => by
    obtain rfl : j = 0 := by omega
    exact rI.cell (j := 0) rfl⟩⟩
  refine (crash_any _ B gd mb gp false 0 [([102], f6)] _ 1 1 [cut] hI (fun b o e hk => by
    cases e
    have := (hD8.blo _ hk).2
    omega) (hD8.later bl) (hP8.later bl).plg).mono ?_
  rintro en w9 ⟨rfl, hD9, hP9, bU⟩
  have B9 : Below B w w9 := (B8.trans (bl.mono hB8)).trans (bU.below (fun k hk => by
    rcases List.mem_cons.1 hk with e | hk
    · omega
    · exact ((hD8.later bl).blo k hk).1) (Nat.le_trans hB8 bl.size))
  have hB9 := Nat.le_trans hBw B9.size
  rw [crash1, show ([cut] : List Int).getD 0 0 = cut from rfl] at hD9
  obtain ⟨R, hR⟩ : ∃ R, R = tornR cut m' := ⟨_, rfl⟩
  obtain ⟨hrr, hRle⟩ := tornR_eq cut m'
  rw [← hR] at hrr hRle
  have hN : tornN f6 cut = m + R := by
    unfold tornN
    rw [e1, e3, show ((m : Int)).toNat = m by omega, show m + m' - m = m' by omega, hR]
  obtain ⟨f9, hf9⟩ : ∃ f9 : FV, f9 = tornV f6 cut := ⟨_, rfl⟩
  have t1 : f9.n = m + R := by rw [hf9]; exact hN
  have t2 : f9.xs = (xs ++ ys).take (m + R) := by rw [hf9]; show f6.xs.take (tornN f6 cut) = _; rw [hN, e2]
  have t3 : f9.kept = ((m + R : Nat) : Int) := by rw [hf9]; show ((tornN f6 cut : Nat) : Int) = _; rw [hN]
  rw [← hf9] at hD9
  have hP9' : PlAt w9 (ptr gp) true (-1) := .inl ⟨gp, rfl, hP9⟩
  have HRd := read_any w9 B gd mb (ptr gp) true (-1) [([102], f9)] [102] hD9 hP9'
  rw [show findR [([102], f9)] [102] [] true = (f9, 0) from rfl] at HRd
  simp only [t1, t2] at HRd
  have HRd := hide HRd
  clear hI rI bl hD8 hP8 B8 hB8 bU hf9 hN e1 e2 e3 hR kc
  go_wp2_with fail
  refine HRd.out.mono ?_
  rintro en w10 ⟨A10, c10, rfl, own10, b10⟩
  have HLo := hide (show ∀ k ∈ gp :: dblocks gd mb [([102], f9)], k < w9.heap.size from fun k hk => by
    rcases List.mem_cons.1 hk with e | hk
    · rw [e]; exact hP9.lt
    · exact (hD9.blo k hk).2)
  have hs10 := own10
  have hs9 := b10.size
  have hD10 := hD9.later b10
  have hP10 : Plg w10 gp true (-1) := Row.later hP9 b10
  have B10 : Below B w w10 := B9.trans (b10.mono hB9)
  have hB10 := Nat.le_trans hBw B10.size
  clear HRd own10 b10 hD9 hP9 hP9' B9 hB9
  obtain ⟨i0, hi, hz, hsz, hby⟩ := byte_info
  have HD10 := hide (And.intro hD10 hP10)
  have HS10 := hide hs10
  have hl1 := hide (show 0 + m ≤ 140737488355328 by omega)
  have hl2 := hide (show 0 + m + m' ≤ 140737488355328 by omega)
  clear hD10 hP10 hs10
  have hA7 : IntKind.i64.wrap ((m' : Int) + 1) = (m' : Int) + 1 := w64i _ ⟨by omega, by omega⟩
  have hA8 : IntKind.u64.wrap ((m' : Int) + 1) = (m' : Int) + 1 := w64u _ ⟨by omega, by omega⟩
  have hA9 : ¬ (m' : Int) + 1 = 0 := by omega
  have hA10 : IntKind.i64.wrap (R : Int) = (R : Int) := w64i _ ⟨by omega, by omega⟩
  have hA11 : IntKind.i64.wrap ((m : Int) + (R : Int)) = (m : Int) + (R : Int) := w64i _ ⟨by omega, by omega⟩
  go_wp2_with (first
    | ((with_reducible refine wl_build0 rfl 35 rfl 5 i0 Try.underlying35 hi hsz ?_); intro v0 w11 own0 b11; have hx11 := (HX.out.below (B10.trans (b11.mono hB10))).up (Nat.le_trans hB10 b11.size))
    | (at_builtin; refine wpList_append_bs rfl (.tmp 53) (.tmp 54) 35 rfl w10.heap.size 5 i0 Try.underlying35 hi hz hsz hby v0 0 [] rfl own0 w11.heap.size A m c xs rfl hx11 hl1.out b11.size ?_; intro v1 w12 own1 hg1; have b12 := grown_below b11 own0 (Nat.le_refl _) hg1; have hy12 := (HY.out.below (B10.trans (b12.mono hB10))).up (Nat.le_trans hB10 b12.size))
    | (at_builtin; refine wpList_append_bs rfl (.tmp 55) (.tmp 56) 35 rfl w10.heap.size 5 i0 Try.underlying35 hi hz hsz hby v1 (0 + m) _ rfl own1 w12.heap.size A' m' c' ys rfl hy12 hl2.out b12.size ?_; intro v2 w13 own2 hg2; have b13 := grown_below b12 own1 (Nat.le_refl _) hg2))
  obtain ⟨A12, c12, rfl⟩ := own_sl own2
  have B13 := hBe ▸ B10.trans (b13.mono hB10)
  have hB13 := Nat.le_trans hB10 b13.size
  have hD13 := HD10.out.1.later b13
  have hP13 : Plg w13 gp true (-1) := Row.later HD10.out.2 b13
  refine (crash_any w13 B gd mb gp true (-1) [([102], f9)] none 0 0 [] IsAt.nil (fun b o e => by cases e) hD13 hP13).mono ?_
  rintro en w14 ⟨rfl, hD14, hP14, bU⟩
  have own10 := ownr_buts (ownr_later HS10.out b13) bU (fun k hk => HLo.out k hk)
  have own12 := ownr_buts own2 bU (fun k hk => Nat.lt_of_lt_of_le (HLo.out k hk) hs9)
  have B14 : Below B w w14 := (B10.trans (b13.mono hB10)).trans (bU.below (fun k hk => by
    rcases List.mem_cons.1 hk with e | hk
    · omega
    · exact (hD13.blo k hk).1) hB13)
  have hB14 := Nat.le_trans hBw B14.size
  rw [crash1, show (([] : List Int).getD 0 0) = 0 from rfl] at hD14
  have hN : tornN f9 0 = m + R := by
    unfold tornN
    rw [t1, t3, show (((m + R : Nat) : Int)).toNat = m + R by omega, Nat.sub_self, tornR_zero]
    rfl
  obtain ⟨f14, hf14⟩ : ∃ f14 : FV, f14 = tornV f9 0 := ⟨_, rfl⟩
  have u1 : f14.n = m + R := by rw [hf14]; exact hN
  have u2 : f14.xs = (xs ++ ys).take (m + R) := by
    rw [hf14]
    show f9.xs.take (tornN f9 0) = _
    rw [hN, t2, List.take_take, Nat.min_self]
  rw [← hf14] at hD14
  have hP14' : PlAt w14 (ptr gp) true (-1) := .inl ⟨gp, rfl, hP14⟩
  have HRd := read_any w14 B gd mb (ptr gp) true (-1) [([102], f14)] [102] hD14 hP14'
  rw [show findR [([102], f14)] [102] [] true = (f14, 0) from rfl] at HRd
  simp only [u1, u2] at HRd
  have HRd := hide HRd
  have HO := hide (And.intro own10 own12)
  clear own2 own10 own12 bU hD14 hP14 hP14' hf14 hN t1 t2 t3 u1 u2 hD13 hP13 b13
  go_wp2_with fail
  refine HRd.out.mono ?_
  rintro en w15 ⟨A15, c15, rfl, own15, b15⟩
  have hs15 := own_bsD own15
  have hs10 := own_bsD (ownr_later HO.out.1 b15)
  have hs12 := own_bsD (ownr_later HO.out.2 b15)
  have B15 : Below B w w15 := B14.trans (b15.mono hB14)
  have hB15 := Nat.le_trans hBw B15.size
  have hc12 : m + R ≤ c12 := by
    have := own_cap HO.out.2
    omega
  have hnil : ([] ++ xs ++ ys) = xs ++ ys := by simp
  rw [hnil] at hs12
  have hs12 := hs12.take (k := m + R) (by omega)
  have HS := hide (And.intro hs15 (And.intro hs10 hs12))
  clear HRd own15 b15 hs15 hs10 hs12 HO B14 hB14
  have hS := fun w => run_sliceTo (P := Try.prog) w 35 5 1 Try.underlying35 Try.sizeOf5 A12 (0 + m + m') c12 .i64 ((m : Int) + (R : Int)) (m + R) (by omega) hc12
  go_wp2_with fail
  refine (equal_bothD A10 A12 (m + R) (m + R) c10 c12 _ w15 HS.out.2.1 HS.out.2.2).mono ?_
  rintro en w16 ⟨rfl, rfl⟩
  go_wp2_with fail
  refine (equal_bothD A15 A10 (m + R) (m + R) c15 c10 _ w15 HS.out.1 HS.out.2.1).mono ?_
  rintro en w16 ⟨rfl, rfl⟩
  go_wp2_with fail
  refine (awakeD_any w15).mono ?_
  rintro en w16 ⟨rfl, b16⟩
  go_wp2_with fail
  go_ret
  exact ⟨rfl, hBe ▸ (B15.trans (b16.mono hB15))⟩
end Go.Proofs.Ytfijhfolanhifaa

/-
  The disk: Edit. Own work.
-/
namespace Go.Proofs.Ytfijhfolanhifaa
open Go.RowKit Go.Maps Go.ChangeMaps
/-- What Edit tells. -/
def edE (fs : Fs) (n : Nm) (m : Nat) : Int := if okN n && decide (m ≤ 1048576) then (if (!(atF fs n).isSome && decide (64 ≤ fs.length)) then 10 else 0) else 1
def JEd (w0 : World) (m : Nat) (xs : List Int) (N : World → Prop) (bs : List Bool) (vs : List Value) (w : World) : Prop :=
  (bs.getD 2 false = false → Below w0.heap.size w0 w) ∧ (bs.getD 0 false = true → bs.getD 2 false = false → ∃ A c, vs.getD 0 undef = .slice A m c ∧ w.ownsRow w0.heap.size 5 1 (.slice A m c) m (bv xs)) ∧
    (bs.getD 1 false = true → ∃ A c, vs.getD 0 undef = .slice A m c ∧ vs.getD 1 undef = .agg #[.slice A m c, .int .i64 (m : Int)]) ∧ (bs.getD 2 false = true → N w)
theorem JEd.start (w0 : World) (m : Nat) (xs : List Int) (N : World → Prop) (vs : List Value) : JEd w0 m xs N [false, false, false] vs w0.drew :=
  ⟨fun _ => (Below.refl _ _).drew, fun h => absurd (show false = true from h) (by decide), fun h => absurd (show false = true from h) (by decide), fun h => absurd (show false = true from h) (by decide)⟩
theorem own_lo {w : World} {T T' e m : Nat} {v : Value} {xs : List Value} (h : w.ownsRow T e 1 v m xs) (hT : T' ≤ T) : w.ownsRow T' e 1 v m xs :=
  ⟨h.1, h.2.imp id fun ⟨g, cap, cur, e1, h1, hg, h2⟩ => ⟨g, cap, cur, e1, Nat.le_trans hT h1, hg, h2⟩⟩
def SEd (gd mb : Nat) (pl : Value) (n : Nm) (A : Option Addr) (m c : Nat) (opn : Nat) (v : Value) : Prop :=
  match opn with
  | 0 | 1 => v = ptr gd
  | 2 => v = .pointer (some ⟨gd, 1, none⟩)
  | 3 => v = .map (some mb)
  | 4 => v = encStr n
  | 5 => v = .slice A m c
  | _ => True

set_option maxRecDepth 100000 in
set_option maxHeartbeats 1000000 in
theorem edit_ok (w : World) (B gd mb : Nat) (pl : Value) (fs : Fs) (n : Nm) (A : Option Addr) (m c : Nat) (xs : List Int) (hB : B ≤ w.heap.size) (hD : DiskAt w B gd pl mb fs) (hy : Bs w w.heap.size A m xs) (hok : okN n = true) (hmax : m ≤ 1048576) (hroom : (atF fs n).isSome = true ∨ fs.length < 64) :
    Calls Try.prog 41 #[ptr gd, encStr n, .slice A m c] w fun e w' => e = .returned (.int .i64 0) ∧ ∃ A' c', DiskAt w' B gd pl mb (putF fs n ⟨A', m, c', xs, m⟩) ∧ Buts [mb] w w' := by
  have hn := okN_le hok
  have hm : m ≤ 140737488355328 := Nat.le_trans hmax (by decide)
  have hd : decide ((1048576 : Int) < (m : Int)) = false := by simp; omega
  have hq : (!(atF fs n).isSome && decide (64 ≤ fs.length)) = false := by
    rcases hroom with h | h
    · rw [h]; rfl
    · have : decide (64 ≤ fs.length) = false := by simp; omega
      rw [this]; simp
  have HU := full_any w gd mb pl fs n hn hD.row hD.map
  rw [hq] at HU
  have HU := hide HU
  go_enter Try.func41, Try.ntmps41
  go_wp2_with fail
  refine (made_yes w gd mb pl hD.row).mono ?_
  rintro e w1 ⟨rfl, rfl⟩
  go_wp2_with fail
  refine (named_any n w).mono ?_
  rintro e w1 ⟨rfl, rfl⟩
  rw [hok]
  go_wp2_with fail
  refine HU.out.mono ?_
  rintro e w1 ⟨rfl, b1⟩
  have hD := hD.later b1
  have hy := hy.later b1
  have hB := Nat.le_trans hB b1.size
  have b01 := b1
  clear HU b1
  go_wp2_with fail
  rename_i K0 hK0
  refine wp_region_vals [6, 7, 8] (SEd gd mb pl n A m c) (JEd w1 m xs (fun w' => ∃ A' c', DiskAt w' B gd pl mb (putF fs n ⟨A', m, c', xs, m⟩) ∧ Buts [mb] w1 w')) (by kernel_rfl) (by kernel_rfl) (by kernel_rfl) (by kernel_rfl) (by kernel_rfl) (JEd.start _ _ _ _ _) ?obsE ?heE
  case obsE =>
    refine ⟨?_, ?_, ?_, ?_, ?_, ?_, ?_, ?_, ?_, trivial⟩
    · exact .inl ⟨by kernel_rfl, fun L a1 w1 n' h => ⟨_, rfl, run_move (.tmp 0) rfl (h.var n' 0 (by kernel_rfl))⟩⟩
    · refine .inl ⟨by kernel_rfl, fun L a1 w1 n' h => ⟨ptr gd, rfl, ?_⟩⟩
      have e0 : a1.eval (.tmp 21) = _ := h.dep n' 0 21 (by kernel_rfl) rfl
      unfold execOp
      simp only [e0]
      go_simp
    · refine .inl ⟨by kernel_rfl, fun L a1 w1 n' h => ⟨.pointer (some ⟨gd, 1, none⟩), rfl, ?_⟩⟩
      have e0 : a1.eval (.tmp 22) = _ := h.dep n' 1 22 (by kernel_rfl) rfl
      unfold execOp
      simp only [e0]
      go_simp
    · exact .inl ⟨by kernel_rfl, fun L a1 w1 n' h => ⟨_, rfl, run_loadA 70 (.tmp 23) ⟨gd, 1, none⟩ rfl Try.isAgg70 (h.dep n' 2 23 (by kernel_rfl) rfl) ((Row.later hD.row (h.inv.1 ((bits_at rfl).trans (n'.later (by kernel_rfl))))).cell (j := 1) (v := .map (some mb)) rfl)⟩⟩
    · exact .inl ⟨by kernel_rfl, fun L a1 w1 n' h => ⟨_, rfl, run_move (.tmp 1) rfl (h.var n' 1 (by kernel_rfl))⟩⟩
    · exact .inl ⟨by kernel_rfl, fun L a1 w1 n' h => ⟨_, rfl, run_move (.tmp 2) rfl (h.var n' 2 (by kernel_rfl))⟩⟩
    · refine .inr fun L a1 w1 n' h K hK => ?_
      have no6 : L.getD 6 false = false := n'.not_yet
      have no7 : L.getD 7 false = false := n'.later (by kernel_rfl)
      have no8 : L.getD 8 false = false := n'.later (by kernel_rfl)
      have b9 := h.inv.1 ((bits_at rfl).trans no8)
      have y0 : a1.eval (.tmp 26) = .slice A m c := h.dep n' 5 26 (by kernel_rfl) rfl
      refine st_call 22 _ _ #[.slice A m c] rfl Try.call22 ?_ (cloneF A m c xs w1 (hy.later b9) hm) ?_
      · simp only [List.map_toArray, List.map_cons, List.map_nil, y0]
      · rintro e w3 ⟨A3, c3, rfl, own3, b3⟩
        exact ⟨_, rfl, hK _ w3 trivial ⟨fun _ => b9.trans (b3.mono b9.size), fun _ _ => ⟨A3, c3, rfl, own_lo own3 b9.size⟩, fun h0 => absurd (no7.symm.trans h0) (by decide), fun h0 => absurd (no8.symm.trans h0) (by decide)⟩⟩
    · refine .inr fun L a1 w1 n' h K hK => ?_
      have yes6 : L.getD 6 false = true := n'.dep (by kernel_rfl)
      have no8 : L.getD 8 false = false := n'.later (by kernel_rfl)
      have b9 := h.inv.1 ((bits_at rfl).trans no8)
      obtain ⟨A3, c3, ev, own3⟩ := h.inv.2.1 ((bits_at rfl).trans yes6) ((bits_at rfl).trans no8)
      have y0 : a1.eval (.tmp 27) = .slice A3 m c3 := ev
      refine st_call 96 _ _ #[.slice A3 m c3] rfl Try.call96 ?_ (whole_any w1 A3 m c3) ?_
      · simp only [List.map_toArray, List.map_cons, List.map_nil, y0]
      · rintro e w3 ⟨rfl, b3⟩
        exact ⟨_, rfl, hK _ w3 trivial ⟨fun _ => b9.trans (b3.mono b9.size), fun _ _ => ⟨A3, c3, ev, ownr_later own3 b3⟩, fun _ => ⟨A3, c3, ev, rfl⟩, fun h0 => absurd (no8.symm.trans h0) (by decide)⟩⟩
    · refine .inr fun L a1 w1 n' h K hK => ?_
      have yes6 : L.getD 6 false = true := n'.dep (by kernel_rfl)
      have yes7 : L.getD 7 false = true := n'.dep (by kernel_rfl)
      have no8 : L.getD 8 false = false := n'.not_yet
      have b9 := h.inv.1 ((bits_at rfl).trans no8)
      obtain ⟨A3, c3, ev, own3⟩ := h.inv.2.1 ((bits_at rfl).trans yes6) ((bits_at rfl).trans no8)
      obtain ⟨A4, c4, ev4, eu4⟩ := h.inv.2.2.1 ((bits_at rfl).trans yes7)
      have e9 := ev.symm.trans ev4
      injection e9 with q1 q2 q3
      have y2 : a1.eval (.tmp 28) = (FV.mk A3 m c3 xs (m : Int)).val := by
        refine Eq.trans (show a1.eval (.tmp 28) = _ from eu4) ?_
        rw [← q1, ← q3]
      refine st_put (.tmp 24) (.tmp 25) (.tmp 28) (FV.mk A3 m c3 xs (m : Int)).val rfl (h.dep n' 3 24 (by kernel_rfl) rfl) (h.dep n' 4 25 (by kernel_rfl) rfl) y2 (hD.map.later b9) hn (lenE hD.few) ?_
      intro w3 m3 o3
      have hD3 := (hD.later b9).stored (n := n) (f := FV.mk A3 m c3 xs (m : Int)) m3 (Buts.only o3 (List.mem_singleton.2 rfl)) (own_lo own3 hB) ⟨by show (0 : Int) ≤ (m : Int); omega, Int.le_refl _, hmax⟩ (fun p hp _ k hk hk2 => by
        have := (hD.blo k (mem_dblocks.2 (.inr (.inr ⟨p, hp, hk⟩)))).2
        have := (owf_lo (f := FV.mk A3 m c3 xs (m : Int)) own3 k hk2).1
        omega) hroom
      exact hK undef w3 trivial ⟨fun h0 => absurd (show true = false from h0) (by decide), fun _ h0 => absurd (show true = false from h0) (by decide), fun _ => ⟨A4, c4, ev4, eu4⟩, fun _ => ⟨A3, c3, hD3, (Buts.of b9 _).trans (Buts.only o3 (List.mem_singleton.2 rfl))⟩⟩
  case heE =>
    intro V w9 hV hJ
    obtain ⟨A', c', h1, h2⟩ := hJ.2.2.2 rfl
    clear hV hJ
    simp only [putOps, List.setIfInBounds_toArray, List.set_cons_succ, List.set_cons_zero, Nat.reduceAdd]
    refine hK0 _ _ ?_
    go_wp2_with fail
    go_ret
    exact ⟨rfl, A', c', h1, (Buts.of b01 _).trans h2⟩
set_option maxRecDepth 100000 in
theorem edit_full (w : World) (gd mb : Nat) (pl : Value) (fs : Fs) (n : Nm) (A : Option Addr) (m c : Nat) (hr : DRow w gd pl (.map (some mb))) (hM : FMap w mb fs) (hok : okN n = true) (hmax : m ≤ 1048576) (hno : (atF fs n).isSome = false) (hfull : 64 ≤ fs.length) :
    Calls Try.prog 41 #[ptr gd, encStr n, .slice A m c] w fun e w' => e = .returned (.int .i64 10) ∧ Below w.heap.size w w' := by
  have hn := okN_le hok
  have hd : decide ((1048576 : Int) < (m : Int)) = false := by simp; omega
  have hq : (!(atF fs n).isSome && decide (64 ≤ fs.length)) = true := by
    rw [hno]
    simp [hfull]
  have HU := full_any w gd mb pl fs n hn hr hM
  rw [hq] at HU
  have HU := hide HU
  go_enter Try.func41, Try.ntmps41
  go_wp2_with fail
  refine (made_yes w gd mb pl hr).mono ?_
  rintro e w1 ⟨rfl, rfl⟩
  go_wp2_with fail
  refine (named_any n w).mono ?_
  rintro e w1 ⟨rfl, rfl⟩
  rw [hok]
  go_wp2_with fail
  refine HU.out.mono ?_
  rintro e w1 ⟨rfl, b1⟩
  clear HU
  go_wp2_with fail
  go_ret
  exact ⟨rfl, b1⟩
end Go.Proofs.Ytfijhfolanhifaa

/-
  The disk: files as values: may there be such a file; lists of files; are two lists the same. Own work.
-/
namespace Go.Proofs.Ytfijhfolanhifaa
open Go.RowKit Go.Maps Go.ChangeMaps
/-- A file's three cells. -/
def fcs (p : Nm × FV) : List Value := [encStr p.1, .slice p.2.A p.2.n p.2.c, .int .i64 p.2.kept]
def mayF (p : Nm × FV) : Bool := okN p.1 && (decide (p.2.n ≤ 1048576) && (decide (0 ≤ p.2.kept) && decide (p.2.kept ≤ p.2.n)))
set_option maxRecDepth 100000 in
theorem namedR_any (n : Nm) (w : World) : Calls Try.prog 87 #[encStr n] w fun e w' => e = .returned (.bool (okN n)) ∧ w = w' := by
  have hsz := enc_size n
  by_cases h1 : 1 ≤ n.length
  · have hd : decide ((1 : Int) ≤ (n.length : Int)) = true := by simp; omega
    have he : okN n = decide ((n.length : Int) ≤ 40) := by
      simp only [okN, h1, decide_true, Bool.true_and]
      apply decide_eq_decide.2
      omega
    rw [he]
    go_enter Try.func87, Try.ntmps87
    go_wp2_with fail
    go_ret
    exact ⟨rfl, rfl⟩
  · have hd : decide ((1 : Int) ≤ (n.length : Int)) = false := by simp; omega
    have he : okN n = false := by simp [okN, h1]
    rw [he]
    go_enter Try.func87, Try.ntmps87
    go_wp2_with fail
    go_ret
    exact ⟨rfl, rfl⟩
set_option maxRecDepth 100000 in
theorem mayBe_any (p : Nm × FV) (w : World) : Calls Try.prog 86 #[.agg (fcs p).toArray] w fun e w' => e = .returned (.bool (mayF p)) ∧ Below w.heap.size w w' := by
  obtain ⟨n, f⟩ := p
  have e1 : decide (f.n ≤ 1048576) = decide ((f.n : Int) ≤ 1048576) := by apply decide_eq_decide.2; omega
  have hM : mayF (n, f) = (okN n && (decide ((f.n : Int) ≤ 1048576) && (decide (0 ≤ f.kept) && decide (f.kept ≤ f.n)))) := by rw [← e1]; rfl
  have HM := hide hM
  clear hM e1
  go_enter Try.func86, Try.ntmps86
  go_wp2_with (first
    | ((with_reducible refine wl_box rfl 48 _ _ [encStr n, .slice f.A f.n f.c, .int .i64 f.kept] rfl rfl rfl ?_); intro g w1 r p l b; have c0 := r.cell (j := 0) rfl; have c1 := r.cell (j := 1) rfl; have c2 := r.cell (j := 2) rfl))
  refine (named_any n w1).mono ?_
  rintro e w2 ⟨rfl, rfl⟩
  cases hq : okN n with
  | false =>
    go_wp2_with fail
    go_ret
    exact ⟨by rw [HM.out, hq]; first | done | rfl | simp, b⟩
  | true =>
    cases h1 : decide ((f.n : Int) ≤ 1048576) with
    | false =>
      go_wp2_with fail
      go_ret
      exact ⟨by rw [HM.out, hq, h1]; first | done | rfl | simp, b⟩
    | true =>
      cases h2 : decide ((0 : Int) ≤ f.kept) with
      | false =>
        go_wp2_with fail
        go_ret
        exact ⟨by rw [HM.out, hq, h1, h2]; first | done | rfl | simp, b⟩
      | true =>
        cases h3 : decide (f.kept ≤ (f.n : Int)) with
        | false =>
          go_wp2_with fail
          go_ret
          exact ⟨by rw [HM.out, hq, h1, h2, h3]; first | done | rfl | simp, b⟩
        | true =>
          go_wp2_with fail
          go_ret
          exact ⟨by rw [HM.out, hq, h1, h2, h3]; first | done | rfl | simp, b⟩
end Go.Proofs.Ytfijhfolanhifaa

/-
  The disk: lists of files in slices; are two the same. Own work.
-/
namespace Go.Proofs.Ytfijhfolanhifaa
open Go.RowKit Go.Maps Go.ChangeMaps
/-- A slice of files. -/
def FlAt (w : World) (B : Nat) (A : Option Addr) (m : Nat) (fs : Fs) : Prop :=
  fs.length = m ∧ (0 < m → ∃ b o, A = some ⟨b, o, none⟩ ∧ b < B ∧ ∀ i p, fs[i]? = some p → ∀ j v, (fcs p)[j]? = some v → w.cell? ⟨b, o + i * 3 + j, none⟩ = some v) ∧ ∀ p ∈ fs, Bs w B p.2.A p.2.n p.2.xs
theorem FlAt.below {w w' : World} {B m : Nat} {A : Option Addr} {fs : Fs} (h : FlAt w B A m fs) (hb : Below B w w') : FlAt w' B A m fs :=
  ⟨h.1, fun h0 => let ⟨b, o, e, hlt, hc⟩ := h.2.1 h0; ⟨b, o, e, hlt, fun i p hp j v hv => (hb.cell hlt).trans (hc i p hp j v hv)⟩, fun p hp => (h.2.2 p hp).below hb⟩
theorem FlAt.up {w : World} {B B' m : Nat} {A : Option Addr} {fs : Fs} (h : FlAt w B A m fs) (hB : B ≤ B') : FlAt w B' A m fs :=
  ⟨h.1, fun h0 => let ⟨b, o, e, hlt, hc⟩ := h.2.1 h0; ⟨b, o, e, Nat.lt_of_lt_of_le hlt hB, hc⟩, fun p hp => (h.2.2 p hp).up hB⟩
theorem sizeFile : ∀ w, (sizeOf 48).run Try.prog w = .ok 3 w := fun w => by kernel_rfl
/-- What Same looks at. -/
def vF (p : Nm × FV) : Nm × Int × List Int := (p.1, p.2.kept, p.2.xs)
theorem neq_nm (w : World) (n : Nm) : (binOp .neq 9 (encStr n) (encStr n)).run Try.prog w = .ok (.bool false) w := by
  simp [encStr]
  go_simp
theorem below_drewn {B : Nat} {w w' : World} (h : Below B w w') (n : Nat) : Below B w (w'.drewN n) := ⟨h.os, h.tape, h.output, h.size, h.block⟩
theorem neq_by (w : World) (xs : List Int) : (binOp .neq 9 (.string (strOfNums xs)) (.string (strOfNums xs))).run Try.prog w = .ok (.bool false) w := by
  go_simp
set_option maxRecDepth 100000 in
set_option maxHeartbeats 1000000 in
theorem same_any (w : World) (B m : Nat) (A A' : Option Addr) (c c' : Nat) (fs gs : Fs) (hB : B ≤ w.heap.size) (hm : m ≤ 140737488355328) (h : FlAt w B A m fs) (h' : FlAt w B A' m gs) (hv : fs.map vF = gs.map vF) :
    Calls Try.prog 26 #[.slice A m c, .slice A' m c'] w fun e w' => e = .returned (.bool true) ∧ Below w.heap.size w w' := by
  have HA := hide h
  have HB := hide h'
  have HV := hide hv
  have hl1 := h.1
  have hl2 := h'.1
  clear h h' hv
  go_enter Try.func26, Try.ntmps26
  go_wp2_with fail
  go_loopw [5] (fun iv wr => ∃ i : Nat, i ≤ m ∧ iv = .int .i64 i ∧ Below w.heap.size w wr) (fun iv _ => m - (intOf iv).toNat)
  case atStart => exact ⟨0, by omega, rfl, Below.refl _ _⟩
  case round =>
    obtain ⟨i, hi, rfl, bW⟩ := hrel
    by_cases hlt : i < m
    · obtain ⟨p, hp⟩ : ∃ p, fs[i]? = some p := ⟨_, List.getElem?_eq_getElem (by omega)⟩
      obtain ⟨q, hq⟩ : ∃ q, gs[i]? = some q := ⟨_, List.getElem?_eq_getElem (by omega)⟩
      have hpq : vF p = vF q := by
        have := congrArg (fun l => l[i]?) HV.out
        simpa [hp, hq] using this
      obtain ⟨b, o, rfl, hb, hc⟩ := (HA.out.below (bW.mono hB)).2.1 (by omega)
      obtain ⟨b', o', rfl, hb', hc'⟩ := (HB.out.below (bW.mono hB)).2.1 (by omega)
      have hx := (HA.out.below (bW.mono hB)).2.2 p (List.mem_of_getElem? hp)
      have hx' := (HB.out.below (bW.mono hB)).2.2 q (List.mem_of_getElem? hq)
      have hc := hc i p hp
      have hc' := hc' i q hq
      obtain ⟨n, f⟩ := p
      obtain ⟨n', f'⟩ := q
      simp only [vF, Prod.mk.injEq] at hpq
      obtain ⟨rfl, hk, hxs⟩ := hpq
      have c0 := hc 0 _ rfl
      have c1 := hc 1 _ rfl
      have c2 := hc 2 _ rfl
      have d0 := hc' 0 _ rfl
      have d1 := hc' 1 _ rfl
      have d2 := hc' 2 _ rfl
      rw [Nat.add_zero] at c0 d0
      simp only at c0 c1 c2 d0 d1 d2
      rw [← hk] at d2
      have v1 := fun nn => (hx.below (below_drewn (Below.refl B wr) nn)).convert (P := Try.prog) f.c 35 5 9 Try.underlying35 Try.underlying5 Try.underlying9
      have v2 := fun nn => (hx'.below (below_drewn (Below.refl B wr) nn)).convert (P := Try.prog) f'.c 35 5 9 Try.underlying35 Try.underlying5 Try.underlying9
      rw [← hxs] at v2
      clear hc hc' hx hx' hk hxs hp hq hb hb' HA HB HV hl1 hl2
      have HS := sizeFile
      have HQ := neq_nm
      have HQ2 := fun w => neq_by w f.xs
      go_wp2_with fail
      go_quiet (fail)
      go_wp2_with fail
      go_roundw
      case rel => exact ⟨i + 1, by omega, by go_num, below_drewn bW nq⟩
      case measure => simp [intOf]; omega
    · obtain rfl : i = m := by omega
      go_wp2_with fail
      go_ret
      exact ⟨rfl, bW⟩
end Go.Proofs.Ytfijhfolanhifaa

/-
  The disk: lists of files of one's own: rows of three cells each. Own work.
-/
namespace Go.Proofs.Ytfijhfolanhifaa
open Go.RowKit Go.Maps Go.ChangeMaps
/-- '[]T{x}', T of three cells. -/
theorem st_build1S {P : Program} {o : Oper} {a : Act} {w : World} {K : Act → World → Prop} {Q : Exit → Act → World → Prop} (t : TypeId) (x : Operand) (ho : o.op = .buildSlice t 1 #[(0, x)]) (e : TypeId) (i : TypeInfo) (z1 z2 z3 v1 v2 v3 : Value) (ht : P.underlying t = some (.slice e)) (hi : P.info? e = some i) (hz : i.zero = some (.agg #[z1, z2, z3])) (hsz : i.size = 3) (hx : a.eval x = .agg #[v1, v2, v3])
    (hk : ∀ g w', Row w' e g [v1, v2, v3] → w.heap.size ≤ g → g < w'.heap.size → Below w.heap.size w w' → K (a.put o.dst (.slice (some ⟨g, 0, none⟩) 1 1)) w') : o.wp P a w K Q := by
  have hr : (Array.range 1) = #[0] := rfl
  have hr3 : (Array.range 3) = #[0, 1, 2] := rfl
  have hzz : ∀ w, (zeroValue e).run P w = .ok (.agg #[z1, z2, z3]) w := fun w => by simp [zeroValue, typeInfo, hi, hz]
  have hss : ∀ w, (sizeOf e).run P w = .ok 3 w := fun w => by simp [sizeOf, typeInfo, hi, hsz]
  have hrun : (Instr.buildSlice t 1 #[(0, .agg #[v1, v2, v3])]).run P w = .ok (.slice (some ⟨w.heap.size, 0, none⟩) 1 1) (w.alloc (.cells #[v1, v2, v3] e)) := by
    simp [Instr.buildSlice, run_underlying ht, hss, hzz, hr, hr3, Instr.fill, newRow, Value.cells]
  unfold Oper.wp execOp
  simp only [ho, List.map_toArray, List.map_cons, List.map_nil, hx, hrun, Sem.run_bind, Result.andThen_ok, Sem.run_pure]
  exact hk _ _ (by unfold Row; exact heap_alloc_new _ _) (Nat.le_refl _) (by simp) ((Below.refl _ _).alloc (Nat.le_refl _) _)
def cellsL (fs : Fs) : List Value := fs.flatMap fcs
theorem cellsL_len (fs : Fs) : (cellsL fs).length = fs.length * 3 := by
  induction fs with
  | nil => rfl
  | cons p r ih =>
    show (fcs p ++ cellsL r).length = _
    rw [List.length_append, ih, List.length_cons]
    show 3 + _ = _
    omega
theorem cellsL_app (fs gs : Fs) : cellsL (fs ++ gs) = cellsL fs ++ cellsL gs := by simp [cellsL]
theorem cellsL_at : ∀ (fs : Fs) (i : Nat) (p : Nm × FV) (j : Nat) (v : Value), fs[i]? = some p → (fcs p)[j]? = some v → (cellsL fs)[i * 3 + j]? = some v
  | [], i, p, j, v, h, _ => by simp at h
  | q :: r, 0, p, j, v, h, hv => by
    simp at h
    subst h
    show (fcs q ++ cellsL r)[0 * 3 + j]? = _
    have hj : j < (fcs q).length := (List.getElem?_eq_some_iff.1 hv).1
    rw [Nat.zero_mul, Nat.zero_add, List.getElem?_append_left hj, hv]
  | q :: r, i + 1, p, j, v, h, hv => by
    show (fcs q ++ cellsL r)[(i + 1) * 3 + j]? = _
    have : (fcs q).length = 3 := rfl
    rw [List.getElem?_append_right (by omega), this, show (i + 1) * 3 + j - 3 = i * 3 + j by omega]
    exact cellsL_at r i p j v (by simpa using h) hv
/-- A list of files that is one's own: the row, and each file's bytes. -/
structure OwnL (w : World) (T : Nat) (v : Value) (fs : Fs) : Prop where
  row : w.ownsRow T 48 3 v fs.length (cellsL fs)
  bs : ∀ p ∈ fs, OwnF w T p.2
theorem OwnL.nil (w : World) (T : Nat) : OwnL w T (.slice none 0 0) [] := ⟨World.ownsRow_nil _ _ _ _, fun p hp => by cases hp⟩
theorem OwnL.fl {w : World} {T : Nat} {v : Value} {fs : Fs} (h : OwnL w T v fs) : ∃ A c, v = .slice A fs.length c ∧ FlAt w w.heap.size A fs.length fs := by
  rcases h.row.2 with ⟨rfl, h0⟩ | ⟨g, cap, cur, rfl, _, hg, h1, h2, h3, h4⟩
  · refine ⟨none, 0, by rw [h0], rfl, fun hp => by omega, fun p hp => owf_bs (h.bs p hp)⟩
  · refine ⟨_, cap, rfl, rfl, fun hp => ⟨g, 0, rfl, (Array.getElem?_eq_some_iff.1 hg).1, fun i p hi j v hv => ?_⟩, fun p hp => owf_bs (h.bs p hp)⟩
    have hj : j < 3 := (List.getElem?_eq_some_iff.1 hv).1
    have hil : i < fs.length := (List.getElem?_eq_some_iff.1 hi).1
    have e : (cur.toList.take (fs.length * 3))[i * 3 + j]? = (cellsL fs)[i * 3 + j]? := by rw [h4]
    rw [cellsL_at fs i p j v hi hv, List.getElem?_take, if_pos (by omega)] at e
    rw [Nat.zero_add, cell_of_row w g _ cur _ (0, 0) hg, ← Array.getElem?_toList]
    exact e
theorem OwnL.later {w w' : World} {T : Nat} {v : Value} {fs : Fs} (h : OwnL w T v fs) (hb : Below w.heap.size w w') : OwnL w' T v fs := by
  refine ⟨⟨h.row.1, h.row.2.imp id fun ⟨g, cap, cur, e1, h1, hg, h2⟩ => ⟨g, cap, cur, e1, h1, (hb.block g (Array.getElem?_eq_some_iff.1 hg).1).trans hg, h2⟩⟩, fun p hp => ownr_later (h.bs p hp) hb⟩
/-- A row of another type stays while this one grows. -/
theorem own_grown {w w' : World} {T T' e e' s' n n' : Nat} {v v' : Value} {xs xs' : List Value} (h : w.ownsRow T e 1 v n xs) (h' : w.ownsRow T' e' s' v' n' xs') (ht : e ≠ e') (hg : w.grownBy w' v'.ownBlock) : w'.ownsRow T e 1 v n xs := by
  refine ⟨h.1, h.2.imp id fun ⟨g, cap, cur, e1, h1, hc, h2⟩ => ⟨g, cap, cur, e1, h1, (hg.block g (Array.getElem?_eq_some_iff.1 hc).1 (fun hk => ?_)).trans hc, h2⟩⟩
  rcases h'.2 with ⟨rfl, _⟩ | ⟨g', cap', cur', rfl, _, hc', _⟩
  · simp [Value.ownBlock] at hk
  · simp [Value.ownBlock] at hk
    subst hk
    have := hc.symm.trans hc'
    simp at this
    exact ht this.2
theorem file_info : ∃ i, Try.prog.info? 48 = some i ∧ i.zero = some (.agg #[.string ByteArray.empty, .slice none 0 0, .int .i64 0]) ∧ i.size = 3 ∧ i.bytes = 48 := by
  have h : (Try.prog.info? 48).map (fun i => (i.zero, i.size, i.bytes)) = some (some (.agg #[.string ByteArray.empty, .slice none 0 0, .int .i64 0]), 3, 48) := by kernel_rfl
  exact info_parts h
theorem one_fcs (p : Nm × FV) : ∀ u ∈ fcs p, u.oneCell' = true := by
  intro u hu
  simp [fcs] at hu
  rcases hu with rfl | rfl | rfl <;> rfl
end Go.Proofs.Ytfijhfolanhifaa

/-
  The disk: Image. Own work.
-/
namespace Go.Proofs.Ytfijhfolanhifaa
open Go.RowKit Go.Maps Go.ChangeMaps
/-- What the region that lays one file more keeps. -/
def JIm (w0 : World) (T : Nat) (l : Fs) (n : Nm) (f : FV) (bs : List Bool) (vs : List Value) (w : World) : Prop :=
  (bs.getD 3 false = false → Below w0.heap.size w0 w) ∧
  (bs.getD 0 false = true → bs.getD 3 false = false → ∃ A3 c3, vs.getD 0 undef = .slice A3 f.n c3 ∧ w.ownsRow w0.heap.size 5 1 (.slice A3 f.n c3) f.n (bv f.xs)) ∧
  (bs.getD 1 false = true → ∃ A3 c3, vs.getD 0 undef = .slice A3 f.n c3 ∧ vs.getD 1 undef = .agg #[encStr n, .slice A3 f.n c3, .int .i64 f.kept]) ∧
  (bs.getD 2 false = true → bs.getD 3 false = false → ∃ g A3 c3, vs.getD 0 undef = .slice A3 f.n c3 ∧ vs.getD 2 undef = .slice (some ⟨g, 0, none⟩) 1 1 ∧ Row w 48 g [encStr n, .slice A3 f.n c3, .int .i64 f.kept]) ∧
  (bs.getD 3 false = true → ∃ p, vF p = vF (n, f) ∧ OwnL w T (vs.getD 3 undef) (l ++ [p]) ∧ Below T w0 w) ∧
  (bs.getD 4 false = true → vs.getD 4 undef = vs.getD 3 undef)
theorem JIm.start (w0 : World) (T : Nat) (l : Fs) (n : Nm) (f : FV) (vs : List Value) : JIm w0 T l n f [false, false, false, false, false] vs w0.drew :=
  ⟨fun _ => (Below.refl _ _).drew, fun h => absurd (show false = true from h) (by decide), fun h => absurd (show false = true from h) (by decide), fun h => absurd (show false = true from h) (by decide), fun h => absurd (show false = true from h) (by decide), fun h => absurd (show false = true from h) (by decide)⟩
theorem builtApi (n : Nm) (A : Option Addr) (m c : Nat) (k : Int) : Try.prog.built 48 [(0, encStr n), (1, .slice A m c), (2, .int .i64 k)] = some [encStr n, Value.slice A m c, Value.int .i64 k].toArray := by kernel_rfl
theorem OwnL.lo {w : World} {T T' : Nat} {v : Value} {fs : Fs} (h : OwnL w T v fs) (hT : T' ≤ T) : OwnL w T' v fs :=
  ⟨⟨h.row.1, h.row.2.imp id fun ⟨g, cap, cur, e1, h1, h2⟩ => ⟨g, cap, cur, e1, Nat.le_trans hT h1, h2⟩⟩, fun p hp => own_lo (h.bs p hp) hT⟩
/-- One file more on a list of one's own. -/
theorem OwnL.push {w0 w w' : World} {T : Nat} {v v' : Value} {l : Fs} {n : Nm} {A : Option Addr} {m c : Nat} {xs : List Int} {k : Int} (hO : OwnL w T v l) (hc : w.ownsRow w0.heap.size 5 1 (.slice A m c) m (bv xs)) (hT : T ≤ w0.heap.size)
    (hr : w'.ownsRow T 48 3 v' (l.length + 1) (cellsL l ++ [encStr n, .slice A m c, .int .i64 k])) (hg : w.grownBy w' v.ownBlock) : OwnL w' T v' (l ++ [(n, ⟨A, m, c, xs, k⟩)]) := by
  refine ⟨?_, fun p hp => ?_⟩
  · rw [cellsL_app, List.length_append]
    exact hr
  · rcases List.mem_append.1 hp with hp | hp
    · exact own_grown (hO.bs p hp) hO.row (by decide) hg
    · obtain rfl := List.mem_singleton.1 hp
      exact own_grown (own_lo hc hT) hO.row (by decide) hg
def SIm (gF : Nat) (lv : Value) (n : Nm) (f : FV) (opn : Nat) (v : Value) : Prop :=
  match opn with
  | 0 => v = lv
  | 1 => v = encStr n
  | 2 => v = .pointer (some ⟨gF, 0, none⟩)
  | 3 => v = .slice f.A f.n f.c
  | 5 => v = .pointer (some ⟨gF, 1, none⟩)
  | 6 => v = .int .i64 f.kept
  | _ => True

set_option maxRecDepth 100000 in
set_option maxHeartbeats 2000000 in
theorem image_any (w : World) (B gd mb : Nat) (pl : Value) (fs : Fs) (hD : DiskAt w B gd pl mb fs) :
    Calls Try.prog 27 #[ptr gd] w fun e w' => ∃ v l, e = .returned v ∧ l.map vF = fs.map vF ∧ OwnL w' w.heap.size v l ∧ Below w.heap.size w w' := by
  obtain ⟨ip, hip, hpz, hps, hpb⟩ := file_info
  have HNm := names_ent w gd mb pl (ents fs) hD.row hD.map (by rw [ents_len]; exact hD.few)
  rw [ents_len, show (ents fs).map (·.1) = fs.map (·.1) by simp [ents]] at HNm
  have HNm := hide HNm
  have HD := hide hD
  clear hD
  go_enter Try.func27, Try.ntmps27
  go_wp2_with fail
  refine HNm.out.mono ?_
  rintro e wn ⟨nv, rfl, hN, b1⟩
  obtain ⟨NA, nc, rfl⟩ := own_sl hN
  clear HNm
  go_wp2_with fail
  go_loopw [3, 10] (fun lv iv wr => ∃ (i : Nat) (l : Fs), i ≤ fs.length ∧ iv = .int .i64 i ∧ l.map vF = (fs.take i).map vF ∧ OwnL wr wn.heap.size lv l ∧ Below wn.heap.size wn wr) (fun _ iv _ => fs.length - (intOf iv).toNat)
  case atStart => exact ⟨0, [], by omega, rfl, rfl, OwnL.nil _ _, Below.refl _ _⟩
  case round =>
    obtain ⟨i, l, hi, rfl, hv, hO, hB⟩ := hrel
    have hfew := HD.out.few
    by_cases hlt : i < fs.length
    · obtain ⟨⟨n, f⟩, hf⟩ : ∃ p, fs[i]? = some p := ⟨_, List.getElem?_eq_getElem hlt⟩
      have hmem := List.mem_of_getElem? hf
      have hat : (atF fs n).getD zV = f := by rw [at_nth (FMap.rise HD.out.map) hf]; rfl
      have hn : n.length ≤ maxLen := strKeys_le HD.out.map Try.underlying9 n (by rw [entD_keys, ents, List.map_map]; exact List.mem_map.2 ⟨_, hmem, rfl⟩)
      have hok := HD.out.files.bd _ hmem
      have hDr := (HD.out.later b1).later hB
      have hNr := ownr_later hN hB
      obtain ⟨g7, cap7, e7, c7⟩ := names_cell hNr hlt (n := n) (by rw [List.getElem?_map, hf]; rfl)
      injection e7 with e71 e72 e73
      subst e71
      subst e73
      have cd1 := hDr.row.cell (j := 1) rfl
      have hHF := hide hat
      have hHM := hide hDr.map
      clear hat
      go_wp2_with (first
        | (with_reducible refine wl_look1 rfl (.tmp 17) (.tmp 18) n mb fs f hHF.out rfl rfl rfl hHM.out hn ?_)
        | ((with_reducible refine wl_alloc rfl 137 _ [.slice none 0 0, .int .i64 0] rfl zFile rfl ?_); intro gF w2 r9 p9 l9 b9)
        | ((with_reducible refine wl_store_row rfl 137 (.tmp 6) (.tmp 19) gF 137 _ [.slice f.A f.n f.c, .int .i64 f.kept] rfl rfl rfl r9 (szFile f) rfl (one_file f) ?_); intro w3 rF o10; have bS := b9.trans (o10.below p9)))
      have hy : Bs w3 w3.heap.size f.A f.n f.xs := (owf_bs (hDr.files.own _ hmem)).later bS
      have hm : f.n ≤ 140737488355328 := Nat.le_trans hok.2.2 (by decide)
      have hO3 := hO.later bS
      have hT : wn.heap.size ≤ w3.heap.size := Nat.le_trans hB.size bS.size
      have hll : l.length = i := by
        have := congrArg List.length hv
        simp at this
        omega
      have hl64 : l.length ≤ 64 := by omega
      have hB3 := hB.trans (bS.mono hB.size)
      clear hHF hHM hDr hNr c7 cd1 hO hok b9 o10 r9 p9 l9
      refine wp_region_vals [4, 7, 8, 9, 10] (SIm gF u3 n f) (JIm w3 wn.heap.size l n f) (by kernel_rfl) (by kernel_rfl) (by kernel_rfl) (by kernel_rfl) (by kernel_rfl) (JIm.start _ _ _ _ _ _) ?obsE ?heE
      case obsE =>
        refine ⟨?_, ?_, ?_, ?_, ?_, ?_, ?_, ?_, ?_, ?_, ?_, trivial⟩
        · exact .inl ⟨by kernel_rfl, fun L a1 w1 n' h => ⟨_, rfl, run_move (.tmp 3) rfl (h.var n' 3 (by kernel_rfl))⟩⟩
        · exact .inl ⟨by kernel_rfl, fun L a1 w1 n' h => ⟨_, rfl, run_move (.tmp 5) rfl (h.var n' 5 (by kernel_rfl))⟩⟩
        · refine .inl ⟨by kernel_rfl, fun L a1 w1 n' h => ⟨.pointer (some ⟨gF, 0, none⟩), rfl, ?_⟩⟩
          have e0 : a1.eval (.tmp 6) = _ := h.var n' 6 (by kernel_rfl)
          unfold execOp
          simp only [e0]
          go_simp
        · exact .inl ⟨by kernel_rfl, fun L a1 w1 n' h => ⟨_, rfl, run_loadA 35 (.tmp 22) ⟨gF, 0, none⟩ rfl Try.isAgg35 (h.dep n' 2 22 (by kernel_rfl) rfl) ((Row.later rF (h.inv.1 ((bits_at rfl).trans (n'.later (by kernel_rfl))))).cell (j := 0) (v := .slice f.A f.n f.c) rfl)⟩⟩
        · refine .inr fun L a1 w1 n' h K hK => ?_
          have no4 : L.getD 4 false = false := n'.not_yet
          have no7 : L.getD 7 false = false := n'.later (by kernel_rfl)
          have no8 : L.getD 8 false = false := n'.later (by kernel_rfl)
          have no9 : L.getD 9 false = false := n'.later (by kernel_rfl)
          have no10 : L.getD 10 false = false := n'.later (by kernel_rfl)
          have b9 := h.inv.1 ((bits_at rfl).trans no9)
          have y0 : a1.eval (.tmp 23) = .slice f.A f.n f.c := h.dep n' 3 23 (by kernel_rfl) rfl
          refine st_call 22 _ _ #[.slice f.A f.n f.c] rfl Try.call22 ?_ (cloneF f.A f.n f.c f.xs w1 (hy.later b9) hm) ?_
          · simp only [List.map_toArray, List.map_cons, List.map_nil, y0]
          · rintro e w3 ⟨A3, c3, rfl, own3, b3⟩
            exact ⟨_, rfl, hK _ w3 trivial ⟨fun _ => b9.trans (b3.mono b9.size), fun _ _ => ⟨A3, c3, rfl, own_lo own3 b9.size⟩, fun h0 => absurd (no7.symm.trans h0) (by decide), fun h0 => absurd (no8.symm.trans h0) (by decide), fun h0 => absurd (no9.symm.trans h0) (by decide), fun h0 => absurd (no10.symm.trans h0) (by decide)⟩⟩
        · refine .inl ⟨by kernel_rfl, fun L a1 w1 n' h => ⟨.pointer (some ⟨gF, 1, none⟩), rfl, ?_⟩⟩
          have e0 : a1.eval (.tmp 6) = _ := h.var n' 6 (by kernel_rfl)
          unfold execOp
          simp only [e0]
          go_simp
        · exact .inl ⟨by kernel_rfl, fun L a1 w1 n' h => ⟨_, rfl, run_loadA 3 (.tmp 25) ⟨gF, 1, none⟩ rfl Try.isAgg3 (h.dep n' 5 25 (by kernel_rfl) rfl) ((Row.later rF (h.inv.1 ((bits_at rfl).trans (n'.later (by kernel_rfl))))).cell (j := 1) (v := .int .i64 f.kept) rfl)⟩⟩
        · refine .inr fun L a1 w1 n' h K hK => ?_
          have yes4 : L.getD 4 false = true := n'.dep (by kernel_rfl)
          have no8 : L.getD 8 false = false := n'.later (by kernel_rfl)
          have no9 : L.getD 9 false = false := n'.later (by kernel_rfl)
          have no10 : L.getD 10 false = false := n'.later (by kernel_rfl)
          obtain ⟨A3, c3, ev, own3⟩ := h.inv.2.1 ((bits_at rfl).trans yes4) ((bits_at rfl).trans no9)
          have y0 : a1.eval (.tmp 21) = encStr n := h.dep n' 1 21 (by kernel_rfl) rfl
          have y1 : a1.eval (.tmp 24) = .slice A3 f.n c3 := ev
          have y2 : a1.eval (.tmp 26) = .int .i64 f.kept := h.dep n' 6 26 (by kernel_rfl) rfl
          have hrun := fun (o : Oper) (ho : o.op = .build 48 [(0, Operand.tmp 21), (1, Operand.tmp 24), (2, Operand.tmp 26)].toArray) => run_buildX (P := Try.prog) (o := o) (a := a1) (w := w1) 48 [(0, .tmp 21), (1, .tmp 24), (2, .tmp 26)] ho [(0, encStr n), (1, .slice A3 f.n c3), (2, .int .i64 f.kept)] (by simp only [List.map_cons, List.map_nil]; rw [y0, y1, y2]) _ (builtApi n A3 f.n c3 f.kept)
          unfold Oper.wp
          rw [hrun _ rfl]
          exact hK _ w1 trivial ⟨fun h0 => h.inv.1 h0, fun _ _ => ⟨A3, c3, ev, own3⟩, fun _ => ⟨A3, c3, ev, rfl⟩, fun h0 => absurd (no8.symm.trans h0) (by decide), fun h0 => absurd (no9.symm.trans h0) (by decide), fun h0 => absurd (no10.symm.trans h0) (by decide)⟩
        · refine .inr fun L a1 w1 n' h K hK => ?_
          have yes4 : L.getD 4 false = true := n'.dep (by kernel_rfl)
          have yes7 : L.getD 7 false = true := n'.dep (by kernel_rfl)
          have no9 : L.getD 9 false = false := n'.later (by kernel_rfl)
          have no10 : L.getD 10 false = false := n'.later (by kernel_rfl)
          have b9 := h.inv.1 ((bits_at rfl).trans no9)
          obtain ⟨A3, c3, ev, own3⟩ := h.inv.2.1 ((bits_at rfl).trans yes4) ((bits_at rfl).trans no9)
          obtain ⟨A4, c4, ev4, eu⟩ := h.inv.2.2.1 ((bits_at rfl).trans yes7)
          refine st_build1S 32 (.tmp 27) rfl 48 ip _ _ _ _ _ _ Try.underlying32 hip hpz hps eu ?_
          intro g2 w3 r3 p3 l3 b3
          exact hK _ w3 trivial ⟨fun _ => b9.trans (b3.mono b9.size), fun _ _ => ⟨A3, c3, ev, ownr_later own3 b3⟩, fun _ => ⟨A4, c4, ev4, eu⟩, fun _ _ => ⟨g2, A4, c4, ev4, rfl, r3⟩, fun h0 => absurd (no9.symm.trans h0) (by decide), fun h0 => absurd (no10.symm.trans h0) (by decide)⟩
        · refine .inr fun L a1 w1 n' h K hK => ?_
          have yes4 : L.getD 4 false = true := n'.dep (by kernel_rfl)
          have yes7 : L.getD 7 false = true := n'.dep (by kernel_rfl)
          have yes8 : L.getD 8 false = true := n'.dep (by kernel_rfl)
          have no9 : L.getD 9 false = false := n'.not_yet
          have no10 : L.getD 10 false = false := n'.later (by kernel_rfl)
          have b9 := h.inv.1 ((bits_at rfl).trans no9)
          obtain ⟨A3, c3, ev, own3⟩ := h.inv.2.1 ((bits_at rfl).trans yes4) ((bits_at rfl).trans no9)
          obtain ⟨g2, A4, c4, ev4, eu, r2⟩ := h.inv.2.2.2.1 ((bits_at rfl).trans yes8) ((bits_at rfl).trans no9)
          have e9 := ev.symm.trans ev4
          injection e9 with q1 q2 q3
          have hO1 := hO3.later b9
          refine st_append_at (.tmp 20) (.tmp 28) 32 rfl wn.heap.size 48 ip (.agg #[.string ByteArray.empty, .slice none 0 0, .int .i64 0]) 3 48 Try.underlying32 hip hpz hps hpb rfl (by decide) u3 l.length _ (h.dep n' 0 20 (by kernel_rfl) rfl) hO1.row ⟨g2, 0, none⟩ 1 1 [encStr n, .slice A4 f.n c4, .int .i64 f.kept] eu rfl (row_src r2) (one_fcs (n, ⟨A4, f.n, c4, f.xs, f.kept⟩)) (by simp only [maxLen]; omega) (by omega) (Nat.le_trans hT b9.size) ?_
          intro v' w3 own4 hg3 hloc
          rw [q1, q3] at own3
          exact hK _ w3 trivial ⟨fun h0 => absurd (show true = false from h0) (by decide), fun _ h0 => absurd (show true = false from h0) (by decide), h.inv.2.2.1, fun _ h0 => absurd (show true = false from h0) (by decide), fun _ => ⟨(n, ⟨A4, f.n, c4, f.xs, f.kept⟩), rfl, hO1.push own3 hT own4 hg3, (b9.mono hT).grown hg3 (Nat.le_trans hT b9.size) fun k hk => (hO1.row.lt k hk).1⟩, fun h0 => absurd (no10.symm.trans h0) (by decide)⟩
        · refine .inr fun L a1 w1 n' h K hK => ?_
          have yes9 : L.getD 9 false = true := n'.dep (by kernel_rfl)
          have h3 := h.inv.2.2.2.2.1 ((bits_at rfl).trans yes9)
          have hrun := fun (o : Oper) (ho : o.op = .assign (.tmp 29)) => run_assign (P := Try.prog) (o := o) (a := a1) (w := w1) (.tmp 29) ho rfl
          unfold Oper.wp
          rw [hrun _ rfl]
          exact hK _ w1 trivial ⟨h.inv.1, h.inv.2.1, h.inv.2.2.1, h.inv.2.2.2.1, fun _ => h3, fun _ => rfl⟩
      case heE =>
        intro V w9 hV hJ
        obtain ⟨p, hpv, hO9, b9⟩ := hJ.2.2.2.2.1 rfl
        have e10 := hJ.2.2.2.2.2 rfl
        have hO9 : OwnL w9 wn.heap.size (V 9) (l ++ [p]) := hO9
        have e10 : V 10 = V 9 := e10
        clear hV hJ
        simp only [putOps, List.setIfInBounds_toArray, List.set_cons_succ, List.set_cons_zero, Nat.reduceAdd]
        rw [e10]
        have hv9 : (l ++ [p]).map vF = (fs.take (i + 1)).map vF := by
          rw [List.map_append, hv, List.take_add_one, hf, List.map_append]
          simp [hpv]
        have hB9 := hB3.trans b9
        clear e10 hv hpv hO3 b9 hB3 hT hy hm hll hl64
        go_wp2_with fail
        go_roundw
        case rel => exact ⟨i + 1, l ++ [p], by omega, by go_num, hv9, hO9, hB9⟩
        case measure => simp [intOf]; omega
    · obtain rfl : i = fs.length := by omega
      go_wp2_with fail
      go_ret
      exact ⟨_, l, rfl, by rw [hv, List.take_length], hO.lo b1.size, b1.trans (hB.mono b1.size)⟩
end Go.Proofs.Ytfijhfolanhifaa

/-
  The disk: what Load makes of a list, as lists. Own work.
-/
namespace Go.Proofs.Ytfijhfolanhifaa
open Go.RowKit Go.Maps Go.ChangeMaps
/-- The files of a list laid one by one; none: one may not be, or stands twice. -/
def ldF : Fs → Fs → Option Fs
  | acc, [] => some acc
  | acc, p :: r => if (atF acc p.1).isSome || !mayF p then none else ldF (putF acc p.1 p.2) r
theorem ldF_cons_no {acc r : Fs} {p : Nm × FV} (h : ((atF acc p.1).isSome || !mayF p) = true) : ldF acc (p :: r) = none := by
  rw [ldF, if_pos h]
theorem ldF_cons {acc r : Fs} {p : Nm × FV} (h1 : (atF acc p.1).isSome = false) (h2 : mayF p = true) : ldF acc (p :: r) = ldF (putF acc p.1 p.2) r := by
  rw [ldF, h1, h2]
  rfl
theorem ldF_drop {acc l : Fs} {i : Nat} {p : Nm × FV} (h : l[i]? = some p) : ldF acc (l.drop i) = if (atF acc p.1).isSome || !mayF p then none else ldF (putF acc p.1 p.2) (l.drop (i + 1)) := by
  obtain ⟨hi, e⟩ := List.getElem?_eq_some_iff.1 h
  rw [List.drop_eq_getElem_cons hi, e, ldF]
theorem atF_view : ∀ {fs gs : Fs} (n : Nm), fs.map vF = gs.map vF → (atF fs n).map (fun f => (f.kept, f.xs)) = (atF gs n).map (fun f => (f.kept, f.xs))
  | [], [], _, _ => rfl
  | [], _ :: _, _, h => by simp at h
  | _ :: _, [], _, h => by simp at h
  | (m, f) :: r, (m', f') :: r', n, h => by
    simp only [List.map_cons, List.cons.injEq, vF, Prod.mk.injEq] at h
    obtain ⟨⟨rfl, hk, hx⟩, h2⟩ := h
    have ih := atF_view n h2
    unfold atF at ih ⊢
    by_cases e : (m == n) = true
    · simp [List.find?_cons, e, hk, hx]
    · simp only [List.find?_cons, e]
      exact ih
theorem atF_view_some {fs gs : Fs} (n : Nm) (h : fs.map vF = gs.map vF) : (atF fs n).isSome = (atF gs n).isSome := by
  have := congrArg Option.isSome (atF_view n h)
  simpa using this
theorem delF_view : ∀ {fs gs : Fs} (n : Nm), fs.map vF = gs.map vF → (delF fs n).map vF = (delF gs n).map vF
  | [], [], _, _ => rfl
  | [], _ :: _, _, h => by simp at h
  | _ :: _, [], _, h => by simp at h
  | (m, f) :: r, (m', f') :: r', n, h => by
    simp only [List.map_cons, List.cons.injEq, vF, Prod.mk.injEq] at h
    obtain ⟨⟨rfl, hk, hx⟩, h2⟩ := h
    have ih := delF_view n h2
    unfold delF at ih ⊢
    by_cases e : (m == n) = true
    · simp only [List.filter_cons, e, Bool.not_true, Bool.false_eq_true, if_false]
      exact ih
    · simp only [List.filter_cons, e, Bool.not_false, if_true, List.map_cons, ih]
      simp [vF, hk, hx]
theorem insF_view : ∀ {fs gs : Fs} (n : Nm) {f f' : FV}, fs.map vF = gs.map vF → vF (n, f) = vF (n, f') → (insF (n, f) fs).map vF = (insF (n, f') gs).map vF
  | [], [], n, f, f', _, hf => by simp [insF, hf]
  | [], _ :: _, _, _, _, h, _ => by simp at h
  | _ :: _, [], _, _, _, h, _ => by simp at h
  | (m, g) :: r, (m', g') :: r', n, f, f', h, hf => by
    simp only [List.map_cons, List.cons.injEq] at h
    obtain ⟨h1, h2⟩ := h
    have ih := insF_view n h2 hf
    have hm : m = m' := congrArg Prod.fst h1
    subst hm
    unfold insF
    split
    · simp [hf, h1, h2]
    · simp [h1, ih]
theorem putF_view {fs gs : Fs} (n : Nm) {f f' : FV} (h : fs.map vF = gs.map vF) (hf : vF (n, f) = vF (n, f')) : (putF fs n f).map vF = (putF gs n f').map vF :=
  insF_view n (delF_view n h) hf
/-- Files' bytes are as many as it says. -/
def tidy (p : Nm × FV) : Prop := p.2.xs.length = p.2.n
theorem mayF_view {p q : Nm × FV} (h : vF p = vF q) (hp : tidy p) (hq : tidy q) : mayF p = mayF q := by
  obtain ⟨n, f⟩ := p
  obtain ⟨n', f'⟩ := q
  simp only [vF, Prod.mk.injEq] at h
  obtain ⟨rfl, hk, hx⟩ := h
  have hn : f.n = f'.n := by rw [← hp, ← hq]; exact congrArg List.length hx
  simp only [mayF, hk, hn]
end Go.Proofs.Ytfijhfolanhifaa

/-
  The disk: Load. Own work.
-/
namespace Go.Proofs.Ytfijhfolanhifaa
open Go.RowKit Go.Maps Go.ChangeMaps
theorem run_loadF {P : Program} {o : Oper} {a : Act} {w : World} (ty : TypeId) (x : Operand) (g off : Nat) (M : List Value) (d : TypeDesc) (ho : o.op = .load ty x) (hx : a.eval x = .pointer (some ⟨g, off, none⟩)) (h : ∀ j v, M[j]? = some v → w.cell? ⟨g, off + j, none⟩ = some v)
    (hu : P.underlying ty = some d) (hd : (match d with | .struct _ | .array _ _ => true | _ => false) = true) (hi : (P.info? ty).map (·.size) = some M.length) : (execOp a.eval o).run P w = .ok (.value (.agg M.toArray)) w := by
  unfold execOp
  simp only [ho, hx, Instr.loadAt, Instr.sureAddr, Sem.run_bind, Sem.run_pure, Result.andThen_ok, run_loadVar_cells ty g off M d h hu hd hi]
theorem szApi (n : Nm) (f : FV) : (Try.prog.info? 48).map (·.size) = some [encStr n, Value.slice f.A f.n f.c, Value.int .i64 f.kept].length := by kernel_rfl
theorem one_api (n : Nm) (f : FV) : ∀ u ∈ [encStr n, Value.slice f.A f.n f.c, Value.int .i64 f.kept], u.oneCell' = true := one_fcs (n, f)
theorem szMp : (Try.prog.info? 70).map (·.size) = some 1 := by kernel_rfl
theorem zApi : (Try.prog.info? 48).map (fun i => i.zero) = some (some (.agg #[.string ByteArray.empty, .slice none 0 0, .int .i64 0])) := by kernel_rfl
/-- What the region that lays one file keeps. -/
def JLd (w0 : World) (f : FV) (N : World → Prop) (bs : List Bool) (vs : List Value) (w : World) : Prop :=
  (bs.getD 2 false = false → Below w0.heap.size w0 w) ∧ (bs.getD 0 false = true → bs.getD 2 false = false → ∃ A c, vs.getD 0 undef = .slice A f.n c ∧ w.ownsRow w0.heap.size 5 1 (.slice A f.n c) f.n (bv f.xs)) ∧
    (bs.getD 1 false = true → ∃ A c, vs.getD 0 undef = .slice A f.n c ∧ vs.getD 1 undef = .agg #[.slice A f.n c, .int .i64 f.kept]) ∧ (bs.getD 2 false = true → N w)
theorem JLd.start (w0 : World) (f : FV) (N : World → Prop) (vs : List Value) : JLd w0 f N [false, false, false] vs w0.drew :=
  ⟨fun _ => (Below.refl _ _).drew, fun h => absurd (show false = true from h) (by decide), fun h => absurd (show false = true from h) (by decide), fun h => absurd (show false = true from h) (by decide)⟩
def SLd (gF mb2 : Nat) (n : Nm) (f : FV) (opn : Nat) (v : Value) : Prop :=
  match opn with
  | 0 => v = .map (some mb2)
  | 1 => v = .pointer (some ⟨gF, 0, none⟩)
  | 2 => v = encStr n
  | 3 => v = .pointer (some ⟨gF, 1, none⟩)
  | 4 => v = .slice f.A f.n f.c
  | 6 => v = .pointer (some ⟨gF, 2, none⟩)
  | 7 => v = .int .i64 f.kept
  | _ => True

/-- What Load leaves. -/
def LoadRes (B gd m : Nat) (pl : Value) (l : Fs) (w : World) (e : Ending) (w' : World) : Prop :=
  (m ≤ 64 ∧ ∃ gs mb' hs, ldF [] l = some gs ∧ hs.map vF = gs.map vF ∧ e = .returned (.int .i64 0) ∧ DiskAt w' B gd pl mb' hs ∧ Buts [gd] w w') ∨ ((64 < m ∨ ldF [] l = none) ∧ e = .returned (.int .i64 1) ∧ Below w.heap.size w w')
set_option maxRecDepth 100000 in
set_option maxHeartbeats 2000000 in
theorem load_any (w : World) (B gd mb : Nat) (pl : Value) (fs : Fs) (hBw : B ≤ w.heap.size) (hD : DiskAt w B gd pl mb fs) (A : Option Addr) (m c : Nat) (l : Fs) (hl : FlAt w w.heap.size A m l) (hln : ∀ p ∈ l, p.1.length ≤ maxLen) (hm : m ≤ 140737488355328) :
    Calls Try.prog 33 #[ptr gd, .slice A m c] w fun e w' => LoadRes B gd m pl l w e w' := by
  by_cases h64 : 64 < m
  · have hd : decide ((64 : Int) < (m : Int)) = true := by simp; omega
    go_enter Try.func33, Try.ntmps33
    go_wp2_with fail
    refine (made_yes w gd mb pl hD.row).mono ?_
    rintro e w1 ⟨rfl, rfl⟩
    go_wp2_with fail
    go_ret
    exact .inr ⟨.inl h64, rfl, Below.refl _ _⟩
  have hd64 : decide ((64 : Int) < (m : Int)) = false := by simp; omega
  have hm64 : m ≤ 64 := by omega
  have HD := hide hD
  have HL := hide hl
  have hll := hl.1
  have hrow := hD.row
  clear hl hD h64
  go_enter Try.func33, Try.ntmps33
  go_wp2_with fail
  refine (made_yes w gd mb pl hrow).mono ?_
  rintro e w1 ⟨rfl, rfl⟩
  go_wp2_with (first
    | ((with_reducible refine wl_makeMap rfl rfl ?_); intro mb2 wn m2 p2 b2))
  go_loopw [19] (fun iv wr => ∃ (i : Nat) (acc hs : Fs), i ≤ m ∧ iv = .int .i64 i ∧ ldF [] l = ldF acc (l.drop i) ∧ hs.map vF = acc.map vF ∧ hs.length ≤ i ∧ FMap wr mb2 hs ∧ FilesAt wr w.heap.size hs ∧ Below w.heap.size w wr) (fun iv _ => m - (intOf iv).toNat)
  case atStart => exact ⟨0, [], [], by omega, rfl, by simp, rfl, by simp, m2, FilesAt.nil _ _, b2⟩
  case round =>
    clear m2
    obtain ⟨i, acc, hs, hi, rfl, hld, hv, hhl, hM, hF, hB⟩ := hrel
    by_cases hlt : i < m
    · obtain ⟨⟨n, f⟩, hf⟩ : ∃ p, l[i]? = some p := ⟨_, List.getElem?_eq_getElem (by omega)⟩
      have hmem := List.mem_of_getElem? hf
      have hLr := HL.out.below hB
      obtain ⟨bq, oq, rfl, hbq, hcq⟩ := hLr.2.1 (by omega)
      have hcf := hcq i (n, f) hf
      have hy := hLr.2.2 _ hmem
      have hn : n.length ≤ maxLen := hln _ hmem
      rw [ldF_drop hf] at hld
      obtain ⟨f1, hf1⟩ : ∃ f1, (atF hs n).getD zV = f1 := ⟨_, rfl⟩
      obtain ⟨t1, ht1⟩ : ∃ t1, (atF hs n).isSome = t1 := ⟨_, rfl⟩
      have HF1 := hide hf1
      have HT1 := hide ht1
      have c0 := hcf 0 _ rfl
      have c1 := hcf 1 _ rfl
      have c2 := hcf 2 _ rfl
      rw [Nat.add_zero] at c0
      simp only at c0 c1 c2
      have HLD := hide hld
      have HV := hide hv
      have HHL := hide hhl
      have hM0 := hide hM
      have HS := sizeFile
      clear hcq hcf hld hv hf1 hLr hhl hM
      cases t1 with
      | true =>
        go_wp2_with (first
          | ((with_reducible refine wl_alloc rfl 48 _ [.string ByteArray.empty, .slice none 0 0, .int .i64 0] rfl zApi rfl ?_); intro gF w2 r9 p9 l9 b9)
          | ((with_reducible refine wl_store_row rfl 48 (.tmp 7) (.tmp 22) gF 48 _ [encStr n, .slice f.A f.n f.c, .int .i64 f.kept] rfl rfl rfl r9 (szApi n f) rfl (one_api n f) ?_); intro w3 rF o10; have bS := b9.trans (o10.below p9); have cF0 := rF.cell (j := 0) rfl; have hM3 := hM0.out.later bS)
          | (with_reducible refine wl_look2 rfl (.tmp 24) (.tmp 26) n mb2 hs f1 true HF1.out HT1.out rfl rfl rfl hM3 hn ?_)
          | ((with_reducible refine wl_alloc rfl 137 _ [.slice none 0 0, .int .i64 0] rfl zFile rfl ?_); intro gG w4 r4 p4 l4 b4)
          | ((with_reducible refine wl_store_row rfl 137 (.tmp 8) (.tmp 28) gG 137 _ [.slice f1.A f1.n f1.c, .int .i64 f1.kept] rfl rfl rfl r4 (szFile f1) rfl (one_file f1) ?_); intro w5 rG o5; have b5 := b4.trans (o5.below p4)))
        go_ret
        refine .inr ⟨.inr ?_, rfl, hB.trans ((bS.trans (b5.mono bS.size)).mono hB.size)⟩
        rw [HLD.out, ← atF_view_some n HV.out, HT1.out]
        rfl
      | false =>
        go_wp2_with (first
          | ((with_reducible refine wl_alloc rfl 48 _ [.string ByteArray.empty, .slice none 0 0, .int .i64 0] rfl zApi rfl ?_); intro gF w2 r9 p9 l9 b9)
          | ((with_reducible refine wl_store_row rfl 48 (.tmp 7) (.tmp 22) gF 48 _ [encStr n, .slice f.A f.n f.c, .int .i64 f.kept] rfl rfl rfl r9 (szApi n f) rfl (one_api n f) ?_); intro w3 rF o10; have bS := b9.trans (o10.below p9); have cF0 := rF.cell (j := 0) rfl; have hM3 := hM0.out.later bS)
          | (with_reducible refine wl_look2 rfl (.tmp 24) (.tmp 26) n mb2 hs f1 false HF1.out HT1.out rfl rfl rfl hM3 hn ?_)
          | ((with_reducible refine wl_alloc rfl 137 _ [.slice none 0 0, .int .i64 0] rfl zFile rfl ?_); intro gG w4 r4 p4 l4 b4)
          | ((with_reducible refine wl_store_row rfl 137 (.tmp 8) (.tmp 28) gG 137 _ [.slice f1.A f1.n f1.c, .int .i64 f1.kept] rfl rfl rfl r4 (szFile f1) rfl (one_file f1) ?_); intro w5 rG o5; have b5 := b4.trans (o5.below p4); have rF5 := Row.later rF b5; have cG0 := rF5.cell (j := 0) rfl; have cG1 := rF5.cell (j := 1) rfl; have cG2 := rF5.cell (j := 2) rfl))
        refine (mayBe_any (n, f) w5).mono ?_
        rintro e w6 ⟨rfl, b6⟩
        have b16 := bS.trans ((b5.trans (b6.mono b5.size)).mono bS.size)
        have hac : (atF acc n).isSome = false := by rw [← atF_view_some n HV.out, HT1.out]
        cases hmy : mayF (n, f) with
        | false =>
          go_wp2_with fail
          go_ret
          refine .inr ⟨.inr ?_, rfl, hB.trans (b16.mono hB.size)⟩
          rw [HLD.out, hac, hmy]
          rfl
        | true =>
          have hld2 : ldF [] l = ldF (putF acc n f) (l.drop (i + 1)) := by rw [HLD.out, hac, hmy]; rfl
          have rF6 := Row.later rF5 b6
          have hHL2 := hide hld2
          have hmx : f.n ≤ 1048576 ∧ 0 ≤ f.kept ∧ f.kept ≤ f.n := by
            simp [mayF] at hmy
            exact hmy.2
          have hno : (atF hs n).isSome = false := HT1.out
          have b16' := b16
          have hM6 : FMap w6 mb2 hs := hM0.out.later b16
          have hF6 : FilesAt w6 w.heap.size hs := hF.buts (Buts.of b16 []) (fun _ _ _ _ hk => by cases hk)
          have hy6 : Bs w6 w6.heap.size f.A f.n f.xs := (hy.up hB.size).later b16
          have hB6 := hB.trans (b16.mono hB.size)
          have hT6 : w.heap.size ≤ w6.heap.size := hB6.size
          have hmn : f.n ≤ 140737488355328 := Nat.le_trans hmx.1 (by decide)
          have hl6 : hs.length ≤ 64 := Nat.le_trans HHL.out (by omega)
          clear hld2 hac HF1 HLD cG0 cG1 cG2 cF0 c0 c1 c2 hM3
          go_wp2_with fail
          refine wp_region_vals [5, 8, 9] (SLd gF mb2 n f) (JLd w6 f (fun w' => ∃ A' c', FMap w' mb2 (putF hs n ⟨A', f.n, c', f.xs, f.kept⟩) ∧ FilesAt w' w.heap.size (putF hs n ⟨A', f.n, c', f.xs, f.kept⟩) ∧ Below w.heap.size w6 w')) (by kernel_rfl) (by kernel_rfl) (by kernel_rfl) (by kernel_rfl) (by kernel_rfl) (JLd.start _ _ _ _) ?obsE ?heE
          case obsE =>
            refine ⟨?_, ?_, ?_, ?_, ?_, ?_, ?_, ?_, ?_, ?_, trivial⟩
            · exact .inl ⟨by kernel_rfl, fun L a1 w1 n' h => ⟨_, rfl, run_move (.tmp 5) rfl (h.var n' 5 (by kernel_rfl))⟩⟩
            · refine .inl ⟨by kernel_rfl, fun L a1 w1 n' h => ⟨.pointer (some ⟨gF, 0, none⟩), rfl, ?_⟩⟩
              have e0 : a1.eval (.tmp 7) = _ := h.var n' 7 (by kernel_rfl)
              unfold execOp
              simp only [e0]
              go_simp
            · exact .inl ⟨by kernel_rfl, fun L a1 w1 n' h => ⟨_, rfl, run_loadA 9 (.tmp 37) ⟨gF, 0, none⟩ rfl Try.isAgg9 (h.dep n' 1 37 (by kernel_rfl) rfl) ((Row.later rF6 (h.inv.1 ((bits_at rfl).trans (n'.later (by kernel_rfl))))).cell (j := 0) (v := encStr n) rfl)⟩⟩
            · refine .inl ⟨by kernel_rfl, fun L a1 w1 n' h => ⟨.pointer (some ⟨gF, 1, none⟩), rfl, ?_⟩⟩
              have e0 : a1.eval (.tmp 7) = _ := h.var n' 7 (by kernel_rfl)
              unfold execOp
              simp only [e0]
              go_simp
            · exact .inl ⟨by kernel_rfl, fun L a1 w1 n' h => ⟨_, rfl, run_loadA 35 (.tmp 39) ⟨gF, 1, none⟩ rfl Try.isAgg35 (h.dep n' 3 39 (by kernel_rfl) rfl) ((Row.later rF6 (h.inv.1 ((bits_at rfl).trans (n'.later (by kernel_rfl))))).cell (j := 1) (v := .slice f.A f.n f.c) rfl)⟩⟩
            · refine .inr fun L a1 w1 n' h K hK => ?_
              have no8 : L.getD 8 false = false := n'.later (by kernel_rfl)
              have no9 : L.getD 9 false = false := n'.later (by kernel_rfl)
              have b9 := h.inv.1 ((bits_at rfl).trans no9)
              have y0 : a1.eval (.tmp 40) = .slice f.A f.n f.c := h.dep n' 4 40 (by kernel_rfl) rfl
              refine st_call 22 _ _ #[.slice f.A f.n f.c] rfl Try.call22 ?_ (cloneF f.A f.n f.c f.xs w1 (hy6.later b9) hmn) ?_
              · simp only [List.map_toArray, List.map_cons, List.map_nil, y0]
              · rintro e w3 ⟨A3, c3, rfl, own3, b3⟩
                exact ⟨_, rfl, hK _ w3 trivial ⟨fun _ => b9.trans (b3.mono b9.size), fun _ _ => ⟨A3, c3, rfl, own_lo own3 b9.size⟩, fun h0 => absurd (no8.symm.trans h0) (by decide), fun h0 => absurd (no9.symm.trans h0) (by decide)⟩⟩
            · refine .inl ⟨by kernel_rfl, fun L a1 w1 n' h => ⟨.pointer (some ⟨gF, 2, none⟩), rfl, ?_⟩⟩
              have e0 : a1.eval (.tmp 7) = _ := h.var n' 7 (by kernel_rfl)
              unfold execOp
              simp only [e0]
              go_simp
            · exact .inl ⟨by kernel_rfl, fun L a1 w1 n' h => ⟨_, rfl, run_loadA 3 (.tmp 42) ⟨gF, 2, none⟩ rfl Try.isAgg3 (h.dep n' 6 42 (by kernel_rfl) rfl) ((Row.later rF6 (h.inv.1 ((bits_at rfl).trans (n'.later (by kernel_rfl))))).cell (j := 2) (v := .int .i64 f.kept) rfl)⟩⟩
            · refine .inr fun L a1 w1 n' h K hK => ?_
              have yes5 : L.getD 5 false = true := n'.dep (by kernel_rfl)
              have no9 : L.getD 9 false = false := n'.later (by kernel_rfl)
              obtain ⟨A3, c3, ev, own3⟩ := h.inv.2.1 ((bits_at rfl).trans yes5) ((bits_at rfl).trans no9)
              have y1 : a1.eval (.tmp 41) = .slice A3 f.n c3 := ev
              have y2 : a1.eval (.tmp 43) = .int .i64 f.kept := h.dep n' 7 43 (by kernel_rfl) rfl
              have hrun := fun (o : Oper) (ho : o.op = .build 137 [(0, Operand.tmp 41), (1, Operand.tmp 43)].toArray) => run_buildX (P := Try.prog) (o := o) (a := a1) (w := w1) 137 [(0, .tmp 41), (1, .tmp 43)] ho [(0, .slice A3 f.n c3), (1, .int .i64 f.kept)] (by simp only [List.map_cons, List.map_nil]; rw [y1, y2]) _ (builtFile A3 f.n c3 f.kept)
              unfold Oper.wp
              rw [hrun _ rfl]
              exact hK _ w1 trivial ⟨fun h0 => h.inv.1 h0, fun _ _ => ⟨A3, c3, ev, own3⟩, fun _ => ⟨A3, c3, ev, rfl⟩, fun h0 => absurd (no9.symm.trans h0) (by decide)⟩
            · refine .inr fun L a1 w1 n' h K hK => ?_
              have yes5 : L.getD 5 false = true := n'.dep (by kernel_rfl)
              have yes8 : L.getD 8 false = true := n'.dep (by kernel_rfl)
              have no9 : L.getD 9 false = false := n'.not_yet
              have b9 := h.inv.1 ((bits_at rfl).trans no9)
              obtain ⟨A3, c3, ev, own3⟩ := h.inv.2.1 ((bits_at rfl).trans yes5) ((bits_at rfl).trans no9)
              obtain ⟨A4, c4, ev4, eu4⟩ := h.inv.2.2.1 ((bits_at rfl).trans yes8)
              have e9 := ev.symm.trans ev4
              injection e9 with q1 q2 q3
              have y2 : a1.eval (.tmp 44) = (FV.mk A3 f.n c3 f.xs f.kept).val := by
                refine Eq.trans (show a1.eval (.tmp 44) = _ from eu4) ?_
                rw [← q1, ← q3]
              have hM1 : FMap w1 mb2 hs := hM6.later b9
              have ho1 : OwnF w1 w.heap.size (FV.mk A3 f.n c3 f.xs f.kept) := own_lo own3 hT6
              have hF1 := (hF6.buts (Buts.of b9 []) (fun _ _ _ _ hk => by cases hk)).put (n := n) ho1 ⟨hmx.2.1, hmx.2.2, hmx.1⟩ (fun p hp _ k hk hk2 => by
                have := (owf_lo (hF6.own p hp) k hk).2.1
                have := (owf_lo (f := FV.mk A3 f.n c3 f.xs f.kept) own3 k hk2).1
                omega)
              refine st_put (.tmp 36) (.tmp 38) (.tmp 44) (FV.mk A3 f.n c3 f.xs f.kept).val rfl (h.dep n' 0 36 (by kernel_rfl) rfl) (h.dep n' 2 38 (by kernel_rfl) rfl) y2 hM1 hn (lenE hl6) ?_
              intro w3 m3 o3
              have hM3 : FMap w3 mb2 (putF hs n ⟨A3, f.n, c3, f.xs, f.kept⟩) := by
                show MapAt w3 mb2 (ents _)
                rw [ents_put]
                exact m3
              exact hK undef w3 trivial ⟨fun h0 => absurd (show true = false from h0) (by decide), fun _ h0 => absurd (show true = false from h0) (by decide), fun _ => ⟨A4, c4, ev4, eu4⟩, fun _ => ⟨A3, c3, hM3, hF1.buts (Buts.only (S := [mb2]) o3 (List.mem_singleton.2 rfl)) (fun p hp k hk hk2 => owf_not_map (hF1.own p hp) hM1 (List.mem_singleton.1 hk2 ▸ hk)), (b9.mono hT6).trans (o3.below p2)⟩⟩
          case heE =>
            intro V w9 hV hJ
            obtain ⟨A', c', hM9, hF9, b9⟩ := hJ.2.2.2 rfl
            clear hV hJ
            simp only [putOps, List.setIfInBounds_toArray, List.set_cons_succ, List.set_cons_zero, Nat.reduceAdd]
            have hB9 := hB6.trans b9
            have hv9 : (putF hs n ⟨A', f.n, c', f.xs, f.kept⟩).map vF = (putF acc n f).map vF := putF_view n HV.out rfl
            have hl9 : (putF hs n ⟨A', f.n, c', f.xs, f.kept⟩).length ≤ i + 1 := Nat.le_trans (put_len _ _ _) (by have := HHL.out; omega)
            clear hM6 hF6 hy6 hB6 hT6 b9
            go_wp2_with fail
            go_roundw
            case rel => exact ⟨i + 1, putF acc n f, putF hs n ⟨A', f.n, c', f.xs, f.kept⟩, by omega, by go_num, hHL2.out, hv9, hl9, hM9, hF9, hB9⟩
            case measure => simp [intOf]; omega
    · obtain rfl : i = m := by omega
      have hres : ldF [] l = some acc := by
        rw [hld, List.drop_eq_nil_of_le (by omega)]
        rfl
      have hRr := Row.later hrow hB
      have HV := hide hv
      have HHL := hide hhl
      have HRS := hide hres
      clear hld hv hhl hres
      go_wp2_with (first
        | (with_reducible refine wl_store rfl 70 (.tmp 49) (.tmp 47) gd 1 72 [pl, .map (some mb)] (.map (some mb2)) rfl szMp rfl rfl hRr (lt2 _ _ (by decide)) rfl ?_; intro w2 r2 o2))
      go_ret
      have hD := HD.out
      have hgm : mb2 ≠ gd := hM.ne_row hRr
      refine .inl ⟨hm64, acc, mb2, hs, HRS.out, HV.out, rfl, ⟨r2, ⟨hD.lo.1, Nat.le_trans hBw p2⟩, MapAt.only hM o2 hgm, ?_, Nat.le_trans HHL.out hm64⟩, ?_⟩
      · have hF2 := hF.buts (Buts.only (S := [gd]) o2 (List.mem_singleton.2 rfl)) (fun p hp k hk hk2 => owf_not_row (hF.own p hp) hRr (by decide) (List.mem_singleton.1 hk2 ▸ hk))
        exact ⟨fun p hp => own_lo (hF2.own p hp) hBw, hF2.bd, hF2.apart⟩
      · exact (Buts.of hB _).trans (Buts.only o2 (List.mem_singleton.2 rfl))
end Go.Proofs.Ytfijhfolanhifaa

/-
  The disk: Edit's errors; the document's Find. Own work.
-/
namespace Go.Proofs.Ytfijhfolanhifaa
open Go.RowKit Go.Maps Go.ChangeMaps
set_option maxRecDepth 100000 in
theorem edit_arg (w : World) (gd mb : Nat) (pl : Value) (n : Nm) (A : Option Addr) (m c : Nat) (hr : DRow w gd pl (.map (some mb))) (hbad : (okN n && decide (m ≤ 1048576)) = false) :
    Calls Try.prog 41 #[ptr gd, encStr n, .slice A m c] w fun e w' => e = .returned (.int .i64 1) ∧ w = w' := by
  go_enter Try.func41, Try.ntmps41
  go_wp2_with fail
  refine (made_yes w gd mb pl hr).mono ?_
  rintro e w1 ⟨rfl, rfl⟩
  go_wp2_with fail
  refine (named_any n w).mono ?_
  rintro e w1 ⟨rfl, rfl⟩
  cases hq : okN n with
  | false =>
    go_wp2_with fail
    go_ret
    exact ⟨rfl, rfl⟩
  | true =>
    have hd : decide ((1048576 : Int) < (m : Int)) = true := by
      rw [hq] at hbad
      simp at hbad ⊢
      omega
    go_wp2_with fail
    go_ret
    exact ⟨rfl, rfl⟩
end Go.Proofs.Ytfijhfolanhifaa

/-
  The document's disk: Find. Own work.
-/
namespace Go.Proofs.Ytfijhfolanhifaa
open Go.RowKit Go.Maps Go.ChangeMaps
/-- The document's disk: its power, its list. -/
abbrev RDk (w : World) (gr : Nat) (pv : Value) (A : Option Addr) (m c : Nat) : Prop := Row w 34 gr [pv, .slice A m c]
theorem eql_nm (w : World) (n : Nm) : (binOp .eql 9 (encStr n) (encStr n)).run Try.prog w = .ok (.bool true) w := by
  simp [encStr]
  go_simp
theorem eql_nm_no (w : World) {a b : Nm} (h : a ≠ b) : (binOp .eql 9 (encStr a) (encStr b)).run Try.prog w = .ok (.bool false) w := by
  have hne : (⟨a.toArray⟩ : ByteArray) ≠ ⟨b.toArray⟩ := fun e => h (by
    have := congrArg (fun x : ByteArray => x.data.toList) e
    simpa using this)
  simp [encStr]
  go_simp
/-- The place of a name. -/
def idxF (fs : Fs) (n : Nm) : Int := match fs.findIdx? (fun p => p.1 == n) with | some i => i | none => -1
theorem idxF_at {fs : Fs} {n : Nm} {i : Nat} {p : Nm × FV} (h : ∀ j q, j < i → fs[j]? = some q → q.1 ≠ n) (hi : fs[i]? = some p) (hp : p.1 = n) : idxF fs n = i := by
  have hlt := (List.getElem?_eq_some_iff.1 hi).1
  have : fs.findIdx? (fun p => p.1 == n) = some i := by
    rw [List.findIdx?_eq_some_iff_getElem]
    refine ⟨hlt, ?_, fun j hj => ?_⟩
    · rw [(List.getElem?_eq_some_iff.1 hi).2, hp]; simp
    · have := h j _ hj (List.getElem?_eq_getElem (by omega))
      simpa using this
  unfold idxF
  rw [this]
theorem idxF_none {fs : Fs} {n : Nm} (h : ∀ j q, j < fs.length → fs[j]? = some q → q.1 ≠ n) : idxF fs n = -1 := by
  have : fs.findIdx? (fun p => p.1 == n) = none := by
    rw [List.findIdx?_eq_none_iff]
    intro p hp
    obtain ⟨j, hj, e⟩ := List.getElem_of_mem hp
    have := h j p hj (by rw [List.getElem?_eq_getElem hj, e])
    simpa using this
  unfold idxF
  rw [this]
set_option maxRecDepth 100000 in
set_option maxHeartbeats 1000000 in
theorem rfindD_any (w : World) (B gr : Nat) (pv : Value) (A : Option Addr) (m c : Nat) (fs : Fs) (n : Nm) (hr : RDk w gr pv A m c) (hB : B ≤ w.heap.size) (hl : FlAt w B A m fs) (hm : m ≤ 140737488355328) :
    Calls Try.prog 112 #[ptr gr, encStr n] w fun e w' => e = .returned (.int .i64 (idxF fs n)) ∧ Below w.heap.size w w' := by
  have HL := hide hl
  have hll := hl.1
  have k0 := hr.cell (j := 1) rfl
  clear hl
  go_enter Try.func112, Try.ntmps112
  go_wp2_with fail
  go_loopw [5] (fun iv wr => ∃ i : Nat, i ≤ m ∧ iv = .int .i64 i ∧ Below w.heap.size w wr ∧ Hid (∀ j q, j < i → fs[j]? = some q → q.1 ≠ n)) (fun iv _ => m - (intOf iv).toNat)
  case atStart => exact ⟨0, by omega, rfl, Below.refl _ _, hide (fun j q hj => by omega)⟩
  case round =>
    obtain ⟨i, hi, rfl, bW, hno⟩ := hrel
    have k1 := (Row.later hr bW).cell (j := 1) rfl
    by_cases hlt : i < m
    · obtain ⟨p, hp⟩ : ∃ p, fs[i]? = some p := ⟨_, List.getElem?_eq_getElem (by omega)⟩
      obtain ⟨b, o, rfl, hb, hc⟩ := (HL.out.below (bW.mono hB)).2.1 (by omega)
      have c0 := hc i p hp 0 _ rfl
      rw [Nat.add_zero] at c0
      have HS := sizeFile
      have HP := hide hp
      clear hc hp
      by_cases hpn : p.1 = n
      · have HQ := fun w => eql_nm w n
        have hx := hide (idxF_at hno.out HP.out hpn)
        rw [hpn] at c0
        go_wp2_with fail
        go_ret
        exact ⟨by rw [hx.out]; rfl, bW⟩
      · have HQ : (p.1 == n) = false := by simpa using hpn
        have hnx := hide (fun j q (hj : j < i + 1) (hq : fs[j]? = some q) => show q.1 ≠ n from by
          rcases Nat.lt_or_ge j i with h | h
          · exact hno.out j q h hq
          · obtain rfl : j = i := by omega
            have := hq.symm.trans HP.out
            simp at this
            rw [this]
            exact hpn)
        clear hpn
        go_wp2_with fail
        go_roundw
        case rel => exact ⟨i + 1, by omega, by go_num, bW, hnx⟩
        case measure => simp [intOf]; omega
    · obtain rfl : i = m := by omega
      have hx := hide (idxF_none (fs := fs) (n := n) (by rw [hll]; exact hno.out))
      go_wp2_with fail
      go_ret
      exact ⟨by rw [hx.out]; rfl, bW⟩
end Go.Proofs.Ytfijhfolanhifaa

/-
  Names held against each other by order. Own work.
-/
namespace Go.Proofs.Ytfijhfolanhifaa
open Go.RowKit Go.Maps Go.ChangeMaps
theorem less_before : ∀ a b : List UInt8, Op.bytesLess a b = bytesBefore a b
  | [], [] => rfl
  | [], _ :: _ => rfl
  | _ :: _, [] => rfl
  | x :: r, y :: s => by
    have ih := less_before r s
    simp [Op.bytesLess, bytesBefore, ih]
theorem toList_enc (a : Nm) : (⟨a.toArray⟩ : ByteArray).toList = a := by
  rw [Lib.toList_data]
/-- Is a name not behind another? -/
def leN (a b : Nm) : Bool := bytesBefore a b || a == b
theorem le_nm (w : World) (a b : Nm) : (binOp .leq 9 (encStr a) (encStr b)).run Try.prog w = .ok (.bool (leN a b)) w := by
  simp [encStr, binOp, Op.stringOp, less_before, toList_enc, leN]
end Go.Proofs.Ytfijhfolanhifaa

/-
  The document's disk: put, as lists. Own work.
-/
namespace Go.Proofs.Ytfijhfolanhifaa
open Go.RowKit Go.Maps Go.ChangeMaps
/-- One step of put: is it laid, what is there. -/
def stepP (n : Nm) (f : FV) (st : Bool × Fs) (p : Nm × FV) : Bool × Fs :=
  let s1 : Bool × Fs := bif !st.1 && leN n p.1 then (true, st.2 ++ [(n, f)]) else st
  bif p.1 == n then s1 else (s1.1, s1.2 ++ [p])
def endP (n : Nm) (f : FV) (st : Bool × Fs) : Fs := bif st.1 then st.2 else st.2 ++ [(n, f)]
theorem leN_self (n : Nm) : leN n n = true := by unfold leN; simp
theorem fold_laid (n : Nm) (f : FV) : ∀ (l acc : Fs), l.foldl (stepP n f) (true, acc) = (true, acc ++ delF l n)
  | [], acc => by simp [delF]
  | p :: r, acc => by
    rw [List.foldl_cons]
    cases h : p.1 == n with
    | true =>
      rw [show stepP n f (true, acc) p = (true, acc) by simp [stepP, h], fold_laid n f r acc]
      rw [show delF (p :: r) n = delF r n by simp [delF, h]]
    | false =>
      rw [show stepP n f (true, acc) p = (true, acc ++ [p]) by simp [stepP, h], fold_laid n f r]
      rw [show delF (p :: r) n = p :: delF r n by simp [delF, h], List.append_assoc]
      rfl
theorem ins_head (n : Nm) (f : FV) : ∀ (D : Fs), (∀ q ∈ D, bytesBefore n q.1 = true) → insF (n, f) D = (n, f) :: D
  | [], _ => rfl
  | q :: r, h => by unfold insF; rw [if_pos (h q (by simp))]
theorem before_trans : ∀ {a b c : Nm}, bytesBefore a b = true → bytesBefore b c = true → bytesBefore a c = true
  | [], [], _, h, _ => by simp [bytesBefore] at h
  | [], _ :: _, [], _, k => by simp [bytesBefore] at k
  | [], _ :: _, _ :: _, _, _ => by simp [bytesBefore]
  | _ :: _, [], _, h, _ => by simp [bytesBefore] at h
  | _ :: _, _ :: _, [], _, k => by simp [bytesBefore] at k
  | x :: r, y :: s, z :: t, h, k => by
    simp only [bytesBefore, Bool.or_eq_true, Bool.and_eq_true, decide_eq_true_eq, beq_iff_eq] at h k ⊢
    rcases h with h | ⟨rfl, h⟩
    · rcases k with k | ⟨rfl, k⟩
      · exact .inl (UInt8.lt_trans h k)
      · exact .inl h
    · rcases k with k | ⟨rfl, k⟩
      · exact .inl k
      · exact .inr ⟨rfl, before_trans h k⟩
theorem fold_put (n : Nm) (f : FV) : ∀ (l acc : Fs), riseF l → endP n f (l.foldl (stepP n f) (false, acc)) = acc ++ putF l n f
  | [], acc, _ => by simp [endP, putF, delF, insF]
  | p :: r, acc, hr => by
    obtain ⟨hp, hr2⟩ := List.pairwise_cons.1 hr
    rw [List.foldl_cons]
    cases hle : leN n p.1 with
    | true =>
      have hafter : ∀ q ∈ r, bytesBefore n q.1 = true := by
        intro q hq
        unfold leN at hle
        rw [Bool.or_eq_true] at hle
        rcases hle with h | h
        · exact before_trans h (hp q hq)
        · rw [show n = p.1 by simpa using h]; exact hp q hq
      cases h : p.1 == n with
      | true =>
        rw [show stepP n f (false, acc) p = (true, acc ++ [(n, f)]) by simp [stepP, h, hle], fold_laid]
        show acc ++ [(n, f)] ++ delF r n = acc ++ insF (n, f) (delF (p :: r) n)
        rw [show delF (p :: r) n = delF r n by simp [delF, h], ins_head n f (delF r n) (fun q hq => hafter q (List.mem_filter.1 hq).1), List.append_assoc]
        rfl
      | false =>
        have hb : bytesBefore n p.1 = true := by
          unfold leN at hle
          rw [Bool.or_eq_true] at hle
          rcases hle with h1 | h1
          · exact h1
          · have : n = p.1 := by simpa using h1
            rw [this] at h
            simp at h
        rw [show stepP n f (false, acc) p = (true, acc ++ [(n, f)] ++ [p]) by simp [stepP, h, hle], fold_laid]
        show acc ++ [(n, f)] ++ [p] ++ delF r n = acc ++ insF (n, f) (delF (p :: r) n)
        rw [show delF (p :: r) n = p :: delF r n by simp [delF, h]]
        rw [ins_head n f (p :: delF r n) (fun q hq => by
          rcases List.mem_cons.1 hq with rfl | hq
          · exact hb
          · exact hafter q (List.mem_filter.1 hq).1)]
        simp
    | false =>
      have hnb : bytesBefore n p.1 = false ∧ (n == p.1) = false := by
        unfold leN at hle
        simpa using hle
      have h : (p.1 == n) = false := by
        have h2 := hnb.2
        simp at h2 ⊢
        exact fun e => h2 e.symm
      rw [show stepP n f (false, acc) p = (false, acc ++ [p]) by simp [stepP, h, hle], fold_put n f r _ hr2]
      show acc ++ [p] ++ insF (n, f) (delF r n) = acc ++ insF (n, f) (delF (p :: r) n)
      rw [show delF (p :: r) n = p :: delF r n by simp [delF, h]]
      rw [show insF (n, f) (p :: delF r n) = p :: insF (n, f) (delF r n) by rw [insF, hnb.1]; rfl]
      simp
theorem fold_len (n : Nm) (f : FV) : ∀ (l : Fs) (st : Bool × Fs), (l.foldl (stepP n f) st).2.length ≤ st.2.length + (bif st.1 then 0 else 1) + l.length
  | [], st => by simp
  | p :: r, st => by
    rw [List.foldl_cons]
    refine Nat.le_trans (fold_len n f r _) ?_
    obtain ⟨b, acc⟩ := st
    cases b <;> cases hle : leN n p.1 <;> cases h : p.1 == n <;> simp [stepP, hle, h] <;> omega
theorem fold_snoc (n : Nm) (f : FV) {l : Fs} {i : Nat} {p : Nm × FV} (h : l[i]? = some p) : (l.take (i + 1)).foldl (stepP n f) (false, []) = stepP n f ((l.take i).foldl (stepP n f) (false, [])) p := by
  obtain ⟨hi, rfl⟩ := List.getElem?_eq_some_iff.1 h
  rw [List.take_succ_eq_append_getElem hi, List.foldl_append]
  rfl
end Go.Proofs.Ytfijhfolanhifaa

/-
  The document's disk: put. Own work.
-/
namespace Go.Proofs.Ytfijhfolanhifaa
open Go.RowKit Go.Maps Go.ChangeMaps
/-- A list of files whose row is one's own (from T on); the files' bytes lie below B. -/
structure LstAt (w : World) (B T : Nat) (v : Value) (fs : Fs) : Prop where
  row : w.ownsRow T 48 3 v fs.length (cellsL fs)
  bs : ∀ p ∈ fs, Bs w B p.2.A p.2.n p.2.xs
theorem LstAt.nil (w : World) (B T : Nat) : LstAt w B T (.slice none 0 0) [] := ⟨World.ownsRow_nil _ _ _ _, fun p hp => by cases hp⟩
theorem LstAt.fl {w : World} {B T : Nat} {v : Value} {fs : Fs} (h : LstAt w B T v fs) (hB : B ≤ w.heap.size) : ∃ A c, v = .slice A fs.length c ∧ FlAt w w.heap.size A fs.length fs ∧ (∀ x, A = some x → T ≤ x.block) := by
  rcases h.row.2 with ⟨rfl, h0⟩ | ⟨g, cap, cur, rfl, hTg, hg, h1, h2, h3, h4⟩
  · exact ⟨none, 0, by rw [h0], ⟨rfl, fun hp => by omega, fun p hp => (h.bs p hp).up hB⟩, fun x hx => by cases hx⟩
  · refine ⟨_, cap, rfl, ⟨rfl, fun hp => ⟨g, 0, rfl, (Array.getElem?_eq_some_iff.1 hg).1, fun i p hi j v hv => ?_⟩, fun p hp => (h.bs p hp).up hB⟩, fun x hx => by injection hx with hx; subst hx; exact hTg⟩
    have hj : j < 3 := (List.getElem?_eq_some_iff.1 hv).1
    have hil : i < fs.length := (List.getElem?_eq_some_iff.1 hi).1
    have e : (cur.toList.take (fs.length * 3))[i * 3 + j]? = (cellsL fs)[i * 3 + j]? := by rw [h4]
    rw [cellsL_at fs i p j v hi hv, List.getElem?_take, if_pos (by omega)] at e
    rw [Nat.zero_add, cell_of_row w g _ cur _ (0, 0) hg, ← Array.getElem?_toList]
    exact e
theorem LstAt.later {w w' : World} {B T : Nat} {v : Value} {fs : Fs} (h : LstAt w B T v fs) (hB : B ≤ w.heap.size) (hb : Below w.heap.size w w') : LstAt w' B T v fs :=
  ⟨⟨h.row.1, h.row.2.imp id fun ⟨g, cap, cur, e1, h1, hg, h2⟩ => ⟨g, cap, cur, e1, h1, (hb.block g (Array.getElem?_eq_some_iff.1 hg).1).trans hg, h2⟩⟩, fun p hp => (h.bs p hp).below (hb.mono hB)⟩
theorem LstAt.lo {w : World} {B T T' : Nat} {v : Value} {fs : Fs} (h : LstAt w B T v fs) (hT : T' ≤ T) : LstAt w B T' v fs :=
  ⟨⟨h.row.1, h.row.2.imp id fun ⟨g, cap, cur, e1, h1, h2⟩ => ⟨g, cap, cur, e1, Nat.le_trans hT h1, h2⟩⟩, h.bs⟩
theorem LstAt.push {w w' : World} {B T : Nat} {v v' : Value} {fs : Fs} {p : Nm × FV} (h : LstAt w B T v fs) (hB : B ≤ T) (hBw : B ≤ w.heap.size) (hp : Bs w B p.2.A p.2.n p.2.xs) (hr : w'.ownsRow T 48 3 v' (fs.length + 1) (cellsL fs ++ fcs p)) (hg : w.grownBy w' v.ownBlock) : LstAt w' B T v' (fs ++ [p]) := by
  have hb : Below B w w' := (Below.refl B w).grown hg hBw fun k hk => Nat.le_trans hB (h.row.lt k hk).1
  refine ⟨?_, fun q hq => ?_⟩
  · rw [cellsL_app, List.length_append]
    show w'.ownsRow T _ 3 v' (fs.length + 1) (cellsL fs ++ cellsL [p])
    rw [show cellsL [p] = fcs p by simp [cellsL]]
    exact hr
  · rcases List.mem_append.1 hq with hq | hq
    · exact (h.bs q hq).below hb
    · obtain rfl := List.mem_singleton.1 hq
      exact hp.below hb
theorem wl_build1S {P : Program} {ops : Array Oper} {rest : List Oper} {o : Oper} {a : Act} {w : World} {Q : Exit → Act → World → Prop} (hgd : o.guard = none) (t : TypeId) (x : Operand) (ho : o.op = .buildSlice t 1 #[(0, x)]) (e : TypeId) (i : TypeInfo) (z1 z2 z3 v1 v2 v3 : Value) (ht : P.underlying t = some (.slice e)) (hi : P.info? e = some i) (hz : i.zero = some (.agg #[z1, z2, z3])) (hsz : i.size = 3) (hx : a.eval x = .agg #[v1, v2, v3])
    (hk : ∀ g w', Row w' e g [v1, v2, v3] → w.heap.size ≤ g → g < w'.heap.size → Below w.heap.size w w' → wpList P ops Q rest (a.put o.dst (.slice (some ⟨g, 0, none⟩) 1 1)) w') : wpList P ops Q (o :: rest) a w :=
  wpList_plain hgd fun K hK => st_build1S t x ho e i z1 z2 z3 v1 v2 v3 ht hi hz hsz hx fun g w' h1 h2 h3 h4 => hK _ _ (hk g w' h1 h2 h3 h4)
theorem neq_dec (w : World) (a b : Nm) : (binOp .neq 9 (encStr a) (encStr b)).run Try.prog w = .ok (.bool (!(a == b))) w := by
  by_cases h : a = b
  · subst h
    rw [neq_nm]; simp
  · have hne : (⟨a.toArray⟩ : ByteArray) ≠ ⟨b.toArray⟩ := fun e => h (by
      have := congrArg (fun x : ByteArray => x.data.toList) e
      simpa using this)
    rw [show (a == b) = false by simpa using h]
    simp [encStr]
    go_simp
theorem push_facts {w wb x : World} {B T : Nat} {v v' : Value} {fs : Fs} {p : Nm × FV} (hO : LstAt wb B T v fs) (hB : B ≤ T) (hTw : T ≤ wb.heap.size) (hp : Bs wb B p.2.A p.2.n p.2.xs) (hr : x.ownsRow T 48 3 v' (fs.length + 1) (cellsL fs ++ [encStr p.1, .slice p.2.A p.2.n p.2.c, .int .i64 p.2.kept])) (hg : wb.grownBy x v.ownBlock) (hw : Below T w wb) :
    LstAt x B T v' (fs ++ [p]) ∧ Below T w x := by
  refine ⟨hO.push hB (Nat.le_trans hB hTw) hp hr hg, hw.grown hg hTw fun k hk => (hO.row.lt k hk).1⟩
set_option maxRecDepth 100000 in
set_option maxHeartbeats 4000000 in
theorem rput_any (w : World) (B : Nat) (A : Option Addr) (m c : Nat) (fs : Fs) (n : Nm) (f : FV) (hBw : B ≤ w.heap.size) (hl : FlAt w w.heap.size A m fs) (hlb : ∀ p ∈ fs, Bs w B p.2.A p.2.n p.2.xs) (hy : Bs w B f.A f.n f.xs) (hm : m ≤ 200) (hr : riseF fs) :
    Calls Try.prog 88 #[.slice A m c, .agg #[encStr n, .slice f.A f.n f.c, .int .i64 f.kept]] w fun e w' => ∃ v, e = .returned v ∧ LstAt w' B w.heap.size v (putF fs n f) ∧ Below w.heap.size w w' := by
  have HL := hide hl
  have hll := hl.1
  obtain ⟨ip, hip, hpz, hps, hpb⟩ := file_info
  have hfold := fold_put n f fs [] hr
  rw [List.nil_append] at hfold
  have HF := hide hfold
  have HLb := hide hlb
  have zs3 : (Value.agg #[.string ByteArray.empty, .slice none 0 0, .int .i64 0]).cells.size = 3 := rfl
  have h03 : 0 < 3 := by decide
  have hl3 : ∀ (n : Nm) (f : FV), ([encStr n, .slice f.A f.n f.c, .int .i64 f.kept] : List Value).length = 1 * 3 := fun _ _ => rfl
  have hmA : ∀ k, k ≤ 1000 → k + 1 ≤ maxLen := fun k hk => by simp only [maxLen]; omega
  have hmB : ∀ k, k ≤ 1000 → (k + 1) * 48 ≤ 140737488355328 := fun k hk => by omega
  clear hl hlb hr hfold
  go_enter Try.func88, Try.ntmps88
  go_wp2_with (first
    | ((with_reducible refine wl_box rfl 48 _ _ [encStr n, .slice f.A f.n f.c, .int .i64 f.kept] rfl rfl rfl ?_); intro gF w1 rF pF lF bF))
  have hTw1 : w.heap.size ≤ w1.heap.size := bF.size
  have hBT : B ≤ w1.heap.size := Nat.le_trans hBw hTw1
  go_loopw [5, 6, 7] (fun lv dv iv wr => ∃ (i : Nat) (laid : Bool) (out : Fs), i ≤ m ∧ iv = .int .i64 i ∧ dv = .bool laid ∧ (fs.take i).foldl (stepP n f) (false, []) = (laid, out) ∧ LstAt wr B w1.heap.size lv out ∧ Below w1.heap.size w1 wr) (fun _ _ iv _ => m - (intOf iv).toNat)
  case atStart => exact ⟨0, false, [], Nat.zero_le _, rfl, rfl, rfl, LstAt.nil _ _ _, Below.refl _ _⟩
  case round =>
    obtain ⟨i, laid, out, hi, rfl, rfl, hst, hO, bW⟩ := hrel
    have hol : out.length ≤ 1 + i := by
      have := fold_len n f (fs.take i) (false, [])
      rw [hst, List.length_take] at this
      simp at this
      omega
    have hO1 : out.length ≤ 1000 := by omega
    by_cases hlt : i < m
    · obtain ⟨p, hp⟩ : ∃ p, fs[i]? = some p := ⟨_, List.getElem?_eq_getElem (by omega)⟩
      have hsn := fold_snoc n f hp
      rw [hst] at hsn
      obtain ⟨b, o, rfl, hb, hcw0⟩ := HL.out.2.1 (by omega)
      have hcw := hcw0 i p hp
      have hpb := HLb.out p (List.mem_of_getElem? hp)
      obtain ⟨n', f'⟩ := p
      have HC : ∀ X, Below w1.heap.size w1 X → ∀ j v, ([encStr n', .slice f'.A f'.n f'.c, .int .i64 f'.kept] : List Value)[j]? = some v → X.cell? ⟨b, o + i * 3 + j, none⟩ = some v := fun X hX j v hv => ((bF.trans (hX.mono bF.size)).cell (p := ⟨b, o + i * 3 + j, none⟩) hb).trans (hcw j v hv)
      have HY : ∀ X, Below w1.heap.size w1 X → Bs X B f.A f.n f.xs := fun X hX => hy.below ((bF.trans (hX.mono bF.size)).mono hBw)
      have HP : ∀ X, Below w1.heap.size w1 X → Bs X B f'.A f'.n f'.xs := fun X hX => hpb.below ((bF.trans (hX.mono bF.size)).mono hBw)
      have HS := sizeFile
      have hd1 : decide ((i : Int) < (m : Int)) = true := by simp; omega
      clear hcw hcw0 hpb hp HL HLb HF
      cases laid with
      | true =>
        have hle : True := trivial
        cases heq : n' == n with
        | true =>
          have HNE : ∀ w, (binOp .neq 9 (encStr n') (encStr n)).run Try.prog w = .ok (.bool false) w := fun w => by rw [neq_dec, heq]; rfl
          have hs9 : (fs.take (i + 1)).foldl (stepP n f) (false, []) = (true, out) := by rw [hsn]; simp [stepP, hle, heq]
          have HS9 := hide hs9
          clear hs9 hsn hst hle
          have c0 := HC wr bW 0 _ rfl
          rw [Nat.add_zero] at c0
          try simp only at c0
          have cF0 := (Row.later rF bW).cell (j := 0) rfl
          go_wp2_with fail
          go_quiet (fail)
          obtain ⟨wq1, hwq⟩ : ∃ wq, wq = (wr).drewN nq := ⟨_, rfl⟩
          have bqwq1 : Below (wr).heap.size wr wq1 := by rw [hwq]; exact below_drewn (Below.refl _ _) nq
          rw [← hwq]
          clear hwq nq c0 cF0
          have Bwq1 := (bW).trans (bqwq1.mono (bW).size)
          have Owq1 := LstAt.later hO (Nat.le_trans hBT (bW).size) bqwq1
          have c0 := HC wq1 Bwq1 0 _ rfl
          rw [Nat.add_zero] at c0
          try simp only at c0
          have cF0 := (Row.later rF Bwq1).cell (j := 0) rfl
          go_wp2_with fail
          go_quiet (fail)
          obtain ⟨wq2, hwq⟩ : ∃ wq, wq = (wq1).drewN nq := ⟨_, rfl⟩
          have bqwq2 : Below (wq1).heap.size wq1 wq2 := by rw [hwq]; exact below_drewn (Below.refl _ _) nq
          rw [← hwq]
          clear hwq nq c0 cF0
          have Bwq2 := (Bwq1).trans (bqwq2.mono (Bwq1).size)
          have Owq2 := LstAt.later Owq1 (Nat.le_trans hBT (Bwq1).size) bqwq2
          go_wp2_with fail
          go_roundw
          case rel => exact ⟨i + 1, true, out, by omega, by go_num, rfl, HS9.out, Owq2, Bwq2⟩
          case measure => simp [intOf]; omega
        | false =>
          have HNE : ∀ w, (binOp .neq 9 (encStr n') (encStr n)).run Try.prog w = .ok (.bool true) w := fun w => by rw [neq_dec, heq]; rfl
          have hs9 : (fs.take (i + 1)).foldl (stepP n f) (false, []) = (true, (out ++ [(n', f')])) := by rw [hsn]; simp [stepP, hle, heq]
          have HS9 := hide hs9
          clear hs9 hsn hst hle
          have c0 := HC wr bW 0 _ rfl
          rw [Nat.add_zero] at c0
          try simp only at c0
          have cF0 := (Row.later rF bW).cell (j := 0) rfl
          go_wp2_with fail
          go_quiet (fail)
          obtain ⟨wq1, hwq⟩ : ∃ wq, wq = (wr).drewN nq := ⟨_, rfl⟩
          have bqwq1 : Below (wr).heap.size wr wq1 := by rw [hwq]; exact below_drewn (Below.refl _ _) nq
          rw [← hwq]
          clear hwq nq c0 cF0
          have Bwq1 := (bW).trans (bqwq1.mono (bW).size)
          have Owq1 := LstAt.later hO (Nat.le_trans hBT (bW).size) bqwq1
          have c0 := HC wq1 Bwq1 0 _ rfl
          rw [Nat.add_zero] at c0
          try simp only at c0
          have cF0 := (Row.later rF Bwq1).cell (j := 0) rfl
          go_wp2_with fail
          go_quiet (fail)
          obtain ⟨wq2, hwq⟩ : ∃ wq, wq = (wq1).drewN nq := ⟨_, rfl⟩
          have bqwq2 : Below (wq1).heap.size wq1 wq2 := by rw [hwq]; exact below_drewn (Below.refl _ _) nq
          rw [← hwq]
          clear hwq nq c0 cF0
          have Bwq2 := (Bwq1).trans (bqwq2.mono (Bwq1).size)
          have Owq2 := LstAt.later Owq1 (Nat.le_trans hBT (Bwq1).size) bqwq2
          have rF8 := Row.later rF Bwq2
          have hC8 := HC wq2 Bwq2
          have hT8 : w1.heap.size ≤ (wq2).heap.size := (Bwq2).size
          go_wp2_with (first
            | (with_reducible refine wl_load_cells (o := ⟨some 42, _, _, _, _, _⟩) rfl 48 (.tmp 41) b (o + i * 3) [encStr n', .slice f'.A f'.n f'.c, .int .i64 f'.kept] _ rfl rfl hC8 Try.underlying48 rfl (szApi n' f') ?_)
            | ((with_reducible refine wl_build1S (o := ⟨some 43, _, _, _, _, _⟩) rfl 32 (.tmp 42) rfl 48 ip _ _ _ (encStr n') (.slice f'.A f'.n f'.c) (.int .i64 f'.kept) Try.underlying32 hip hpz hps rfl ?_); intro g8 w8 r8 p8 l8 b8; have O8 := LstAt.later Owq2 (Nat.le_trans hBT hT8) b8; have hU8 := Nat.le_trans hT8 b8.size)
            | ((at_builtin; with_reducible refine wl_append_at (o := ⟨some 44, _, _, _, _, _⟩) rfl (.tmp 38) (.tmp 43) 32 rfl w1.heap.size 48 ip (.agg #[.string ByteArray.empty, .slice none 0 0, .int .i64 0]) 3 48 Try.underlying32 hip hpz hps hpb zs3 h03 u5 (out).length _ rfl O8.row ⟨g8, 0, none⟩ 1 1 [encStr n', .slice f'.A f'.n f'.c, .int .i64 f'.kept] rfl (hl3 n' f') (row_src r8) (one_api n' f') (hmA (out).length (by first | exact hO1 | (simp; omega))) (hmB (out).length (by first | exact hO1 | (simp; omega))) hU8 ?_); intro v8 x8 own8 gr8 at8))
          obtain ⟨OX8, BX8⟩ := push_facts (p := (n', f')) O8 hBT hU8 (((HP wq2 Bwq2)).below (b8.mono (Nat.le_trans hBT hT8))) own8 gr8 ((Bwq2).trans (b8.mono hT8))
          go_roundw
          case rel => exact ⟨i + 1, true, (out ++ [(n', f')]), by omega, by go_num, rfl, HS9.out, OX8, BX8⟩
          case measure => simp [intOf]; omega
      | false =>
        cases hle : leN n n' with
        | true =>
          cases heq : n' == n with
          | true =>
            have HLE : ∀ w, (binOp .leq 9 (encStr n) (encStr n')).run Try.prog w = .ok (.bool true) w := fun w => by rw [le_nm, hle]
            have HNE : ∀ w, (binOp .neq 9 (encStr n') (encStr n)).run Try.prog w = .ok (.bool false) w := fun w => by rw [neq_dec, heq]; rfl
            have hs9 : (fs.take (i + 1)).foldl (stepP n f) (false, []) = (true, (out ++ [(n, f)])) := by rw [hsn]; simp [stepP, hle, heq]
            have HS9 := hide hs9
            clear hs9 hsn hst hle
            have c0 := HC wr bW 0 _ rfl
            rw [Nat.add_zero] at c0
            try simp only at c0
            have cF0 := (Row.later rF bW).cell (j := 0) rfl
            go_wp2_with fail
            go_quiet (fail)
            obtain ⟨wq1, hwq⟩ : ∃ wq, wq = (wr).drewN nq := ⟨_, rfl⟩
            have bqwq1 : Below (wr).heap.size wr wq1 := by rw [hwq]; exact below_drewn (Below.refl _ _) nq
            rw [← hwq]
            clear hwq nq c0 cF0
            have Bwq1 := (bW).trans (bqwq1.mono (bW).size)
            have Owq1 := LstAt.later hO (Nat.le_trans hBT (bW).size) bqwq1
            have rF7 := Row.later rF Bwq1
            have hC7 := HC wq1 Bwq1
            have hT7 : w1.heap.size ≤ (wq1).heap.size := (Bwq1).size
            go_wp2_with (first
              | (with_reducible refine wl_load_row (o := ⟨some 27, _, _, _, _, _⟩) rfl 48 (.tmp 3) gF 48 [encStr n, .slice f.A f.n f.c, .int .i64 f.kept] _ rfl rfl rF7 Try.underlying48 rfl (szApi n f) ?_)
              | ((with_reducible refine wl_build1S (o := ⟨some 28, _, _, _, _, _⟩) rfl 32 (.tmp 27) rfl 48 ip _ _ _ (encStr n) (.slice f.A f.n f.c) (.int .i64 f.kept) Try.underlying32 hip hpz hps rfl ?_); intro g7 w7 r7 p7 l7 b7; have O7 := LstAt.later Owq1 (Nat.le_trans hBT hT7) b7; have hU7 := Nat.le_trans hT7 b7.size)
              | ((at_builtin; with_reducible refine wl_append_at (o := ⟨some 29, _, _, _, _, _⟩) rfl (.tmp 26) (.tmp 28) 32 rfl w1.heap.size 48 ip (.agg #[.string ByteArray.empty, .slice none 0 0, .int .i64 0]) 3 48 Try.underlying32 hip hpz hps hpb zs3 h03 u5 (out).length _ rfl O7.row ⟨g7, 0, none⟩ 1 1 [encStr n, .slice f.A f.n f.c, .int .i64 f.kept] rfl (hl3 n f) (row_src r7) (one_api n f) (hmA (out).length (by first | exact hO1 | (simp; omega))) (hmB (out).length (by first | exact hO1 | (simp; omega))) hU7 ?_); intro v7 x7 own7 gr7 at7))
            obtain ⟨OX7, BX7⟩ := push_facts (p := (n, f)) O7 hBT hU7 (((HY wq1 Bwq1)).below (b7.mono (Nat.le_trans hBT hT7))) own7 gr7 ((Bwq1).trans (b7.mono hT7))
            have c0 := HC x7 BX7 0 _ rfl
            rw [Nat.add_zero] at c0
            try simp only at c0
            have cF0 := (Row.later rF BX7).cell (j := 0) rfl
            go_wp2_with fail
            go_quiet (fail)
            obtain ⟨wq2, hwq⟩ : ∃ wq, wq = (x7).drewN nq := ⟨_, rfl⟩
            have bqwq2 : Below (x7).heap.size x7 wq2 := by rw [hwq]; exact below_drewn (Below.refl _ _) nq
            rw [← hwq]
            clear hwq nq c0 cF0
            have Bwq2 := (BX7).trans (bqwq2.mono (BX7).size)
            have Owq2 := LstAt.later OX7 (Nat.le_trans hBT (BX7).size) bqwq2
            go_wp2_with fail
            go_roundw
            case rel => exact ⟨i + 1, true, (out ++ [(n, f)]), by omega, by go_num, rfl, HS9.out, Owq2, Bwq2⟩
            case measure => simp [intOf]; omega
          | false =>
            have HLE : ∀ w, (binOp .leq 9 (encStr n) (encStr n')).run Try.prog w = .ok (.bool true) w := fun w => by rw [le_nm, hle]
            have HNE : ∀ w, (binOp .neq 9 (encStr n') (encStr n)).run Try.prog w = .ok (.bool true) w := fun w => by rw [neq_dec, heq]; rfl
            have hs9 : (fs.take (i + 1)).foldl (stepP n f) (false, []) = (true, ((out ++ [(n, f)]) ++ [(n', f')])) := by rw [hsn]; simp [stepP, hle, heq]
            have HS9 := hide hs9
            clear hs9 hsn hst hle
            have c0 := HC wr bW 0 _ rfl
            rw [Nat.add_zero] at c0
            try simp only at c0
            have cF0 := (Row.later rF bW).cell (j := 0) rfl
            go_wp2_with fail
            go_quiet (fail)
            obtain ⟨wq1, hwq⟩ : ∃ wq, wq = (wr).drewN nq := ⟨_, rfl⟩
            have bqwq1 : Below (wr).heap.size wr wq1 := by rw [hwq]; exact below_drewn (Below.refl _ _) nq
            rw [← hwq]
            clear hwq nq c0 cF0
            have Bwq1 := (bW).trans (bqwq1.mono (bW).size)
            have Owq1 := LstAt.later hO (Nat.le_trans hBT (bW).size) bqwq1
            have rF7 := Row.later rF Bwq1
            have hC7 := HC wq1 Bwq1
            have hT7 : w1.heap.size ≤ (wq1).heap.size := (Bwq1).size
            go_wp2_with (first
              | (with_reducible refine wl_load_row (o := ⟨some 27, _, _, _, _, _⟩) rfl 48 (.tmp 3) gF 48 [encStr n, .slice f.A f.n f.c, .int .i64 f.kept] _ rfl rfl rF7 Try.underlying48 rfl (szApi n f) ?_)
              | ((with_reducible refine wl_build1S (o := ⟨some 28, _, _, _, _, _⟩) rfl 32 (.tmp 27) rfl 48 ip _ _ _ (encStr n) (.slice f.A f.n f.c) (.int .i64 f.kept) Try.underlying32 hip hpz hps rfl ?_); intro g7 w7 r7 p7 l7 b7; have O7 := LstAt.later Owq1 (Nat.le_trans hBT hT7) b7; have hU7 := Nat.le_trans hT7 b7.size)
              | ((at_builtin; with_reducible refine wl_append_at (o := ⟨some 29, _, _, _, _, _⟩) rfl (.tmp 26) (.tmp 28) 32 rfl w1.heap.size 48 ip (.agg #[.string ByteArray.empty, .slice none 0 0, .int .i64 0]) 3 48 Try.underlying32 hip hpz hps hpb zs3 h03 u5 (out).length _ rfl O7.row ⟨g7, 0, none⟩ 1 1 [encStr n, .slice f.A f.n f.c, .int .i64 f.kept] rfl (hl3 n f) (row_src r7) (one_api n f) (hmA (out).length (by first | exact hO1 | (simp; omega))) (hmB (out).length (by first | exact hO1 | (simp; omega))) hU7 ?_); intro v7 x7 own7 gr7 at7))
            obtain ⟨OX7, BX7⟩ := push_facts (p := (n, f)) O7 hBT hU7 (((HY wq1 Bwq1)).below (b7.mono (Nat.le_trans hBT hT7))) own7 gr7 ((Bwq1).trans (b7.mono hT7))
            have c0 := HC x7 BX7 0 _ rfl
            rw [Nat.add_zero] at c0
            try simp only at c0
            have cF0 := (Row.later rF BX7).cell (j := 0) rfl
            go_wp2_with fail
            go_quiet (fail)
            obtain ⟨wq2, hwq⟩ : ∃ wq, wq = (x7).drewN nq := ⟨_, rfl⟩
            have bqwq2 : Below (x7).heap.size x7 wq2 := by rw [hwq]; exact below_drewn (Below.refl _ _) nq
            rw [← hwq]
            clear hwq nq c0 cF0
            have Bwq2 := (BX7).trans (bqwq2.mono (BX7).size)
            have Owq2 := LstAt.later OX7 (Nat.le_trans hBT (BX7).size) bqwq2
            have rF8 := Row.later rF Bwq2
            have hC8 := HC wq2 Bwq2
            have hT8 : w1.heap.size ≤ (wq2).heap.size := (Bwq2).size
            go_wp2_with (first
              | (with_reducible refine wl_load_cells (o := ⟨some 42, _, _, _, _, _⟩) rfl 48 (.tmp 41) b (o + i * 3) [encStr n', .slice f'.A f'.n f'.c, .int .i64 f'.kept] _ rfl rfl hC8 Try.underlying48 rfl (szApi n' f') ?_)
              | ((with_reducible refine wl_build1S (o := ⟨some 43, _, _, _, _, _⟩) rfl 32 (.tmp 42) rfl 48 ip _ _ _ (encStr n') (.slice f'.A f'.n f'.c) (.int .i64 f'.kept) Try.underlying32 hip hpz hps rfl ?_); intro g8 w8 r8 p8 l8 b8; have O8 := LstAt.later Owq2 (Nat.le_trans hBT hT8) b8; have hU8 := Nat.le_trans hT8 b8.size)
              | ((at_builtin; with_reducible refine wl_append_at (o := ⟨some 44, _, _, _, _, _⟩) rfl (.tmp 38) (.tmp 43) 32 rfl w1.heap.size 48 ip (.agg #[.string ByteArray.empty, .slice none 0 0, .int .i64 0]) 3 48 Try.underlying32 hip hpz hps hpb zs3 h03 v7 ((out ++ [(n, f)])).length _ rfl O8.row ⟨g8, 0, none⟩ 1 1 [encStr n', .slice f'.A f'.n f'.c, .int .i64 f'.kept] rfl (hl3 n' f') (row_src r8) (one_api n' f') (hmA ((out ++ [(n, f)])).length (by first | exact hO1 | (simp; omega))) (hmB ((out ++ [(n, f)])).length (by first | exact hO1 | (simp; omega))) hU8 ?_); intro v8 x8 own8 gr8 at8))
            obtain ⟨OX8, BX8⟩ := push_facts (p := (n', f')) O8 hBT hU8 (((HP wq2 Bwq2)).below (b8.mono (Nat.le_trans hBT hT8))) own8 gr8 ((Bwq2).trans (b8.mono hT8))
            go_roundw
            case rel => exact ⟨i + 1, true, ((out ++ [(n, f)]) ++ [(n', f')]), by omega, by go_num, rfl, HS9.out, OX8, BX8⟩
            case measure => simp [intOf]; omega
        | false =>
          have heq : (n' == n) = false := by
            cases h : n' == n with
            | false => rfl
            | true =>
              have : n' = n := by simpa using h
              rw [this, leN_self] at hle
              cases hle
          have HLE : ∀ w, (binOp .leq 9 (encStr n) (encStr n')).run Try.prog w = .ok (.bool false) w := fun w => by rw [le_nm, hle]
          have HNE : ∀ w, (binOp .neq 9 (encStr n') (encStr n)).run Try.prog w = .ok (.bool true) w := fun w => by rw [neq_dec, heq]; rfl
          have hs9 : (fs.take (i + 1)).foldl (stepP n f) (false, []) = (false, (out ++ [(n', f')])) := by rw [hsn]; simp [stepP, hle, heq]
          have HS9 := hide hs9
          clear hs9 hsn hst hle
          have c0 := HC wr bW 0 _ rfl
          rw [Nat.add_zero] at c0
          try simp only at c0
          have cF0 := (Row.later rF bW).cell (j := 0) rfl
          go_wp2_with fail
          go_quiet (fail)
          obtain ⟨wq1, hwq⟩ : ∃ wq, wq = (wr).drewN nq := ⟨_, rfl⟩
          have bqwq1 : Below (wr).heap.size wr wq1 := by rw [hwq]; exact below_drewn (Below.refl _ _) nq
          rw [← hwq]
          clear hwq nq c0 cF0
          have Bwq1 := (bW).trans (bqwq1.mono (bW).size)
          have Owq1 := LstAt.later hO (Nat.le_trans hBT (bW).size) bqwq1
          have c0 := HC wq1 Bwq1 0 _ rfl
          rw [Nat.add_zero] at c0
          try simp only at c0
          have cF0 := (Row.later rF Bwq1).cell (j := 0) rfl
          go_wp2_with fail
          go_quiet (fail)
          obtain ⟨wq2, hwq⟩ : ∃ wq, wq = (wq1).drewN nq := ⟨_, rfl⟩
          have bqwq2 : Below (wq1).heap.size wq1 wq2 := by rw [hwq]; exact below_drewn (Below.refl _ _) nq
          rw [← hwq]
          clear hwq nq c0 cF0
          have Bwq2 := (Bwq1).trans (bqwq2.mono (Bwq1).size)
          have Owq2 := LstAt.later Owq1 (Nat.le_trans hBT (Bwq1).size) bqwq2
          have rF8 := Row.later rF Bwq2
          have hC8 := HC wq2 Bwq2
          have hT8 : w1.heap.size ≤ (wq2).heap.size := (Bwq2).size
          go_wp2_with (first
            | (with_reducible refine wl_load_cells (o := ⟨some 42, _, _, _, _, _⟩) rfl 48 (.tmp 41) b (o + i * 3) [encStr n', .slice f'.A f'.n f'.c, .int .i64 f'.kept] _ rfl rfl hC8 Try.underlying48 rfl (szApi n' f') ?_)
            | ((with_reducible refine wl_build1S (o := ⟨some 43, _, _, _, _, _⟩) rfl 32 (.tmp 42) rfl 48 ip _ _ _ (encStr n') (.slice f'.A f'.n f'.c) (.int .i64 f'.kept) Try.underlying32 hip hpz hps rfl ?_); intro g8 w8 r8 p8 l8 b8; have O8 := LstAt.later Owq2 (Nat.le_trans hBT hT8) b8; have hU8 := Nat.le_trans hT8 b8.size)
            | ((at_builtin; with_reducible refine wl_append_at (o := ⟨some 44, _, _, _, _, _⟩) rfl (.tmp 38) (.tmp 43) 32 rfl w1.heap.size 48 ip (.agg #[.string ByteArray.empty, .slice none 0 0, .int .i64 0]) 3 48 Try.underlying32 hip hpz hps hpb zs3 h03 u5 (out).length _ rfl O8.row ⟨g8, 0, none⟩ 1 1 [encStr n', .slice f'.A f'.n f'.c, .int .i64 f'.kept] rfl (hl3 n' f') (row_src r8) (one_api n' f') (hmA (out).length (by first | exact hO1 | (simp; omega))) (hmB (out).length (by first | exact hO1 | (simp; omega))) hU8 ?_); intro v8 x8 own8 gr8 at8))
          obtain ⟨OX8, BX8⟩ := push_facts (p := (n', f')) O8 hBT hU8 (((HP wq2 Bwq2)).below (b8.mono (Nat.le_trans hBT hT8))) own8 gr8 ((Bwq2).trans (b8.mono hT8))
          go_roundw
          case rel => exact ⟨i + 1, false, (out ++ [(n', f')]), by omega, by go_num, rfl, HS9.out, OX8, BX8⟩
          case measure => simp [intOf]; omega
    · obtain rfl : i = m := by omega
      have hd1 : decide ((i : Int) < (i : Int)) = false := by simp
      rw [List.take_of_length_le (by omega)] at hst
      have hfin : putF fs n f = endP n f (laid, out) := by rw [← HF.out, hst]
      have HFn := hide hfin
      clear hst hfin HF
      have HY : ∀ X, Below w1.heap.size w1 X → Bs X B f.A f.n f.xs := fun X hX => hy.below ((bF.trans (hX.mono bF.size)).mono hBw)
      have HC : ∀ X : World, Below w1.heap.size w1 X → True := fun _ _ => trivial
      cases laid with
      | true =>
        go_wp2_with fail
        go_ret
        exact ⟨_, rfl, by rw [HFn.out]; exact hO.lo hTw1, bF.trans (bW.mono bF.size)⟩
      | false =>
        have rF9 := Row.later rF bW
        have hC9 := HC wr bW
        have hT9 : w1.heap.size ≤ (wr).heap.size := (bW).size
        go_wp2_with (first
          | (with_reducible refine wl_load_row (o := ⟨some 48, _, _, _, _, _⟩) rfl 48 (.tmp 3) gF 48 [encStr n, .slice f.A f.n f.c, .int .i64 f.kept] _ rfl rfl rF9 Try.underlying48 rfl (szApi n f) ?_)
          | ((with_reducible refine wl_build1S (o := ⟨some 49, _, _, _, _, _⟩) rfl 32 (.tmp 48) rfl 48 ip _ _ _ (encStr n) (.slice f.A f.n f.c) (.int .i64 f.kept) Try.underlying32 hip hpz hps rfl ?_); intro g9 w9 r9 p9 l9 b9; have O9 := LstAt.later hO (Nat.le_trans hBT hT9) b9; have hU9 := Nat.le_trans hT9 b9.size)
          | ((at_builtin; with_reducible refine wl_append_at (o := ⟨some 50, _, _, _, _, _⟩) rfl (.tmp 47) (.tmp 49) 32 rfl w1.heap.size 48 ip (.agg #[.string ByteArray.empty, .slice none 0 0, .int .i64 0]) 3 48 Try.underlying32 hip hpz hps hpb zs3 h03 u5 (out).length _ rfl O9.row ⟨g9, 0, none⟩ 1 1 [encStr n, .slice f.A f.n f.c, .int .i64 f.kept] rfl (hl3 n f) (row_src r9) (one_api n f) (hmA (out).length (by first | exact hO1 | (simp; omega))) (hmB (out).length (by first | exact hO1 | (simp; omega))) hU9 ?_); intro v9 x9 own9 gr9 at9))
        obtain ⟨OX9, BX9⟩ := push_facts (p := (n, f)) O9 hBT hU9 (((HY wr bW)).below (b9.mono (Nat.le_trans hBT hT9))) own9 gr9 ((bW).trans (b9.mono hT9))

        go_ret
        exact ⟨_, rfl, by rw [HFn.out]; exact OX9.lo hTw1, bF.trans (BX9.mono bF.size)⟩
end Go.Proofs.Ytfijhfolanhifaa

/-
  The document's disk: Load, as lists. Own work.
-/
namespace Go.Proofs.Ytfijhfolanhifaa
open Go.RowKit Go.Maps Go.ChangeMaps
theorem before_total : ∀ {a b : Nm}, bytesBefore a b = false → a ≠ b → bytesBefore b a = true
  | [], [], _, h => absurd rfl h
  | [], _ :: _, h, _ => by simp [bytesBefore] at h
  | _ :: _, [], _, _ => by simp [bytesBefore]
  | x :: r, y :: s, h, k => by
    simp only [bytesBefore, Bool.or_eq_false_iff, Bool.and_eq_false_iff, decide_eq_false_iff_not, beq_eq_false_iff_ne] at h
    simp only [bytesBefore, Bool.or_eq_true, Bool.and_eq_true, decide_eq_true_eq, beq_iff_eq]
    rcases Classical.em (y = x) with e | e
    · subst e
      rcases h.2 with h2 | h2
      · exact absurd rfl h2
      · exact .inr ⟨rfl, before_total h2 (fun q => k (by rw [q]))⟩
    · rcases UInt8.lt_or_lt_of_ne e with h1 | h1
      · exact .inl h1
      · exact absurd h1 h.1
theorem rise_ins (n : Nm) (f : FV) : ∀ {D : Fs}, riseF D → (∀ q ∈ D, q.1 ≠ n) → riseF (insF (n, f) D)
  | [], _, _ => by simp [insF, riseF]
  | y :: r, h, hn => by
    obtain ⟨h1, h2⟩ := List.pairwise_cons.1 h
    unfold insF
    cases hb : bytesBefore n y.1 with
    | true =>
      rw [if_pos rfl]
      refine List.pairwise_cons.2 ⟨fun q hq => ?_, h⟩
      rcases List.mem_cons.1 hq with rfl | hq
      · exact hb
      · exact before_trans hb (h1 q hq)
    | false =>
      rw [if_neg (by simp)]
      refine List.pairwise_cons.2 ⟨fun q hq => ?_, rise_ins n f h2 (fun q hq => hn q (List.mem_cons_of_mem _ hq))⟩
      rcases List.mem_cons.1 ((ins_perm (n, f) r).mem_iff.1 hq) with rfl | hq
      · exact before_total hb (fun e => hn y (by simp) e.symm)
      · exact h1 q hq
theorem rise_put {l : Fs} (n : Nm) (f : FV) (h : riseF l) : riseF (putF l n f) := by
  refine rise_ins n f (h.filter _) fun q hq e => ?_
  have := (List.mem_filter.1 hq).2
  rw [e] at this
  simp at this
/-- The files of a list, one put behind the other. -/
def putsF (l : Fs) : Fs := l.foldl (fun acc p => putF acc p.1 p.2) []
theorem rise_puts : ∀ (l acc : Fs), riseF acc → riseF (l.foldl (fun acc p => putF acc p.1 p.2) acc)
  | [], _, h => h
  | p :: r, _, h => rise_puts r _ (rise_put p.1 p.2 h)
theorem puts_len : ∀ (l acc : Fs), (l.foldl (fun acc p => putF acc p.1 p.2) acc).length ≤ acc.length + l.length
  | [], _ => by simp
  | p :: r, acc => by
    rw [List.foldl_cons, List.length_cons]
    have := puts_len r (putF acc p.1 p.2)
    have := put_len acc p.1 p.2
    omega
theorem puts_snoc {l : Fs} {i : Nat} {p : Nm × FV} (h : l[i]? = some p) : putsF (l.take (i + 1)) = putF (putsF (l.take i)) p.1 p.2 := by
  obtain ⟨hi, rfl⟩ := List.getElem?_eq_some_iff.1 h
  unfold putsF
  rw [List.take_succ_eq_append_getElem hi, List.foldl_append]
  rfl
theorem puts_ok (l : Fs) (i : Nat) : riseF (putsF (l.take i)) ∧ (putsF (l.take i)).length ≤ i := by
  refine ⟨rise_puts _ _ List.Pairwise.nil, ?_⟩
  have := puts_len (l.take i) []
  rw [List.length_take] at this
  unfold putsF
  simp at this ⊢
  omega
theorem at_some2 {fs : Fs} {n : Nm} {f : FV} (h : (n, f) ∈ fs) : (atF fs n).isSome = true := by
  unfold atF
  rw [Option.isSome_map, List.find?_isSome]
  exact ⟨(n, f), h, by simp⟩
theorem atF_none_len {acc : Fs} {n : Nm} (f : FV) (h : (atF acc n).isSome = false) : (putF acc n f).length = acc.length + 1 := by
  have hd : delF acc n = acc := del_none fun p hp e => by
    have : (atF acc n).isSome = true := at_some2 (f := p.2) (by rw [← e]; exact hp)
    rw [h] at this
    cases this
  rw [(put_perm acc n f).length_eq, List.length_cons, hd]
theorem ld_ok : ∀ (l acc : Fs), (∀ p ∈ l, mayF p = true) → (l.foldl (fun acc p => putF acc p.1 p.2) acc).length = acc.length + l.length → ldF acc l = some (l.foldl (fun acc p => putF acc p.1 p.2) acc)
  | [], _, _, _ => rfl
  | p :: r, acc, hm, hl => by
    rw [List.foldl_cons, List.length_cons] at hl
    cases hq : (atF acc p.1).isSome with
    | true =>
      exfalso
      have := puts_len r (putF acc p.1 p.2)
      have := put_len' p.2 hq
      omega
    | false =>
      rw [ldF_cons hq (hm p (by simp)), List.foldl_cons]
      exact ld_ok r _ (fun q hq => hm q (List.mem_cons_of_mem _ hq)) (by rw [atF_none_len p.2 hq]; omega)
theorem ld_bad : ∀ (l acc : Fs) (p : Nm × FV), p ∈ l → mayF p = false → ldF acc l = none
  | [], _, _, h, _ => by cases h
  | q :: r, acc, p, h, hb => by
    cases hc : ((atF acc q.1).isSome || !mayF q) with
    | true => exact ldF_cons_no hc
    | false =>
      rw [Bool.or_eq_false_iff] at hc
      rcases List.mem_cons.1 h with rfl | h
      · rw [hb] at hc; simp at hc
      · rw [ldF_cons hc.1 (by simpa using hc.2)]
        exact ld_bad r _ p h hb
theorem ld_twice : ∀ (l acc : Fs), (l.foldl (fun acc p => putF acc p.1 p.2) acc).length < acc.length + l.length → ldF acc l = none
  | [], acc, h => by simp at h
  | q :: r, acc, h => by
    cases hc : ((atF acc q.1).isSome || !mayF q) with
    | true => exact ldF_cons_no hc
    | false =>
      rw [Bool.or_eq_false_iff] at hc
      rw [ldF_cons hc.1 (by simpa using hc.2)]
      refine ld_twice r _ ?_
      rw [List.foldl_cons, List.length_cons] at h
      rw [atF_none_len q.2 hc.1]
      omega
end Go.Proofs.Ytfijhfolanhifaa

/-
  The document's disk: Load. Own work.
-/
namespace Go.Proofs.Ytfijhfolanhifaa
open Go.RowKit Go.Maps Go.ChangeMaps
/-- What the document's Load leaves. -/
def RLoadRes (B gr m : Nat) (pv : Value) (l : Fs) (w : World) (e : Ending) (w' : World) : Prop :=
  (m ≤ 64 ∧ ∃ gs A' c', ldF [] l = some gs ∧ e = .returned (.int .i64 0) ∧ RDk w' gr pv A' gs.length c' ∧ LstAt w' B w.heap.size (.slice A' gs.length c') gs ∧ Buts [gr] w w') ∨ ((64 < m ∨ ldF [] l = none) ∧ e = .returned (.int .i64 1) ∧ Below w.heap.size w w')
theorem szFl : (Try.prog.info? 32).map (·.size) = some 1 := by kernel_rfl
set_option maxRecDepth 100000 in
set_option maxHeartbeats 4000000 in
theorem rload_any (w : World) (B gr : Nat) (pv : Value) (RA : Option Addr) (rm rc : Nat) (A : Option Addr) (m c : Nat) (l : Fs) (hBw : B ≤ w.heap.size) (hgr : B ≤ gr) (hR : RDk w gr pv RA rm rc) (hl : FlAt w B A m l) (hm : m ≤ 100) :
    Calls Try.prog 34 #[ptr gr, .slice A m c] w fun e w' => RLoadRes B gr m pv l w e w' := by
  have HL := hide hl
  have hll := hl.1
  clear hl
  go_enter Try.func34, Try.ntmps34
  go_wp2_with fail
  go_loopw [5, 6] (fun lv iv wr => ∃ i : Nat, i ≤ m ∧ iv = .int .i64 i ∧ Hid (∀ j p, j < i → l[j]? = some p → mayF p = true) ∧ LstAt wr B w.heap.size lv (putsF (l.take i)) ∧ Below w.heap.size w wr) (fun _ iv _ => m - (intOf iv).toNat)
  case atStart => exact ⟨0, Nat.zero_le _, rfl, hide (fun j p hj => by omega), LstAt.nil _ _ _, Below.refl _ _⟩
  case round =>
    obtain ⟨i, hi, rfl, hmay, hO, bW⟩ := hrel
    obtain ⟨hrise, hlen⟩ := puts_ok l i
    have hBr : B ≤ wr.heap.size := Nat.le_trans hBw bW.size
    by_cases hlt : i < m
    · obtain ⟨p, hp⟩ : ∃ p, l[i]? = some p := ⟨_, List.getElem?_eq_getElem (by omega)⟩
      have hsn := puts_snoc hp
      have hmem := List.mem_of_getElem? hp
      obtain ⟨b, o, rfl, hb, hc⟩ := (HL.out.below (bW.mono hBw)).2.1 (by omega)
      have hcp := hc i p hp
      have hpb := (HL.out.below (bW.mono hBw)).2.2 p hmem
      have hnx : ∀ h : mayF p = true, ∀ j q, j < i + 1 → l[j]? = some q → mayF q = true := fun h j q hj hq => by
        rcases Nat.lt_or_ge j i with h1 | h1
        · exact hmay.out j q h1 hq
        · obtain rfl : j = i := by omega
          have := hq.symm.trans hp
          simp at this
          rw [this]; exact h
      have HNx := hide hnx
      have hbad : mayF p = false → ldF [] l = none := fun h => ld_bad l [] p hmem h
      have HBad := hide hbad
      obtain ⟨n, f⟩ := p
      have hcf : ∀ j v, ([encStr n, .slice f.A f.n f.c, .int .i64 f.kept] : List Value)[j]? = some v → wr.cell? ⟨b, o + i * 3 + j, none⟩ = some v := hcp
      have hd1 : decide ((i : Int) < (m : Int)) = true := by simp; omega
      have HS := sizeFile
      have hq : i < m := hlt
      have HSn := hide hsn
      generalize putsF (l.take i) = out at *
      have hM : mayF (n, f) = (okN n && (decide (f.n ≤ 1048576) && (decide (0 ≤ f.kept) && decide (f.kept ≤ f.n)))) := rfl
      have e1 : decide (f.n ≤ 1048576) = decide ((f.n : Int) ≤ 1048576) := by apply decide_eq_decide.2; omega
      rw [e1] at hM
      have HM := hide hM
      clear hM e1 hc hcp hp hsn hnx hbad hmem hmay
      go_wp2_with (first
        | (with_reducible refine wl_load_cells (o := ⟨some 17, _, _, _, _, _⟩) rfl 48 (.tmp 16) b (o + i * 3) [encStr n, .slice f.A f.n f.c, .int .i64 f.kept] _ rfl rfl hcf Try.underlying48 rfl (szApi n f) ?_)
        | ((with_reducible refine wl_alloc rfl 48 _ [.string ByteArray.empty, .slice none 0 0, .int .i64 0] rfl zApi rfl ?_); intro g7 w2 r9 p9 l9 b9)
        | ((with_reducible refine wl_store_row rfl 48 (.tmp 7) (.tmp 17) g7 48 _ [encStr n, .slice f.A f.n f.c, .int .i64 f.kept] rfl rfl rfl r9 (szApi n f) rfl (one_api n f) ?_); intro w3 r7 o7; have bS := b9.trans (o7.below p9); have k0 := r7.cell (j := 0) rfl; have k1 := r7.cell (j := 1) rfl; have k2 := r7.cell (j := 2) rfl))
      refine (namedR_any n w3).mono ?_
      rintro e w4 ⟨rfl, rfl⟩
      have B3 := bW.trans (bS.mono bW.size)
      cases hq1 : okN n with
      | false =>
        go_wp2_with fail
        go_ret
        exact .inr ⟨.inr (HBad.out (by rw [HM.out, hq1]; rfl)), rfl, B3⟩
      | true =>
        cases h1 : decide ((f.n : Int) ≤ 1048576) with
        | false =>
          have h1b : decide ((1048576 : Int) < (f.n : Int)) = true := by simp at h1 ⊢; omega
          go_wp2_with fail
          go_ret
          exact .inr ⟨.inr (HBad.out (by rw [HM.out, hq1, h1]; rfl)), rfl, B3⟩
        | true =>
          have h1b : decide ((1048576 : Int) < (f.n : Int)) = false := by simp at h1 ⊢; omega
          cases h2 : decide ((0 : Int) ≤ f.kept) with
          | false =>
            have h2b : decide (f.kept < 0) = true := by simp at h2 ⊢; omega
            go_wp2_with fail
            go_ret
            exact .inr ⟨.inr (HBad.out (by rw [HM.out, hq1, h1, h2]; rfl)), rfl, B3⟩
          | true =>
            have h2b : decide (f.kept < 0) = false := by simp at h2 ⊢; omega
            cases h3 : decide (f.kept ≤ (f.n : Int)) with
            | false =>
              have h3b : decide ((f.n : Int) < f.kept) = true := by simp at h3 ⊢; omega
              go_wp2_with fail
              go_ret
              exact .inr ⟨.inr (HBad.out (by rw [HM.out, hq1, h1, h2, h3]; rfl)), rfl, B3⟩
            | true =>
              have h3b : decide ((f.n : Int) < f.kept) = false := by simp at h3 ⊢; omega
              have HN2 := hide (HNx.out (by rw [HM.out, hq1, h1, h2, h3]; rfl))
              have hO3 := hO.later hBr bS
              obtain ⟨A5, c5, ev5, hF5, _⟩ := hO3.fl (Nat.le_trans hBr bS.size)
              have HP := rput_any w3 B A5 out.length c5 out n f (Nat.le_trans hBr bS.size) hF5 hO3.bs (hpb.below (bS.mono hBr)) (by omega) hrise
              rw [ev5]
              have HP := hide HP
              clear HNx HBad HM hF5 hO3 hO h1 h2 h3
              go_wp2_with (first
                | (with_reducible refine wl_load_row rfl 48 (.tmp 7) g7 48 [encStr n, .slice f.A f.n f.c, .int .i64 f.kept] _ rfl rfl r7 Try.underlying48 rfl (szApi n f) ?_))
              refine HP.out.mono ?_
              rintro e w5 ⟨v5, rfl, hO5, b5⟩
              go_wp2_with fail
              go_roundw
              case rel => exact ⟨i + 1, by omega, by go_num, HN2, by rw [HSn.out]; exact hO5.lo B3.size, B3.trans (b5.mono B3.size)⟩
              case measure => simp [intOf]; omega
    · obtain rfl : i = m := by omega
      rw [List.take_of_length_le (by omega)] at hO hlen hrise
      have hall : ∀ p ∈ l, mayF p = true := fun p hp => by
        obtain ⟨j, hj⟩ := List.getElem?_of_mem hp
        exact hmay.out j p (by have := (List.getElem?_eq_some_iff.1 hj).1; omega) hj
      have hd1 : decide ((i : Int) < (i : Int)) = false := by simp
      obtain ⟨A5, c5, ev5, _, _⟩ := hO.fl hBr
      rw [ev5] at hO ⊢
      have hRr := Row.later hR bW
      by_cases hle : (putsF l).length < i
      · have hd2 : decide (((putsF l).length : Int) < (i : Int)) = true := by simp; omega
        have hno := ld_twice l [] (by show (putsF l).length < _; simp; omega)
        go_wp2_with fail
        go_ret
        exact .inr ⟨.inr hno, rfl, bW⟩
      · have hd2 : decide (((putsF l).length : Int) < (i : Int)) = false := by simp; omega
        by_cases h64 : 64 < i
        · have hd3 : decide ((64 : Int) < (i : Int)) = true := by simp; omega
          go_wp2_with fail
          go_ret
          exact .inr ⟨.inl h64, rfl, bW⟩
        · have hd3 : decide ((64 : Int) < (i : Int)) = false := by simp; omega
          have hok := ld_ok l [] hall (by show (putsF l).length = _; simp; omega)
          have HOk := hide hok
          clear hall hmay hok
          go_wp2_with (first
            | (with_reducible refine wl_store rfl 32 (.tmp 57) (.tmp 55) gr 1 34 [pv, .slice RA rm rc] (.slice A5 (putsF l).length c5) rfl szFl rfl rfl hRr (lt2 _ _ (by decide)) rfl ?_; intro w6 r6 o6))
          go_ret
          refine .inl ⟨by omega, putsF l, A5, c5, HOk.out, rfl, r6, ?_, (Buts.of bW _).trans (Buts.only o6 (List.mem_singleton.2 rfl))⟩
          have hne : ∀ k, (Value.slice A5 (putsF l).length c5).ownBlock = some k → k ≠ gr := fun k hk e => by
            have := (hO.row.lt k hk).1
            have := hR.lt
            omega
          refine ⟨⟨hO.row.1, hO.row.2.imp id fun ⟨g, cap, cur, e1, h1, hg, h2⟩ => ⟨g, cap, cur, e1, h1, (o6.block g (hne g (by rw [e1]; rfl))).trans hg, h2⟩⟩, fun p hp => (hO.bs p hp).below (o6.below hgr)⟩
end Go.Proofs.Ytfijhfolanhifaa

/-
  The disk: what was loaded is loaded again as it was, as lists; both load the same. Own work.
-/
namespace Go.Proofs.Ytfijhfolanhifaa
open Go.RowKit Go.Maps Go.ChangeMaps
theorem ld_step {acc r gs : Fs} {q : Nm × FV} (h : ldF acc (q :: r) = some gs) : mayF q = true ∧ ldF (putF acc q.1 q.2) r = some gs := by
  cases hc : ((atF acc q.1).isSome || !mayF q) with
  | true => rw [ldF_cons_no hc] at h; cases h
  | false =>
    rw [Bool.or_eq_false_iff] at hc
    rw [ldF_cons hc.1 (by simpa using hc.2)] at h
    exact ⟨by simpa using hc.2, h⟩
theorem mem_put2 {l : Fs} {n : Nm} {f : FV} {p : Nm × FV} (h : p ∈ putF l n f) : p = (n, f) ∨ p ∈ l := by
  rcases List.mem_cons.1 ((put_perm l n f).mem_iff.1 h) with h | h
  · exact .inl h
  · exact .inr (List.mem_filter.1 h).1
theorem ld_all (P : Nm × FV → Prop) : ∀ (l acc gs : Fs), ldF acc l = some gs → (∀ p ∈ acc, P p) → (∀ p ∈ l, mayF p = true → P p) → ∀ p ∈ gs, P p
  | [], acc, gs, h, ha, _ => by
    rw [show ldF acc [] = some acc from rfl] at h
    obtain rfl := Option.some.inj h
    exact ha
  | q :: r, acc, gs, h, ha, hl => by
    obtain ⟨hm, h2⟩ := ld_step h
    refine ld_all P r _ gs h2 (fun p hp => ?_) (fun p hp => hl p (List.mem_cons_of_mem _ hp))
    rcases mem_put2 hp with rfl | hp
    · exact hl q (by simp) hm
    · exact ha p hp
theorem ld_rise : ∀ (l acc gs : Fs), ldF acc l = some gs → riseF acc → riseF gs
  | [], acc, gs, h, ha => by
    rw [show ldF acc [] = some acc from rfl] at h
    obtain rfl := Option.some.inj h
    exact ha
  | q :: r, acc, gs, h, ha => ld_rise r _ gs (ld_step h).2 (rise_put q.1 q.2 ha)
theorem ins_last (n : Nm) (f : FV) : ∀ (D : Fs), (∀ q ∈ D, bytesBefore n q.1 = false) → insF (n, f) D = D ++ [(n, f)]
  | [], _ => rfl
  | q :: r, h => by
    unfold insF
    rw [if_neg (by simp [h q (by simp)]), ins_last n f r (fun q hq => h q (List.mem_cons_of_mem _ hq))]
    rfl
theorem before_irrefl : ∀ a : Nm, bytesBefore a a = false
  | [] => rfl
  | x :: r => by simp [bytesBefore, before_irrefl r]
theorem before_asymm {a b : Nm} (h : bytesBefore a b = true) : bytesBefore b a = false := by
  cases hq : bytesBefore b a with
  | false => rfl
  | true =>
    have := before_trans h hq
    rw [before_irrefl] at this
    cases this
theorem put_last {acc : Fs} {q : Nm × FV} (h : ∀ p ∈ acc, bytesBefore p.1 q.1 = true) : putF acc q.1 q.2 = acc ++ [q] := by
  have hd : delF acc q.1 = acc := del_none fun p hp e => by
    have := h p hp
    rw [e, before_irrefl] at this
    cases this
  unfold putF
  rw [hd]
  exact ins_last q.1 q.2 acc fun p hp => before_asymm (h p hp)
theorem ld_self : ∀ (l acc : Fs), riseF (acc ++ l) → (∀ p ∈ l, mayF p = true) → ldF acc l = some (acc ++ l)
  | [], acc, _, _ => by rw [List.append_nil]; rfl
  | q :: r, acc, h, hm => by
    have hb : ∀ p ∈ acc, bytesBefore p.1 q.1 = true := fun p hp => (List.pairwise_append.1 h).2.2 p hp q (by simp)
    have hno : (atF acc q.1).isSome = false := by
      cases hq : (atF acc q.1).isSome with
      | false => rfl
      | true =>
        unfold atF at hq
        rw [Option.isSome_map, List.find?_isSome] at hq
        obtain ⟨p, hp, e⟩ := hq
        have := hb p hp
        rw [show p.1 = q.1 by simpa using e, before_irrefl] at this
        cases this
    rw [ldF_cons hno (hm q (by simp)), put_last hb]
    have := ld_self r (acc ++ [q]) (by rw [List.append_assoc]; exact h) (fun p hp => hm p (List.mem_cons_of_mem _ hp))
    rw [this, List.append_assoc]
    rfl
theorem rise_view {l l' : Fs} (h : l.map vF = l'.map vF) (hr : riseF l) : riseF l' := by
  have h1 : l.map (·.1) = l'.map (·.1) := by
    have := congrArg (List.map (fun v : Nm × Int × List Int => v.1)) h
    rw [List.map_map, List.map_map] at this
    exact this
  have h2 : (l.map (·.1)).Pairwise (fun a b => bytesBefore a b = true) := List.pairwise_map.2 hr
  rw [h1] at h2
  exact List.pairwise_map.1 h2
theorem may_view {l l' : Fs} (h : l.map vF = l'.map vF) (t : ∀ p ∈ l, tidy p) (t' : ∀ p ∈ l', tidy p) (hm : ∀ p ∈ l, mayF p = true) : ∀ p ∈ l', mayF p = true := by
  intro p hp
  obtain ⟨i, hi, rfl⟩ := List.getElem_of_mem hp
  have hl : l.length = l'.length := by have := congrArg List.length h; simpa using this
  have hq : vF l[i] = vF l'[i] := by
    have := congrArg (fun x => x[i]?) h
    simpa [List.getElem?_eq_getElem hi, List.getElem?_eq_getElem (show i < l.length by omega)] using this
  rw [← mayF_view hq (t _ (List.getElem_mem _)) (t' _ hp)]
  exact hm _ (List.getElem_mem _)
/-- What is loaded may be loaded again. -/
theorem ld_again {l gs li : Fs} (h : ldF [] l = some gs) (ht : ∀ p ∈ l, tidy p) (hv : li.map vF = gs.map vF) (ht' : ∀ p ∈ li, tidy p) : ldF [] li = some li := by
  have h1 := ld_all (fun p => mayF p = true) l [] gs h (fun p hp => by cases hp) (fun p hp hm => hm)
  have h2 := ld_all tidy l [] gs h (fun p hp => by cases hp) (fun p hp _ => ht p hp)
  have h3 := ld_rise l [] gs h List.Pairwise.nil
  exact ld_self li [] (rise_view hv.symm h3) (may_view hv.symm h2 ht' h1)
/-- Both disks have the same files. -/
structure Both2 (w : World) (B gd gr : Nat) (pl pv : Value) (gs : Fs) : Prop where
  dk : ∃ mb fs, DiskAt w B gd pl mb fs ∧ fs.map vF = gs.map vF
  rd : ∃ A c, RDk w gr pv A gs.length c ∧ LstAt w B B (.slice A gs.length c) gs
  lo : B ≤ gr ∧ gr ≠ gd ∧ B ≤ w.heap.size
/-- The program's disk has the new files, the document's the old ones. -/
structure Half2 (w : World) (B gd gr : Nat) (pl pv : Value) (gs hs : Fs) : Prop where
  dk : ∃ mb fs, DiskAt w B gd pl mb fs ∧ fs.map vF = hs.map vF
  rd : ∃ A c, RDk w gr pv A gs.length c ∧ LstAt w B B (.slice A gs.length c) gs
  lo : B ≤ gr ∧ gr ≠ gd ∧ B ≤ w.heap.size
theorem Both2.later {w w' : World} {B gd gr : Nat} {pl pv : Value} {gs : Fs} (h : Both2 w B gd gr pl pv gs) (hb : Below w.heap.size w w') : Both2 w' B gd gr pl pv gs := by
  obtain ⟨⟨mb, fs, h1, h2⟩, ⟨A, c, h3, h4⟩, h5, h6, h7⟩ := h
  exact ⟨⟨mb, fs, h1.later hb, h2⟩, ⟨A, c, Row.later h3 hb, h4.later h7 hb⟩, h5, h6, Nat.le_trans h7 hb.size⟩
theorem Half2.later {w w' : World} {B gd gr : Nat} {pl pv : Value} {gs hs : Fs} (h : Half2 w B gd gr pl pv gs hs) (hb : Below w.heap.size w w') : Half2 w' B gd gr pl pv gs hs := by
  obtain ⟨⟨mb, fs, h1, h2⟩, ⟨A, c, h3, h4⟩, h5, h6, h7⟩ := h
  exact ⟨⟨mb, fs, h1.later hb, h2⟩, ⟨A, c, Row.later h3 hb, h4.later h7 hb⟩, h5, h6, Nat.le_trans h7 hb.size⟩
/-- What a list makes: its files, or those that were. -/
def nextF (gs l : Fs) (m : Nat) : Fs := if m ≤ 64 then (ldF [] l).getD gs else gs
def errF (l : Fs) (m : Nat) : Int := if m ≤ 64 then (if (ldF [] l).isSome then 0 else 1) else 1
theorem lst_buts {w w' : World} {B T : Nat} {v : Value} {fs : Fs} {S : List Nat} (h : LstAt w B T v fs) (hb : Buts S w w') (hS : ∀ k ∈ S, B ≤ k) (hn : ∀ k, v.ownBlock = some k → k ∉ S) (hB : B ≤ w.heap.size) : LstAt w' B T v fs :=
  ⟨⟨h.row.1, h.row.2.imp id fun ⟨g, cap, cur, e1, h1, hg, h2⟩ => ⟨g, cap, cur, e1, h1, (hb.block g (Array.getElem?_eq_some_iff.1 hg).1 (hn g (by rw [e1]; rfl))).trans hg, h2⟩⟩, fun p hp => (h.bs p hp).below (hb.below hS hB)⟩
theorem lst_not_row {w : World} {B T g t : Nat} {v : Value} {fs : Fs} {vs : List Value} (h : LstAt w B T v fs) (hr : Row w t g vs) (ht : t ≠ 48) : ∀ k, v.ownBlock = some k → k ≠ g := by
  intro k hk e
  subst e
  rcases h.row.2 with ⟨rfl, _⟩ | ⟨g, cap, cur, rfl, _, hg, _⟩
  · cases hk
  · injection hk with hk
    subst hk
    have := hr.symm.trans hg
    simp at this
    exact ht this.2
theorem half_any (w : World) (B gd gr : Nat) (pl pv : Value) (gs l : Fs) (A : Option Addr) (m c : Nat) (h : Both2 w B gd gr pl pv gs) (hl : FlAt w B A m l) (hln : ∀ p ∈ l, p.1.length ≤ maxLen) (hm : m ≤ 100) :
    Calls Try.prog 33 #[ptr gd, .slice A m c] w fun e w' => e = .returned (.int .i64 (errF l m)) ∧ Half2 w' B gd gr pl pv gs (nextF gs l m) ∧ Buts [gd] w w' := by
  obtain ⟨⟨mb, fs, h1, h2⟩, ⟨A', c', h3, h4⟩, h5, h6, h7⟩ := h
  refine (load_any w B gd mb pl fs h7 h1 A m c l (hl.up h7) hln (by omega)).mono fun e w' hq => ?_
  have hgd : B ≤ gd := h1.lo.1
  rcases hq with ⟨hm64, g2, mb', hs, hld, hv, rfl, hD, hb⟩ | ⟨hno, rfl, hb⟩
  · have he : errF l m = 0 := by unfold errF; rw [if_pos hm64, hld]; rfl
    have hn : nextF gs l m = g2 := by unfold nextF; rw [if_pos hm64, hld]; rfl
    rw [he, hn]
    refine ⟨rfl, ⟨⟨mb', hs, hD, hv⟩, ⟨A', c', h3.buts hb (by simpa using h6), lst_buts h4 hb (fun k hk => by obtain rfl := List.mem_singleton.1 hk; exact hgd) (fun k hk hm => lst_not_row h4 h1.row (by decide) k hk (List.mem_singleton.1 hm)) h7⟩, h5, h6, Nat.le_trans h7 hb.size⟩, hb⟩
  · have he : errF l m = 1 := by
      unfold errF
      by_cases hm64 : m ≤ 64
      · rw [if_pos hm64]
        rcases hno with h | h
        · omega
        · rw [h]; rfl
      · rw [if_neg hm64]
    have hn : nextF gs l m = gs := by
      unfold nextF
      by_cases hm64 : m ≤ 64
      · rw [if_pos hm64]
        rcases hno with h | h
        · omega
        · rw [h]; rfl
      · rw [if_neg hm64]
    rw [he, hn]
    exact ⟨rfl, ⟨⟨mb, fs, h1.later hb, h2⟩, ⟨A', c', Row.later h3 hb, h4.later h7 hb⟩, h5, h6, Nat.le_trans h7 hb.size⟩, Buts.of hb _⟩
theorem both_any2 (w : World) (B gd gr : Nat) (pl pv : Value) (gs l : Fs) (A : Option Addr) (m c : Nat) (h : Half2 w B gd gr pl pv gs (nextF gs l m)) (hl : FlAt w B A m l) (hm : m ≤ 100) :
    Calls Try.prog 34 #[ptr gr, .slice A m c] w fun e w' => e = .returned (.int .i64 (errF l m)) ∧ Both2 w' B gd gr pl pv (nextF gs l m) ∧ Buts [gr] w w' := by
  obtain ⟨⟨mb, fs, h1, h2⟩, ⟨A', c', h3, h4⟩, h5, h6, h7⟩ := h
  refine (rload_any w B gr pv A' gs.length c' A m c l h7 h5 h3 hl hm).mono fun e w' hq => ?_
  have hd : ∀ {w'}, Buts [gr] w w' → DiskAt w' B gd pl mb fs := fun hb => h1.buts hb fun k hk hm => by
    obtain rfl := List.mem_singleton.1 hm
    have hk2 := hk
    unfold dblocks at hk2
    rcases List.mem_cons.1 hk2 with e | hk2
    · exact h6 e
    · rcases List.mem_cons.1 hk2 with e | hk2
      · exact h1.map.ne_row h3 e.symm
      · obtain ⟨p, hp, hkp⟩ := List.mem_flatMap.1 hk2
        exact owf_not_row (h1.files.own p hp) h3 (by decide) hkp
  rcases hq with ⟨hm64, g2, A2, c2, hld, rfl, hR, hL, hb⟩ | ⟨hno, rfl, hb⟩
  · have he : errF l m = 0 := by unfold errF; rw [if_pos hm64, hld]; rfl
    have hn : nextF gs l m = g2 := by unfold nextF; rw [if_pos hm64, hld]; rfl
    rw [hn] at h2
    rw [he, hn]
    exact ⟨rfl, ⟨⟨mb, fs, hd hb, h2⟩, ⟨A2, c2, hR, hL.lo h7⟩, h5, h6, Nat.le_trans h7 hb.size⟩, hb⟩
  · have he : errF l m = 1 := by
      unfold errF
      by_cases hm64 : m ≤ 64
      · rw [if_pos hm64]
        rcases hno with h | h
        · omega
        · rw [h]; rfl
      · rw [if_neg hm64]
    have hn : nextF gs l m = gs := by
      unfold nextF
      by_cases hm64 : m ≤ 64
      · rw [if_pos hm64]
        rcases hno with h | h
        · omega
        · rw [h]; rfl
      · rw [if_neg hm64]
    rw [hn] at h2
    rw [he, hn]
    exact ⟨rfl, ⟨⟨mb, fs, h1.later hb, h2⟩, ⟨A', c', Row.later h3 hb, h4.later h7 hb⟩, h5, h6, Nat.le_trans h7 hb.size⟩, Buts.of hb _⟩
end Go.Proofs.Ytfijhfolanhifaa

/-
  The law DiskLoads: its loop over both lists. Own work.
-/
namespace Go.Proofs.Ytfijhfolanhifaa
open Go.RowKit Go.Maps Go.ChangeMaps
section
variable {P : Program}
/-- '[]T{}'. -/
theorem wl_build0N {ops : Array Oper} {rest : List Oper} {o : Oper} {a : Act} {w : World} {Q : Exit → Act → World → Prop} (hgd : o.guard = none) (t : TypeId) (ho : o.op = .buildSlice t 0 #[]) (e : TypeId) (i : TypeInfo) (size : Nat) (ht : P.underlying t = some (.slice e)) (hi : P.info? e = some i) (hsz : i.size = size)
    (hk : ∀ v w', w'.ownsRow w.heap.size e size v 0 [] → Below w.heap.size w w' → wpList P ops Q rest (a.put o.dst v) w') : wpList P ops Q (o :: rest) a w := by
  refine wpList_plain hgd fun K hK => ?_
  have hss : ∀ w, (sizeOf e).run P w = .ok size w := fun w => by simp [sizeOf, typeInfo, hi, hsz]
  have hr : (Array.range 0) = #[] := rfl
  have hrun : (Instr.buildSlice t 0 #[]).run P w = .ok (.slice (some ⟨w.heap.size, 0, none⟩) 0 0) (w.alloc (.cells #[] e)) := by
    simp [Instr.buildSlice, run_underlying ht, hss, hr, Instr.fill, newRow]
  unfold Oper.wp execOp
  simp only [ho, List.map_toArray, List.map_nil, hrun, Sem.run_bind, Result.andThen_ok, Sem.run_pure]
  exact hK _ _ (hk _ _ (World.ownsRow_made w #[] 0 (Nat.le_refl _) (by simp [maxLen]) (by simp)) ((Below.refl _ _).alloc (Nat.le_refl _) _))
/-- 'append(l, src...)': the row is one's own, the source lies wherever, or is nil. -/
theorem wl_append_src {w : World} {ops : Array Oper} {rest : List Oper} {o : Oper} {a : Act} {Q : Exit → Act → World → Prop} (hgd : o.guard = none) (s x : Operand) (t : TypeId) (ho : o.op = .call { callee := .builtin .append, args := #[s, x], argTypes := #[t, t] })
    (base : Nat) (e : TypeId) (i : TypeInfo) (z : Value) (size bytes : Nat) (ht : P.underlying t = some (.slice e)) (hi : P.info? e = some i) (hz : i.zero = some z) (hsz : i.size = size) (hby : i.bytes = bytes) (hzc : z.cells.size = size) (h0 : 0 < size)
    (v : Value) (n : Nat) (xs : List Value) (hs : a.eval s = v) (hown : w.ownsRow base e size v n xs) (A : Option Addr) (m c : Nat) (ys : List Value) (hx : a.eval x = .slice A m c) (hyl : ys.length = m * size) (hA : A = none → m = 0) (hsrc : ∀ ad, A = some ad → ∀ j u, ys[j]? = some u → w.cell? (ad.add j) = some u) (h1 : ∀ u ∈ ys, u.oneCell' = true) (h63 : n + m ≤ maxLen) (hbytes : (n + m) * bytes ≤ 140737488355328) (hbase : base ≤ w.heap.size)
    (hk : ∀ v' w', w'.ownsRow base e size v' (n + m) (xs ++ ys) → w.grownBy w' v.ownBlock → wpList P ops Q rest (a.put o.dst v') w') : wpList P ops Q (o :: rest) a w := by
  refine wpList_plain hgd fun K hK => ?_
  have key : ∃ v' w', (Builtin.append_ #[t, t] o.type #[v, .slice A m c]).run P w = .ok v' w' ∧ w'.ownsRow base e size v' (n + m) (xs ++ ys) ∧ w.grownBy w' v.ownBlock := by
    rcases A with _ | ad
    · obtain rfl := hA rfl
      obtain rfl : ys = [] := List.eq_nil_of_length_eq_zero (by omega)
      refine ⟨v, w, ?_, by simpa using hown, ⟨rfl, rfl, rfl, Nat.le_refl _, fun _ _ _ => rfl⟩⟩
      rcases hown.2 with ⟨rfl, rfl⟩ | ⟨g, cap, cur, rfl, _, _, hnc, _⟩
      · simp [Builtin.append_, run_underlying ht, sizeOf, typeInfo, hi, Builtin.lenOf, Builtin.firstCells]
      · simp [Builtin.append_, run_underlying ht, sizeOf, typeInfo, hi, Builtin.lenOf, Builtin.firstCells, hnc, storeCells]
    · obtain ⟨v', w', r1, r2, r3, _⟩ := run_append_own (P := P) w base t o.type e i z size bytes ht hi hz hsz hby hzc h0 v n xs hown ad m c ys hyl (hsrc ad rfl) h1 h63 hbytes hbase
      exact ⟨v', w', r1, r2, r3⟩
  obtain ⟨v', w', hrun, h2, h3⟩ := key
  unfold Oper.wp execOp
  simp only [ho, resolve, invoke, builtin, Sem.run_bind, Sem.run_pure, Result.andThen_ok, List.map_toArray, List.map_cons, List.map_nil, hs, hx, hrun]
  exact hK _ _ (hk v' w' h2 h3)
end
theorem own_form {w : World} {base e size n : Nat} {v : Value} {xs : List Value} (h : w.ownsRow base e size v n xs) (hn : 0 < n) : ∃ g cap, v = .slice (some ⟨g, 0, none⟩) n cap ∧ base ≤ g ∧ g < w.heap.size := by
  rcases h.2 with ⟨_, h0⟩ | ⟨g, cap, cur, hv, hb, hg, _⟩
  · omega
  · exact ⟨g, cap, hv, hb, (Array.getElem?_eq_some_iff.1 hg).1⟩
theorem cellsL_inv {fs : Fs} {k : Nat} {u : Value} (h : (cellsL fs)[k]? = some u) : ∃ p, fs[k / 3]? = some p ∧ (fcs p)[k % 3]? = some u := by
  have hk := (List.getElem?_eq_some_iff.1 h).1
  rw [cellsL_len] at hk
  have hi : k / 3 < fs.length := by omega
  refine ⟨fs[k / 3], List.getElem?_eq_getElem hi, ?_⟩
  obtain ⟨v, hv⟩ : ∃ v, (fcs fs[k / 3])[k % 3]? = some v := ⟨_, List.getElem?_eq_getElem (show k % 3 < 3 by omega)⟩
  have := cellsL_at fs (k / 3) _ (k % 3) v (List.getElem?_eq_getElem hi) hv
  rw [show k / 3 * 3 + k % 3 = k by omega, h] at this
  rw [hv, this]
theorem FlAt.src {w : World} {B m : Nat} {A : Option Addr} {fs : Fs} (h : FlAt w B A m fs) : (A = none → m = 0) ∧ ∀ ad, A = some ad → ∀ j u, (cellsL fs)[j]? = some u → w.cell? (ad.add j) = some u := by
  refine ⟨fun e => ?_, fun ad e j u hj => ?_⟩
  · rcases Nat.eq_zero_or_pos m with h0 | h0
    · exact h0
    · obtain ⟨b, o, e2, _⟩ := h.2.1 h0
      rw [e] at e2; cases e2
  · obtain ⟨p, hp, hv⟩ := cellsL_inv hj
    have hlt := (List.getElem?_eq_some_iff.1 hp).1
    obtain ⟨b, o, e2, _, hc⟩ := h.2.1 (by have := h.1; omega)
    obtain rfl := Option.some.inj (e.symm.trans e2)
    rw [addr_plain, show o + j = o + j / 3 * 3 + j % 3 by omega]
    exact hc (j / 3) p hp (j % 3) u hv
theorem one_cellsL (fs : Fs) : ∀ u ∈ cellsL fs, u.oneCell' = true := by
  intro u hu
  obtain ⟨p, hp, hq⟩ := List.mem_flatMap.1 hu
  exact one_fcs p u hq
end Go.Proofs.Ytfijhfolanhifaa

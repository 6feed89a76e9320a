/-
  Powers: On; a power that no call made; the law DiskPower: contract. Own work.
-/
import Derived.Test.YtaflmiopaiigbaaDiskQ
namespace Go.Proofs.Ytaflmiopaiigbaa
open Go.RowKit Go.Maps Go.ChangeMaps
set_option linter.unusedVariables false
set_option linter.unusedSimpArgs false
set_option maxRecDepth 100000 in
theorem pOn_any (w : World) (gP gp : Nat) (on : Bool) (fuse : Int) (hp : Pwr w gP gp) (h : Plg w gp on fuse) : Calls Try.prog 16 #[ptr gP] w fun e w' => e = .returned (.bool on) ∧ w = w' := by
  go_enter Try.func16, Try.ntmps16
  go_wp2_with fail
  refine (shared_any w gP _ hp).mono ?_
  rintro en w1 ⟨rfl, rfl⟩
  go_wp2_with fail
  refine (live_any w gp on fuse h).mono ?_
  rintro en w1 ⟨rfl, rfl⟩
  go_wp2_with fail
  go_ret
  exact ⟨rfl, rfl⟩
/-- A power that no call made. -/
def PwNone (w : World) (v : Value) : Prop := v = .pointer none ∨ ∃ g, v = ptr g ∧ Row w 57 g [.pointer none]
theorem shared_none (w : World) (v : Value) (h : PwNone w v) : Calls Try.prog 37 #[v] w fun e w' => e = .returned (.pointer none) ∧ w = w' := by
  rcases h with rfl | ⟨g, rfl, h⟩
  · exact shared_nil w
  · exact shared_any w g _ h
set_option maxRecDepth 100000 in
theorem burn_nil (w : World) (m : Int) : Calls Try.prog 49 #[.pointer none, .int .i64 m] w fun e w' => e = .returned (.tuple #[]) ∧ w = w' := by
  go_enter Try.func49, Try.ntmps49
  go_wp2_with fail
  go_end0
  exact ⟨rfl, rfl⟩
set_option maxRecDepth 100000 in
theorem mend_nil (w : World) : Calls Try.prog 36 #[.pointer none] w fun e w' => e = .returned (.tuple #[]) ∧ w = w' := by
  go_enter Try.func36, Try.ntmps36
  go_wp2_with fail
  go_end0
  exact ⟨rfl, rfl⟩
set_option maxRecDepth 100000 in
theorem pFuse_none (w : World) (v : Value) (m : Int) (h : PwNone w v) : Calls Try.prog 20 #[v, .int .i64 m] w fun e w' => e = .returned (.tuple #[]) ∧ w = w' := by
  have hS := shared_none w v h
  clear h
  go_enter Try.func20, Try.ntmps20
  go_wp2_with fail
  refine hS.mono ?_
  rintro en w1 ⟨rfl, rfl⟩
  clear hS
  go_wp2_with fail
  refine (burn_nil w m).mono ?_
  rintro en w1 ⟨rfl, rfl⟩
  go_wp2_with fail
  go_end0
  exact ⟨rfl, rfl⟩
set_option maxRecDepth 100000 in
theorem pMend_none (w : World) (v : Value) (h : PwNone w v) : Calls Try.prog 22 #[v] w fun e w' => e = .returned (.tuple #[]) ∧ w = w' := by
  have hS := shared_none w v h
  clear h
  go_enter Try.func22, Try.ntmps22
  go_wp2_with fail
  refine hS.mono ?_
  rintro en w1 ⟨rfl, rfl⟩
  clear hS
  go_wp2_with fail
  refine (mend_nil w).mono ?_
  rintro en w1 ⟨rfl, rfl⟩
  go_wp2_with fail
  go_end0
  exact ⟨rfl, rfl⟩
set_option maxRecDepth 100000 in
theorem pOn_none (w : World) (v : Value) (h : PwNone w v) : Calls Try.prog 16 #[v] w fun e w' => e = .returned (.bool false) ∧ w = w' := by
  have hS := shared_none w v h
  clear h
  go_enter Try.func16, Try.ntmps16
  go_wp2_with fail
  refine hS.mono ?_
  rintro en w1 ⟨rfl, rfl⟩
  clear hS
  go_wp2_with fail
  refine (live_nil w).mono ?_
  rintro en w1 ⟨rfl, rfl⟩
  go_wp2_with fail
  go_ret
  exact ⟨rfl, rfl⟩
set_option maxRecDepth 100000 in
theorem pAct_none (w : World) (v : Value) (h : PwNone w v) : Calls Try.prog 23 #[v] w fun e w' => e = .returned (.int .i64 8) ∧ w = w' := by
  have hS := shared_none w v h
  clear h
  go_enter Try.func23, Try.ntmps23
  go_wp2_with fail
  refine hS.mono ?_
  rintro en w1 ⟨rfl, rfl⟩
  clear hS
  go_wp2_with fail
  refine (act_nil w).mono ?_
  rintro en w1 ⟨rfl, rfl⟩
  go_wp2_with fail
  go_ret
  exact ⟨rfl, rfl⟩

set_option maxRecDepth 100000 in
theorem eqB (on : Bool) (w : World) : (Op.equal 4 (.bool on) (.bool (!on))).run Try.prog w = .ok false w := by cases on <;> rfl
def SPp (gP gq : Nat) (on2 : Bool) (opn : Nat) (v : Value) : Prop :=
  match opn with
  | 0 => v = ptr gP
  | 1 => v = .bool on2
  | 2 | 3 => v = ptr gq
  | 4 => v = .pointer (some ⟨gq, 0, none⟩)
  | 5 => v = .bool (!on2)
  | 6 => v = .bool false
  | _ => True

def FNoP  (opn : Nat) (v : Value) (w : World) : Prop :=
  match opn with
  | _ => True
theorem FNoP_mono  : ∀ j v w w', FNoP  j v w → Below w.heap.size w w' → FNoP  j v w' := by
  intro j v w w' h hb
  unfold FNoP at h ⊢
  split at h
  · trivial

set_option maxRecDepth 100000 in
set_option maxHeartbeats 2000000 in
theorem diskPower_any (A : Option Addr) (m c : Nat) (cs : List Int) (w : World) (h : IsAt w w.heap.size A m cs) :
    Calls Try.prog 4 #[.slice A m c] w fun e w' => e = .returned (.bool true) ∧ Below w.heap.size w w' := by
  by_cases hlong : (60 : Int) < (m : Int)
  · have hd : decide ((60 : Int) < (m : Int)) = true := by simp; omega
    go_enter Try.func4, Try.ntmps4
    go_wp2_with fail
    refine (awakeD_any w).mono ?_
    rintro e w2 ⟨rfl, b2⟩
    go_wp2_with fail
    go_ret
    exact ⟨rfl, b2⟩
  · have hd : decide ((60 : Int) < (m : Int)) = false := by simp; omega
    have hm : m ≤ 60 := by omega
    clear hlong
    have HH := hide h
    clear h
    obtain ⟨B, hBe⟩ : ∃ B, B = w.heap.size := ⟨_, rfl⟩
    have hBw : B ≤ w.heap.size := Nat.le_of_eq hBe
    go_enter Try.func4, Try.ntmps4
    go_wp2_with fail
    refine (plug_any w).mono ?_
    rintro en w1 ⟨gP, gp, rfl, hPw, hPl, hgP, hgp, hne, b1⟩
    go_wp2_with fail
    refine (rPlug_any w1).mono ?_
    rintro en w2 ⟨gq, rfl, hRp, hgq, b2⟩
    rw [← hBe] at hgP hgp b1
    have hPw := Row.later hPw b2
    have hPl := Row.later hPl b2
    have hgq : B ≤ gq := Nat.le_trans (Nat.le_trans hBw b1.size) hgq
    have B2 : Below B w w2 := b1.trans (b2.mono (Nat.le_trans hBw b1.size))
    clear b1 b2
    go_wp2_with fail
    go_loopw [5] (fun iv wr => ∃ (i : Nat) (on : Bool) (fuse : Int), i ≤ m ∧ iv = .int .i64 i ∧ Pwr wr gP gp ∧ Plg wr gp on fuse ∧ RPw wr gq (!on) (max fuse (-1)) ∧ isI fuse ∧ Below B w wr) (fun iv _ => m - (intOf iv).toNat)
    case atStart => exact ⟨0, true, -1, by omega, rfl, hPw, hPl, hRp, isI_m1, B2⟩
    case round =>
      clear hPw hPl hRp B2 hne
      obtain ⟨i, on, fuse, him, rfl, hPw, hPl, hRp, hfu, hBr⟩ := hrel
      have nqp := rne hRp hPl (by decide)
      have nqP := rne hRp hPw (by decide)
      have npP := rne hPl hPw (by decide)
      by_cases hi : i < m
      · obtain ⟨cb, co, rfl, hcb, hcc⟩ := HH.out.2 (by omega)
        have cc := (hBr.cell (p := ⟨cb, co + i, none⟩) (hBe ▸ hcb)).trans (hcc i hi)
        clear hcc
        generalize cs.getD i 0 = x at cc
        have hBs := Nat.le_trans hBw hBr.size
        by_cases k0 : (IntKind.u64.wrap x).tmod 4 = 0
        · have z0 : ((IntKind.u64.wrap x).tmod 4 == 0) = true := by simpa using k0
          go_wp2_with fail
          refine (pFuse_any wr gP gp on fuse _ hPw hPl).mono ?_
          rintro e wa ⟨rfl, hPl, oa⟩
          have hPw := hPw.only oa npP.symm
          have hRp := hRp.only oa nqp
          have ba := oa.below hgp
          have cc := (ba.cell (p := ⟨cb, co + i, none⟩) (hBe ▸ hcb)).trans cc
          have hBr := hBr.trans ba
          go_wp2_with fail
          refine (rFuse_any wa gq (!on) (max fuse (-1)) _ hRp).mono ?_
          rintro e wb ⟨rfl, hRp, ob⟩
          have hPw := hPw.only ob nqP.symm
          have hPl := hPl.only ob nqp.symm
          have hBr := hBr.trans (ob.below hgq)
          have hfu : isI (wrap64 (x.tdiv 4)) := by unfold isI; generalize x.tdiv 4 = y; constructor <;> (unfold wrap64; omega)
          generalize wrap64 (x.tdiv 4) = fuse2 at hPl hRp hfu ⊢
          obtain ⟨on2, ho2⟩ : ∃ b, b = on := ⟨_, rfl⟩
          rw [← ho2] at hPl hRp
          clear cc oa ob ba z0 k0 ho2
          go_wp2_with fail
          rename_i K6 hK6
          refine wp_region_vals [1] (SPp gP gq on2) (JF wb [1] FNoP) (by kernel_rfl) (by kernel_rfl) (by kernel_rfl) (by kernel_rfl) (by kernel_rfl) (JF.start _) ?obsE ?heE
          case obsE =>
            refine ⟨?_, ?_, ?_, ?_, ?_, ?_, ?_, trivial⟩
            · exact .inl ⟨by kernel_rfl, fun L a1 w1 n h => ⟨_, rfl, run_move (.tmp 3) rfl (h.var n 3 (by kernel_rfl))⟩⟩
            · refine .inr fun L a1 w1 n h K hK => ?_
              have e0 : a1.eval (.tmp 57) = ptr gP := h.dep n 0 57 (by kernel_rfl) rfl
              refine JF.call (FNoP_mono ) h hK 58 rfl 16 _ _ #[ptr gP] rfl Try.call16 ?_ (pOn_any w1 gP gp on2 fuse2 (Row.later hPw h.inv.1) (Row.later hPl h.inv.1)) ?_
              · simp only [List.map_toArray, List.map_cons, List.map_nil, e0]
              · rintro e w3 ⟨rfl, rfl⟩
                exact ⟨_, rfl, rfl, trivial, (Below.refl _ _)⟩
            · exact .inl ⟨by kernel_rfl, fun L a1 w1 n h => ⟨_, rfl, run_move (.tmp 4) rfl (h.var n 4 (by kernel_rfl))⟩⟩
            · refine .inl ⟨by kernel_rfl, fun L a1 w1 n h => ⟨ptr gq, rfl, ?_⟩⟩
              have e0 : a1.eval (.tmp 59) = _ := h.dep n 2 59 (by kernel_rfl) rfl
              unfold execOp
              simp only [e0]
              go_simp
            · refine .inl ⟨by kernel_rfl, fun L a1 w1 n h => ⟨.pointer (some ⟨gq, 0, none⟩), rfl, ?_⟩⟩
              have e0 : a1.eval (.tmp 60) = _ := h.dep n 3 60 (by kernel_rfl) rfl
              unfold execOp
              simp only [e0]
              go_simp
            · exact .inl ⟨by kernel_rfl, fun L a1 w1 n h => ⟨_, rfl, run_loadA 4 (.tmp 61) ⟨gq, 0, none⟩ rfl Try.isAgg4 (h.dep n 4 61 (by kernel_rfl) rfl) ((Row.later hRp h.inv.1).cell (j := 0) (v := .bool (!on2)) rfl)⟩⟩
            · exact .inl ⟨by kernel_rfl, fun L a1 w1 n h => ⟨_, rfl, run_eqlB (.tmp 58) (.tmp 62) _ _ rfl (h.dep n 1 58 (by kernel_rfl) rfl) (h.dep n 5 62 (by kernel_rfl) rfl) (eqB on2)⟩⟩
          case heE =>
            intro V w9 hV2 hJ
            have hz : V 6 = .bool false := hV2 6 63 rfl
            have b9 : Below wb.heap.size wb w9 := hJ.1
            have hPw := Row.later hPw b9
            have hPl := Row.later hPl b9
            have hRp := Row.later hRp b9
            have hBr := hBr.trans (b9.mono (Nat.le_trans hBw hBr.size))
            clear hV2 hJ b9
            simp only [putOps, List.setIfInBounds_toArray, List.set_cons_succ, List.set_cons_zero, Nat.reduceAdd]
            rw [hz]
            refine hK6 _ _ ?_
            clear hz
            go_wp2_with fail
            go_roundw
            case rel => exact ⟨i + 1, on2, fuse2, by omega, by go_num, hPw, hPl, hRp, hfu, hBr⟩
            case measure => simp [intOf]; omega
        · have z0 : ((IntKind.u64.wrap x).tmod 4 == 0) = false := by simpa using k0
          by_cases k1 : (IntKind.u64.wrap x).tmod 4 = 1
          · have z1 : ((IntKind.u64.wrap x).tmod 4 == 1) = true := by simpa using k1
            go_wp2_with fail
            refine (pMend_any wr gP gp on fuse hPw hPl).mono ?_
            rintro e wa ⟨rfl, hPl, oa⟩
            have hPw := hPw.only oa npP.symm
            have hRp := hRp.only oa nqp
            have hBr := hBr.trans (oa.below hgp)
            go_wp2_with (first
              | ((with_reducible refine wl_store rfl 4 (.tmp 54) (.const (.bool false)) gq 0 42 [.bool (!on), .int .i64 (max fuse (-1))] (.bool false) rfl szBool rfl rfl hRp (lt2 _ _ (by decide)) rfl ?_); intro wb hR2' ob; have hR2 : Row wb 42 gq [.bool false, .int .i64 (max fuse (-1))] := hR2')
              | (with_reducible refine wl_store rfl 3 (.tmp 56) (.const (.int .i64 (-1))) gq 1 42 [.bool false, .int .i64 (max fuse (-1))] (.int .i64 (-1)) rfl szInt rfl rfl hR2 (lt2 _ _ (by decide)) rfl ?_; intro wc hR3 oc))
            rename_i K6 hK6
            have hPw := (hPw.only ob nqP.symm).only oc nqP.symm
            have hPl := (hPl.only ob nqp.symm).only oc nqp.symm
            have hBr := (hBr.trans (ob.below hgq)).trans (oc.below hgq)
            have hRp : RPw wc gq (!true) (max (-1) (-1)) := hR3
            have hfu := isI_m1
            obtain ⟨on2, ho2⟩ : ∃ b, b = true := ⟨_, rfl⟩
            rw [← ho2] at hPl hRp
            obtain ⟨fuse2, hf2⟩ : ∃ b : Int, b = -1 := ⟨_, rfl⟩
            have hRp : RPw wc gq (!on2) (max fuse2 (-1)) := hf2 ▸ hRp
            rw [← hf2] at hPl hfu
            clear cc oa ob oc z0 z1 k0 k1 ho2 hf2 hR2' hR2 hR3
            skip
            refine wp_region_vals [1] (SPp gP gq on2) (JF wc [1] FNoP) (by kernel_rfl) (by kernel_rfl) (by kernel_rfl) (by kernel_rfl) (by kernel_rfl) (JF.start _) ?obsE ?heE
            case obsE =>
              refine ⟨?_, ?_, ?_, ?_, ?_, ?_, ?_, trivial⟩
              · exact .inl ⟨by kernel_rfl, fun L a1 w1 n h => ⟨_, rfl, run_move (.tmp 3) rfl (h.var n 3 (by kernel_rfl))⟩⟩
              · refine .inr fun L a1 w1 n h K hK => ?_
                have e0 : a1.eval (.tmp 57) = ptr gP := h.dep n 0 57 (by kernel_rfl) rfl
                refine JF.call (FNoP_mono ) h hK 58 rfl 16 _ _ #[ptr gP] rfl Try.call16 ?_ (pOn_any w1 gP gp on2 fuse2 (Row.later hPw h.inv.1) (Row.later hPl h.inv.1)) ?_
                · simp only [List.map_toArray, List.map_cons, List.map_nil, e0]
                · rintro e w3 ⟨rfl, rfl⟩
                  exact ⟨_, rfl, rfl, trivial, (Below.refl _ _)⟩
              · exact .inl ⟨by kernel_rfl, fun L a1 w1 n h => ⟨_, rfl, run_move (.tmp 4) rfl (h.var n 4 (by kernel_rfl))⟩⟩
              · refine .inl ⟨by kernel_rfl, fun L a1 w1 n h => ⟨ptr gq, rfl, ?_⟩⟩
                have e0 : a1.eval (.tmp 59) = _ := h.dep n 2 59 (by kernel_rfl) rfl
                unfold execOp
                simp only [e0]
                go_simp
              · refine .inl ⟨by kernel_rfl, fun L a1 w1 n h => ⟨.pointer (some ⟨gq, 0, none⟩), rfl, ?_⟩⟩
                have e0 : a1.eval (.tmp 60) = _ := h.dep n 3 60 (by kernel_rfl) rfl
                unfold execOp
                simp only [e0]
                go_simp
              · exact .inl ⟨by kernel_rfl, fun L a1 w1 n h => ⟨_, rfl, run_loadA 4 (.tmp 61) ⟨gq, 0, none⟩ rfl Try.isAgg4 (h.dep n 4 61 (by kernel_rfl) rfl) ((Row.later hRp h.inv.1).cell (j := 0) (v := .bool (!on2)) rfl)⟩⟩
              · exact .inl ⟨by kernel_rfl, fun L a1 w1 n h => ⟨_, rfl, run_eqlB (.tmp 58) (.tmp 62) _ _ rfl (h.dep n 1 58 (by kernel_rfl) rfl) (h.dep n 5 62 (by kernel_rfl) rfl) (eqB on2)⟩⟩
            case heE =>
              intro V w9 hV2 hJ
              have hz : V 6 = .bool false := hV2 6 63 rfl
              have b9 : Below wc.heap.size wc w9 := hJ.1
              have hPw := Row.later hPw b9
              have hPl := Row.later hPl b9
              have hRp := Row.later hRp b9
              have hBr := hBr.trans (b9.mono (Nat.le_trans hBw hBr.size))
              clear hV2 hJ b9
              simp only [putOps, List.setIfInBounds_toArray, List.set_cons_succ, List.set_cons_zero, Nat.reduceAdd]
              rw [hz]
              refine hK6 _ _ ?_
              clear hz
              go_wp2_with fail
              go_roundw
              case rel => exact ⟨i + 1, on2, fuse2, by omega, by go_num, hPw, hPl, hRp, hfu, hBr⟩
              case measure => simp [intOf]; omega
          · have z1 : ((IntKind.u64.wrap x).tmod 4 == 1) = false := by simpa using k1
            go_wp2_with fail
            refine (pAct_any wr gP gp on fuse hPw hPl hfu).mono ?_
            rintro e wa ⟨rfl, hPl, oa⟩
            have hPw := hPw.only oa npP.symm
            have hRp := hRp.only oa nqp
            have hBr := hBr.trans (oa.below hgp)
            go_wp2_with fail
            refine (rAct_any wa gq on fuse hRp hfu).mono ?_
            rintro e wb ⟨rfl, hRp, ob⟩
            have hPw := hPw.only ob nqP.symm
            have hPl := hPl.only ob nqp.symm
            have hBr := hBr.trans (ob.below hgq)
            have hfu : isI (actF on fuse) := by
              unfold actF isI at *
              split <;> omega
            generalize actE on fuse = ev
            generalize actF on fuse = fuse2 at hPl hRp hfu
            generalize (on && actOn on fuse) = on2 at hPl hRp
            clear cc oa ob z0 z1 k0 k1
            go_wp2_with fail
            rename_i K6 hK6
            refine wp_region_vals [1] (SPp gP gq on2) (JF wb [1] FNoP) (by kernel_rfl) (by kernel_rfl) (by kernel_rfl) (by kernel_rfl) (by kernel_rfl) (JF.start _) ?obsE ?heE
            case obsE =>
              refine ⟨?_, ?_, ?_, ?_, ?_, ?_, ?_, trivial⟩
              · exact .inl ⟨by kernel_rfl, fun L a1 w1 n h => ⟨_, rfl, run_move (.tmp 3) rfl (h.var n 3 (by kernel_rfl))⟩⟩
              · refine .inr fun L a1 w1 n h K hK => ?_
                have e0 : a1.eval (.tmp 57) = ptr gP := h.dep n 0 57 (by kernel_rfl) rfl
                refine JF.call (FNoP_mono ) h hK 58 rfl 16 _ _ #[ptr gP] rfl Try.call16 ?_ (pOn_any w1 gP gp on2 fuse2 (Row.later hPw h.inv.1) (Row.later hPl h.inv.1)) ?_
                · simp only [List.map_toArray, List.map_cons, List.map_nil, e0]
                · rintro e w3 ⟨rfl, rfl⟩
                  exact ⟨_, rfl, rfl, trivial, (Below.refl _ _)⟩
              · exact .inl ⟨by kernel_rfl, fun L a1 w1 n h => ⟨_, rfl, run_move (.tmp 4) rfl (h.var n 4 (by kernel_rfl))⟩⟩
              · refine .inl ⟨by kernel_rfl, fun L a1 w1 n h => ⟨ptr gq, rfl, ?_⟩⟩
                have e0 : a1.eval (.tmp 59) = _ := h.dep n 2 59 (by kernel_rfl) rfl
                unfold execOp
                simp only [e0]
                go_simp
              · refine .inl ⟨by kernel_rfl, fun L a1 w1 n h => ⟨.pointer (some ⟨gq, 0, none⟩), rfl, ?_⟩⟩
                have e0 : a1.eval (.tmp 60) = _ := h.dep n 3 60 (by kernel_rfl) rfl
                unfold execOp
                simp only [e0]
                go_simp
              · exact .inl ⟨by kernel_rfl, fun L a1 w1 n h => ⟨_, rfl, run_loadA 4 (.tmp 61) ⟨gq, 0, none⟩ rfl Try.isAgg4 (h.dep n 4 61 (by kernel_rfl) rfl) ((Row.later hRp h.inv.1).cell (j := 0) (v := .bool (!on2)) rfl)⟩⟩
              · exact .inl ⟨by kernel_rfl, fun L a1 w1 n h => ⟨_, rfl, run_eqlB (.tmp 58) (.tmp 62) _ _ rfl (h.dep n 1 58 (by kernel_rfl) rfl) (h.dep n 5 62 (by kernel_rfl) rfl) (eqB on2)⟩⟩
            case heE =>
              intro V w9 hV2 hJ
              have hz : V 6 = .bool false := hV2 6 63 rfl
              have b9 : Below wb.heap.size wb w9 := hJ.1
              have hPw := Row.later hPw b9
              have hPl := Row.later hPl b9
              have hRp := Row.later hRp b9
              have hBr := hBr.trans (b9.mono (Nat.le_trans hBw hBr.size))
              clear hV2 hJ b9
              simp only [putOps, List.setIfInBounds_toArray, List.set_cons_succ, List.set_cons_zero, Nat.reduceAdd]
              rw [hz]
              refine hK6 _ _ ?_
              clear hz
              go_wp2_with fail
              go_roundw
              case rel => exact ⟨i + 1, on2, fuse2, by omega, by go_num, hPw, hPl, hRp, hfu, hBr⟩
              case measure => simp [intOf]; omega
      · obtain rfl : i = m := by omega
        clear hPw hPl hRp nqp nqP npP
        have HB := hide (And.intro hBr hfu)
        clear hBr hfu
        have bp : Try.prog.built 57 [] = some [Value.pointer none].toArray := by kernel_rfl
        obtain ⟨ip, hip, hpz, hps, _⟩ := info_parts (show (Try.prog.info? 25).map (fun i => (i.zero, i.size, i.bytes)) = some (some (.pointer none), 1, 8) by kernel_rfl)
        go_wp2_with (first
          | ((with_reducible refine wl_build rfl 57 _ rfl _ ?hv _ bp ?hk); case hv => rfl)
          | (with_reducible refine wl_box rfl 57 (.tmp 64) _ [.pointer none] rfl rfl rfl ?_; intro g2 w3 r2 q2 l2 b2)
          | (with_reducible refine wl_build2P rfl 58 (.const (.pointer none)) (.tmp 65) rfl 25 ip (.pointer none) (.pointer none) (ptr g2) Try.underlying58 hip hpz hps rfl rfl rfl rfl rfl ?_; intro gs w4 rs q3 l3 b3; have r2 := Row.later r2 b3))
        have B4 := (b2.trans (b3.mono b2.size)).mono (Nat.le_trans hBw HB.out.1.size)
        have B4 := HB.out.1.trans B4
        clear q2 l2 b2 q3 l3 b3
        go_loopw [7] (fun iv wq => ∃ j : Nat, j ≤ 2 ∧ iv = .int .i64 j ∧ Row wq 57 g2 [.pointer none] ∧ Row wq 25 gs [.pointer none, ptr g2] ∧ Below B w wq) (fun iv _ => 2 - (intOf iv).toNat)
        case atStart => exact ⟨0, by omega, rfl, r2, rs, B4⟩
        case round =>
          clear r2 rs B4 HB
          obtain ⟨j, hj2, rfl, r2, rs, hB⟩ := hrel
          by_cases hj : j < 2
          · obtain ⟨u0, hu0, hv⟩ : ∃ u0, [Value.pointer none, ptr g2][j]? = some u0 ∧ PwNone wr u0 := by
              match j, hj with
              | 0, _ => exact ⟨_, rfl, .inl rfl⟩
              | 1, _ => exact ⟨_, rfl, .inr ⟨g2, rfl, r2⟩⟩
            have hvi := rs.cell hu0
            clear hu0
            go_wp2_with fail
            refine (pFuse_none _ u0 3 hv).mono ?_
            rintro e wa ⟨rfl, rfl⟩
            go_wp2_with fail
            refine (pMend_none _ u0 hv).mono ?_
            rintro e wa ⟨rfl, rfl⟩
            go_wp2_with fail
            refine (pOn_none _ u0 hv).mono ?_
            rintro e wa ⟨rfl, rfl⟩
            go_wp2_with fail
            refine (pAct_none _ u0 hv).mono ?_
            rintro e wa ⟨rfl, rfl⟩
            go_wp2_with fail
            go_roundw
            case rel => exact ⟨j + 1, by omega, by go_num, r2, rs, hB⟩
            case measure => simp [intOf]; omega
          · clear r2 rs
            go_wp2_with fail
            refine (awakeD_any _).mono ?_
            rintro e wz ⟨rfl, bz⟩
            go_wp2_with fail
            go_ret
            exact ⟨rfl, hBe ▸ hB.trans (bz.mono (Nat.le_trans hBw hB.size))⟩
end Go.Proofs.Ytaflmiopaiigbaa

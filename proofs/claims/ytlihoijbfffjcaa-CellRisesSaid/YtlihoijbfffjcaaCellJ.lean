/-
  The cell: the law CellPlays: contract. Own work.
-/
import Derived.Test.YtlihoijbfffjcaaCellI
namespace Go.Proofs.Ytlihoijbfffjcaa
open Go.RowKit
set_option linter.unusedVariables false
set_option linter.unusedSimpArgs false
theorem row_ne {w : World} {t t' g g' : Nat} {vs vs' : List Value} (h : Row w t g vs) (h' : Row w t' g' vs') (ht : t ≠ t') : g ≠ g' := by
  intro e
  subst e
  have := h.symm.trans h'
  simp at this
  exact ht this.2
theorem szBds (n s p g l e c : Int) : (Try.prog.info? 77).map (·.size) = some (bdsL n s p g l e c).length := by kernel_rfl
theorem builtRC (q : Nat) (n s p g l e c : Int) : Try.prog.built 85 [(0, ptr q), (1, .agg (bdsL n s p g l e c).toArray)] = some (rcelL q n s p g l e c 0 0 0).toArray := by kernel_rfl
/-- What the region that makes both cells leaves. -/
def CellF (B gP : Nat) (m1 m2 : Int) (v : Value) (w : World) : Prop := ∃ g, v = ptr g ∧ B ≤ g ∧ Cel w g true (some ⟨gP, 0, none⟩) m1 m2 0 0 0
theorem CellF.later {B gP : Nat} {m1 m2 : Int} {v : Value} {w w' : World} (h : CellF B gP m1 m2 v w) (hb : Below w.heap.size w w') : CellF B gP m1 m2 v w' := by
  obtain ⟨g, e, hB, hc⟩ := h
  exact ⟨g, e, hB, Row.later hc hb⟩
def RCelF (B q : Nat) (n1 n2 n3 n4 n5 n6 n7 : Int) (v : Value) (w : World) : Prop := ∃ g, v = ptr g ∧ B ≤ g ∧ RCel w g q n1 n2 n3 n4 n5 n6 n7 0 0 0
theorem RCelF.later {B q : Nat} {n1 n2 n3 n4 n5 n6 n7 : Int} {v : Value} {w w' : World} (h : RCelF B q n1 n2 n3 n4 n5 n6 n7 v w) (hb : Below w.heap.size w w') : RCelF B q n1 n2 n3 n4 n5 n6 n7 v w' := by
  obtain ⟨g, e, hB, hc⟩ := h
  exact ⟨g, e, hB, Row.later hc hb⟩
theorem set0 {w : World} {t g : Nat} {x y z : Value} (h : Row w t g ([x, y].set 0 z)) : Row w t g [z, y] := h
theorem sizeAct : ∀ w, (sizeOf 87).run Try.prog w = .ok 4 w := fun w => by kernel_rfl
def FMk (B gP q : Nat) (n1 n2 n3 n4 n5 n6 n7 : Int) (opn : Nat) (v : Value) (w : World) : Prop :=
  match opn with
  | 2 => CellF B gP (bnd n5) (bnd n3) v w
  | 6 => RCelF B q n1 n2 n3 n4 n5 n6 n7 v w
  | 7 => CellF B gP (bnd n5) (bnd n3) v w
  | 8 => RCelF B q n1 n2 n3 n4 n5 n6 n7 v w
  | _ => True
theorem FMk_mono (B gP q : Nat) (n1 n2 n3 n4 n5 n6 n7 : Int) : ∀ j v w w', FMk B gP q n1 n2 n3 n4 n5 n6 n7 j v w → Below w.heap.size w w' → FMk B gP q n1 n2 n3 n4 n5 n6 n7 j v w' := by
  intro j v w w' h hb
  unfold FMk at h ⊢
  split at h
  · exact h.later hb
  · exact h.later hb
  · exact h.later hb
  · exact h.later hb
  · trivial

def SMk (gP q g2 : Nat) (n1 n2 n3 n4 n5 n6 n7 : Int) (opn : Nat) (v : Value) : Prop :=
  match opn with
  | 0 => v = ptr gP
  | 1 | 4 => v = .agg (bdsL n1 n2 n3 n4 n5 n6 n7).toArray
  | 3 => v = ptr q
  | 5 => v = .agg (rcelL q n1 n2 n3 n4 n5 n6 n7 0 0 0).toArray
  | _ => True

def SPl (gc x q : Nat) (n1 n2 n3 n4 n5 n6 n7 : Int) (s : St) (opn : Nat) (v : Value) : Prop :=
  match opn with
  | 0 | 8 => v = ptr gc
  | 1 | 5 => v = .int .i64 s.life
  | 2 | 3 | 10 | 11 => v = ptr x
  | 4 => v = .pointer (some ⟨x, 8, none⟩)
  | 6 | 7 | 14 | 15 => v = .bool false
  | 9 => v = pin s.a s.b
  | 12 => v = .pointer (some ⟨x, 9, none⟩)
  | 13 => v = .agg [.int .i64 s.a, .int .i64 s.b].toArray
  | _ => True

def SRs (gc x bb oo k cap i : Nat) (n3 p1 p2 : Int) (s : St) (opn : Nat) (v : Value) : Prop :=
  match opn with
  | 0 => v = ptr gc
  | 1 | 8 => v = .slice (some ⟨bb, oo, none⟩) k cap
  | 2 | 9 => v = .int .i64 (i : Int)
  | 3 | 10 => v = .pointer (some ⟨bb, oo + i * 4, none⟩)
  | 4 | 11 => v = .pointer (some ⟨bb, oo + i * 4 + 1, none⟩)
  | 5 | 12 => v = pin p1 p2
  | 6 | 13 => v = .int .i64 (s.raiseV (bnd n3) p1 p2)
  | 7 => v = ptr x
  | 14 => v = .bool false
  | _ => True

set_option maxRecDepth 100000 in
set_option maxHeartbeats 8000000 in
theorem cellPlays_any (n1 n2 n3 n4 n5 n6 n7 : Int) (A : Option Addr) (k cap : Nat) (fk fp fq fm : Nat → Int) (w : World) (hl : Acts w w.heap.size A k fk fp fq fm)
    (hk0 : ∀ j, j < k → 0 ≤ fk j ∧ fk j < 256) (hp0 : ∀ j, j < k → isI (fp j)) (hq0 : ∀ j, j < k → isI (fq j)) (hm0 : ∀ j, j < k → isI (fm j)) :
    Calls Try.prog 9 #[.agg (bdsL n1 n2 n3 n4 n5 n6 n7).toArray, .slice A k cap] w fun e w' => e = .returned (.bool true) ∧ Below w.heap.size w w' := by
  by_cases hlong : (60 : Int) < (k : Int)
  · have hd : decide ((60 : Int) < (k : Int)) = true := by simp; omega
    go_enter Try.func9, Try.ntmps9
    go_wp2_with (first
      | (with_reducible refine wl_box rfl 77 (.tmp 0) _ (bdsL n1 n2 n3 n4 n5 n6 n7) rfl rfl rfl ?_; intro g2 w2 r2 p2 l2 b2))
    refine (awake_any w2).mono ?_
    rintro e w3 ⟨rfl, b3⟩
    go_wp2
    go_ret
    exact ⟨rfl, b2.trans (b3.mono b2.size)⟩
  · have hd : decide ((60 : Int) < (k : Int)) = false := by simp; omega
    have hk60 : k ≤ 60 := by omega
    go_enter Try.func9, Try.ntmps9
    go_wp2_with (first
      | (with_reducible refine wl_box rfl 77 (.tmp 0) _ (bdsL n1 n2 n3 n4 n5 n6 n7) rfl rfl rfl ?_; intro g2 wa r2 p2 l2 ba))
    refine (plug_any wa).mono ?_
    rintro e wb ⟨gP, gp, rfl, hPw, hPl, q1, q2, hne, bb'⟩
    have r2 := Row.later r2 bb'
    go_wp2_with fail
    refine (rPlug_any wb).mono ?_
    rintro e wc ⟨q, rfl, hRw, q3, bc⟩
    have r2 := Row.later r2 bc
    have hPw := Row.later hPw bc
    have hPl := Row.later hPl bc
    have Bc := (ba.trans (bb'.mono ba.size)).trans (bc.mono (ba.trans (bb'.mono ba.size)).size)
    go_wp2_with fail
    rename_i K4 hK4
    have hB3 : w.heap.size ≤ wc.heap.size := Bc.size
    generalize hBe : w.heap.size = B at hB3
    refine wp_region_valsS [2, 6, 7, 8] (SMk gP q g2 n1 n2 n3 n4 n5 n6 n7) (JF wc [2, 6, 7, 8] (FMk B gP q n1 n2 n3 n4 n5 n6 n7)) (by kernel_rfl) (by kernel_rfl) (by kernel_rfl) (by kernel_rfl) (JF.start _) ?obs4 ?he4
    case obs4 =>
      refine ⟨?_, ?_, ?_, ?_, ?_, ?_, ?_, ?_, ?_, trivial⟩
      · refine .inl ⟨.inl rfl, ?_⟩
        exact .inl ⟨by kernel_rfl, fun L a1 w1 n h => ⟨_, rfl, run_move (.tmp 5) rfl (h.var n 5 (by kernel_rfl))⟩⟩
      · refine .inl ⟨.inl rfl, ?_⟩
        exact .inl ⟨by kernel_rfl, fun L a1 w1 n h => ⟨_, rfl, run_loadRow 77 (.tmp 2) g2 77 _ _ rfl (h.var n 2 (by kernel_rfl)) (Row.later r2 h.inv.1) Try.underlying77 rfl (szBds _ _ _ _ _ _ _)⟩⟩
      · refine .inl ⟨.inl rfl, ?_⟩
        refine .inr fun L a1 w1 n h K hK => ?_
        have e0 : a1.eval (.tmp 20) = ptr gP := h.dep n 0 20 (by kernel_rfl) rfl
        have e1 : a1.eval (.tmp 21) = .agg (bdsL n1 n2 n3 n4 n5 n6 n7).toArray := h.dep n 1 21 (by kernel_rfl) rfl
        refine JF.call (FMk_mono B gP q n1 n2 n3 n4 n5 n6 n7) h hK 22 rfl 45 _ _ #[ptr gP, .agg (bdsL n1 n2 n3 n4 n5 n6 n7).toArray] rfl Try.call45 ?_ (new_any (some ⟨gP, 0, none⟩) n1 n2 n3 n4 n5 n6 n7 w1) ?_
        · simp only [List.map_toArray, List.map_cons, List.map_nil, e0, e1]
        · rintro e w3 ⟨gc, rfl, c9, q9, b9⟩
          exact ⟨_, rfl, trivial, ⟨gc, rfl, Nat.le_trans (Nat.le_trans hB3 h.inv.1.size) q9, c9⟩, b9⟩
      · refine .inl ⟨.inl rfl, ?_⟩
        exact .inl ⟨by kernel_rfl, fun L a1 w1 n h => ⟨_, rfl, run_move (.tmp 6) rfl (h.var n 6 (by kernel_rfl))⟩⟩
      · refine .inl ⟨.inl rfl, ?_⟩
        exact .inl ⟨by kernel_rfl, fun L a1 w1 n h => ⟨_, rfl, run_loadRow 77 (.tmp 2) g2 77 _ _ rfl (h.var n 2 (by kernel_rfl)) (Row.later r2 h.inv.1) Try.underlying77 rfl (szBds _ _ _ _ _ _ _)⟩⟩
      · refine .inl ⟨.inl rfl, ?_⟩
        exact .inl ⟨by kernel_rfl, fun L a1 w1 n h => ⟨_, rfl, run_buildX 85 [(0, .tmp 23), (1, .tmp 24)] rfl _ (by simp only [List.map_cons, List.map_nil]; rw [show a1.eval (.tmp 23) = ptr q from (h.dep n 3 23 (by kernel_rfl) rfl), show a1.eval (.tmp 24) = .agg (bdsL n1 n2 n3 n4 n5 n6 n7).toArray from (h.dep n 4 24 (by kernel_rfl) rfl)]) _ (builtRC q n1 n2 n3 n4 n5 n6 n7)⟩⟩
      · refine .inl ⟨.inl rfl, ?_⟩
        refine .inr fun L a1 w1 n h K hK => ?_
        refine st_box 85 (.tmp 25) _ (rcelL q n1 n2 n3 n4 n5 n6 n7 0 0 0) rfl (h.dep n 5 25 (by kernel_rfl) rfl) rfl ?_
        intro g7 w3 r7 p7 l7 b7
        exact JF.few (FMk_mono B gP q n1 n2 n3 n4 n5 n6 n7) h hK 26 rfl _ trivial ⟨g7, rfl, Nat.le_trans (Nat.le_trans hB3 h.inv.1.size) p7, r7⟩ b7
      · refine .inl ⟨.inl rfl, ?_⟩
        refine .inr fun L a1 w1 n h K hK => ?_
        have f9 := JF.get h n 2 22 (by kernel_rfl) (by kernel_rfl) rfl
        exact JF.run (FMk_mono B gP q n1 n2 n3 n4 n5 n6 n7) h hK 7 rfl _ (run_assign (.tmp 22) rfl rfl) trivial f9
      · refine .inl ⟨.inl rfl, ?_⟩
        refine .inr fun L a1 w1 n h K hK => ?_
        have f9 := JF.get h n 6 26 (by kernel_rfl) (by kernel_rfl) rfl
        exact JF.run (FMk_mono B gP q n1 n2 n3 n4 n5 n6 n7) h hK 8 rfl _ (run_assign (.tmp 26) rfl rfl) trivial f9
    case he4 =>
      intro V wd hV2 hJ
      obtain ⟨gc, hv7, hgc, hCl⟩ : CellF B gP (bnd n5) (bnd n3) (V 7) wd := JF.last hJ 7 7 rfl rfl
      obtain ⟨x, hv8, hgx, hRC⟩ : RCelF B q n1 n2 n3 n4 n5 n6 n7 (V 8) wd := JF.last hJ 8 8 rfl rfl
      have bd : Below wc.heap.size wc wd := hJ.1
      clear hV2 hJ
      simp only [putOps, List.setIfInBounds_toArray, List.set_cons_succ, List.set_cons_zero, Nat.reduceAdd]
      rw [hv7, hv8]
      clear hv7 hv8
      refine hK4 _ _ ?_
      have hPw := Row.later hPw bd
      have hPl := Row.later hPl bd
      have hRw := Row.later hRw bd
      subst hBe
      have Bd := Bc.trans (bd.mono Bc.size)
      have hnP : gP ≠ gp ∧ gP ≠ gc ∧ gc ≠ gp := ⟨row_ne hPw hPl (by decide), row_ne hPw hCl (by decide), row_ne hCl hPl (by decide)⟩
      have hnx : x ≠ q := row_ne hRC hRw (by decide)
      have nq1 : q ∉ [gc, gp] := by simp; exact ⟨row_ne hRw hCl (by decide), row_ne hRw hPl (by decide)⟩
      have nx1 : x ∉ [gc, gp] := by simp; exact ⟨row_ne hRC hCl (by decide), row_ne hRC hPl (by decide)⟩
      have mP : gP ∉ [x, q] := by simp; exact ⟨row_ne hPw hRC (by decide), row_ne hPw hRw (by decide)⟩
      have mp : gp ∉ [x, q] := by simp; exact ⟨row_ne hPl hRC (by decide), row_ne hPl hRw (by decide)⟩
      have mc : gc ∉ [x, q] := by simp; exact ⟨row_ne hCl hRC (by decide), row_ne hCl hRw (by decide)⟩
      have hgp : w.heap.size ≤ gp := Nat.le_trans ba.size q2
      have hgq : w.heap.size ≤ q := Nat.le_trans (ba.trans (bb'.mono ba.size)).size q3
      have hS1 : ∀ j ∈ [gc, gp], w.heap.size ≤ j := by intro j hj; simp at hj; omega
      have hS2 : ∀ j ∈ [x, q], w.heap.size ≤ j := by intro j hj; simp at hj; omega
      have hS4 : ∀ j ∈ [gc, gp, x, q], w.heap.size ≤ j := by intro j hj; simp at hj; omega
      clear q1 q2 q3 ba bb' bc bd r2 hgx hgc p2 l2 hne
      obtain ⟨bl0, bl1⟩ := bnd_le n5
      have hSt : PSide wd gP gp gc (bnd n5) (bnd n3) ⟨true, -1, 0, 0, 0⟩ := ⟨hPw, hPl, hCl⟩
      have hRt : RSide wd q x [n1, n2, n3, n4, n5, n6, n7] ⟨true, -1, 0, 0, 0⟩ := ⟨hRw, _, _, _, _, _, _, _, rfl, hRC⟩
      have hOt : St.ok ⟨true, -1, 0, 0, 0⟩ (bnd n5) := ⟨(⟨by omega, by omega⟩ : isI (-1)), by simp, by simpa using bl0⟩
      clear hPw hPl hCl hRw hRC bl0 bl1
      go_wp2_with fail
      go_loopw [9] (fun iv wr => ∃ (i : Nat) (s : St), i ≤ k ∧ iv = .int .i64 i ∧ PSide wr gP gp gc (bnd n5) (bnd n3) s ∧ RSide wr q x [n1, n2, n3, n4, n5, n6, n7] s ∧ s.ok (bnd n5) ∧ Below w.heap.size w wr) (fun iv _ => k - (intOf iv).toNat)
      case atStart => exact ⟨0, _, by omega, rfl, hSt, hRt, hOt, Bd⟩
      case round =>
        clear hSt hRt hOt Bd
        obtain ⟨i, s, hik, rfl, hP, hR, ho, hB⟩ := hrel
        by_cases hi : i < k
        · obtain ⟨bb, oo, rfl, hbb, hcc⟩ := hl (by omega)
          obtain ⟨d0, d1, d2, d3⟩ := hcc i hi
          have d0' := (hB.cell (p := ⟨bb, oo + i * 4, none⟩) hbb).trans d0
          have d3' := (hB.cell (p := ⟨bb, oo + i * 4 + 3, none⟩) hbb).trans d3
          obtain ⟨k0, k1⟩ := hk0 i hi
          have p0 := hp0 i hi
          have m0 := hm0 i hi
          generalize fk i = kd at *
          generalize fp i = p1 at *
          generalize fq i = p2 at *
          generalize fm i = nn at *
          clear hcc
          have hcase : kd % 5 = 0 ∨ kd % 5 = 3 ∨ kd % 5 = 4 ∨ (kd % 5 ≠ 0 ∧ kd % 5 ≠ 3 ∧ kd % 5 ≠ 4) := by omega
          rcases hcase with hk | hk | hk | hk
          · clear d3 d1 d2 d3' p0 m0
            go_wp2_with fail
            refine (pBirth wr gP gp gc n5 (bnd n3) s hP ho hnP).mono ?_
            rintro e we ⟨rfl, hP, be⟩
            have hR := hR.buts be nq1 nx1
            have Be := hB.trans (be.below hS1 hB.size)
            go_wp2_with fail
            refine (rBirth we q x n1 n2 n3 n4 n5 n6 n7 s hR ho hnx).mono ?_
            rintro e wf ⟨rfl, hR, bf⟩
            have hP := hP.buts bf mP mp mc
            have Bf := Be.trans (bf.below hS2 Be.size)
            have ho := St.ok_birth ho
            generalize (s.birthV (bnd n5)).1 = v1 at *
            generalize (s.birthV (bnd n5)).2 = v2 at *
            generalize s.birth (bnd n5) = s at *
            clear d0 d0' hk hB Be k0 k1
            obtain ⟨hq2, m1, m2, m3, m4, m5, m6, m7, he2, hx⟩ := hR
            simp only [List.cons.injEq, and_true] at he2
            obtain ⟨rfl, rfl, rfl, rfl, rfl, rfl, rfl⟩ := he2
            go_wp2_with fail
            rename_i K6 hK6
            refine wp_region_valsS [1, 9] (SPl gc x q n1 n2 n3 n4 n5 n6 n7 s) (JF wf [1, 9] FNo) (by kernel_rfl) (by kernel_rfl) (by kernel_rfl) (by kernel_rfl) (JF.start _) ?obsE ?heE
            case obsE =>
              refine ⟨?_, ?_, ?_, ?_, ?_, ?_, ?_, ?_, ?_, ?_, ?_, ?_, ?_, ?_, ?_, ?_, trivial⟩
              · refine .inl ⟨.inl rfl, ?_⟩
                exact .inl ⟨by kernel_rfl, fun L a1 w1 n h => ⟨_, rfl, run_move (.tmp 7) rfl (h.var n 7 (by kernel_rfl))⟩⟩
              · refine .inl ⟨.inl rfl, ?_⟩
                refine .inr fun L a1 w1 n h K hK => ?_
                have e0 : a1.eval (.tmp 100) = ptr gc := h.dep n 0 100 (by kernel_rfl) rfl
                refine JF.call (FNo_mono ) h hK 101 rfl 50 _ _ #[ptr gc] rfl Try.call50 ?_ (life_any w1 gc _ _ _ _ _ _ _ (Row.later hP.2.2 h.inv.1)) ?_
                · simp only [List.map_toArray, List.map_cons, List.map_nil, e0]
                · rintro e w3 ⟨rfl, rfl⟩
                  exact ⟨_, rfl, rfl, trivial, (Below.refl _ _)⟩
              · refine .inl ⟨.inl rfl, ?_⟩
                exact .inl ⟨by kernel_rfl, fun L a1 w1 n h => ⟨_, rfl, run_move (.tmp 8) rfl (h.var n 8 (by kernel_rfl))⟩⟩
              · refine .inl ⟨.inl rfl, ?_⟩
                refine .inl ⟨by kernel_rfl, fun L a1 w1 n h => ⟨ptr x, rfl, ?_⟩⟩
                have e0 : a1.eval (.tmp 102) = _ := h.dep n 2 102 (by kernel_rfl) rfl
                unfold execOp
                simp only [e0]
                go_simp
              · refine .inl ⟨.inl rfl, ?_⟩
                refine .inl ⟨by kernel_rfl, fun L a1 w1 n h => ⟨.pointer (some ⟨x, 8, none⟩), rfl, ?_⟩⟩
                have e0 : a1.eval (.tmp 103) = _ := h.dep n 3 103 (by kernel_rfl) rfl
                unfold execOp
                simp only [e0]
                go_simp
              · refine .inl ⟨.inl rfl, ?_⟩
                exact .inl ⟨by kernel_rfl, fun L a1 w1 n h => ⟨_, rfl, run_loadA 3 (.tmp 104) ⟨x, 8, none⟩ rfl Try.isAgg3 (h.dep n 4 104 (by kernel_rfl) rfl) ((Row.later hx h.inv.1).cell (j := 8) (v := .int .i64 s.life) rfl)⟩⟩
              · refine .inl ⟨.inl rfl, ?_⟩
                exact .inl ⟨by kernel_rfl, fun L a1 w1 n h => ⟨_, rfl, run_neqI (.tmp 101) (.tmp 105) rfl (h.dep n 1 101 (by kernel_rfl) rfl) (h.dep n 5 105 (by kernel_rfl) rfl) (by simp)⟩⟩
              · refine .inl ⟨.inl rfl, ?_⟩
                exact .inl ⟨by kernel_rfl, fun L a1 w1 n h => ⟨_, rfl, run_move (.tmp 106) rfl (h.dep n 6 106 (by kernel_rfl) rfl)⟩⟩
              · refine .inl ⟨.inr ⟨7, false, 107, rfl, by kernel_rfl, rfl, by simp, fun v h => h⟩, ?_⟩
                exact .inl ⟨by kernel_rfl, fun L a1 w1 n h => ⟨_, rfl, run_move (.tmp 7) rfl (h.var n 7 (by kernel_rfl))⟩⟩
              · refine .inl ⟨.inr ⟨7, false, 107, rfl, by kernel_rfl, rfl, by simp, fun v h => h⟩, ?_⟩
                refine .inr fun L a1 w1 n h K hK => ?_
                have e0 : a1.eval (.tmp 108) = ptr gc := h.dep n 8 108 (by kernel_rfl) rfl
                refine JF.call (FNo_mono ) h hK 109 rfl 51 _ _ #[ptr gc] rfl Try.call51 ?_ (pin_any w1 gc _ _ _ _ _ _ _ (Row.later hP.2.2 h.inv.1)) ?_
                · simp only [List.map_toArray, List.map_cons, List.map_nil, e0]
                · rintro e w3 ⟨rfl, b9⟩
                  exact ⟨_, rfl, rfl, trivial, b9⟩
              · refine .inl ⟨.inr ⟨7, false, 107, rfl, by kernel_rfl, rfl, by simp, fun v h => h⟩, ?_⟩
                exact .inl ⟨by kernel_rfl, fun L a1 w1 n h => ⟨_, rfl, run_move (.tmp 8) rfl (h.var n 8 (by kernel_rfl))⟩⟩
              · refine .inl ⟨.inr ⟨7, false, 107, rfl, by kernel_rfl, rfl, by simp, fun v h => h⟩, ?_⟩
                refine .inl ⟨by kernel_rfl, fun L a1 w1 n h => ⟨ptr x, rfl, ?_⟩⟩
                have e0 : a1.eval (.tmp 110) = _ := h.dep n 10 110 (by kernel_rfl) rfl
                unfold execOp
                simp only [e0]
                go_simp
              · refine .inl ⟨.inr ⟨7, false, 107, rfl, by kernel_rfl, rfl, by simp, fun v h => h⟩, ?_⟩
                refine .inl ⟨by kernel_rfl, fun L a1 w1 n h => ⟨.pointer (some ⟨x, 9, none⟩), rfl, ?_⟩⟩
                have e0 : a1.eval (.tmp 111) = _ := h.dep n 11 111 (by kernel_rfl) rfl
                unfold execOp
                simp only [e0]
                go_simp
              · refine .inl ⟨.inr ⟨7, false, 107, rfl, by kernel_rfl, rfl, by simp, fun v h => h⟩, ?_⟩
                exact .inl ⟨by kernel_rfl, fun L a1 w1 n h => ⟨_, rfl, run_loadP 83 (.tmp 112) x 9 85 [ptr q, .int .i64 n1, .int .i64 n2, .int .i64 n3, .int .i64 n4, .int .i64 n5, .int .i64 n6, .int .i64 n7, .int .i64 s.life] [.int .i64 s.a, .int .i64 s.b] [] _ rfl (h.dep n 12 112 (by kernel_rfl) rfl) (Row.later hx h.inv.1) rfl Try.underlying83 rfl (szPin _ _)⟩⟩
              · refine .inl ⟨.inr ⟨7, false, 107, rfl, by kernel_rfl, rfl, by simp, fun v h => h⟩, ?_⟩
                exact .inl ⟨by kernel_rfl, fun L a1 w1 n h => ⟨_, rfl, run_neqS (.tmp 109) (.tmp 113) rfl (fun w => (eqPin _ _ _ _ w).trans (by simp)) (h.dep n 9 109 (by kernel_rfl) rfl) (h.dep n 13 113 (by kernel_rfl) rfl) (by kernel_rfl)⟩⟩
              · refine .inl ⟨.inl rfl, ?_⟩
                exact .inl ⟨by kernel_rfl, fun L a1 w1 n h => ⟨_, rfl, run_pickF (.tmp 107) _ _ rfl (h.dep n 7 107 (by kernel_rfl) rfl) (h.dep n 14 114 (by kernel_rfl) rfl)⟩⟩
            case heE =>
              intro V w9 hV2 hJ
              have hz : V 15 = .bool false := hV2 15 115 rfl
              have b9 : Below wf.heap.size wf w9 := hJ.1
              have hP := hP.later b9
              have hq2 := Row.later hq2 b9
              have hx := Row.later hx b9
              clear hV2 hJ
              simp only [putOps, List.setIfInBounds_toArray, List.set_cons_succ, List.set_cons_zero, Nat.reduceAdd]
              rw [hz]
              refine hK6 _ _ ?_
              clear hz
              have hB9 := Bf.trans (b9.mono Bf.size)
              go_wp2
              go_roundw
              case rel => exact ⟨i + 1, s, by omega, by go_num, hP, ⟨hq2, _, _, _, _, _, _, _, rfl, hx⟩, ho, hB9⟩
              case measure => simp [intOf]; omega
          · have hk0 : ¬ kd % 5 = 0 := by omega
            clear d1 d2 p0
            obtain ⟨hpw, hpl, hcl⟩ := hP
            obtain ⟨hq, o1, o2, o3, o4, o5, o6, o7, oe, hxr⟩ := hR
            go_wp2_with fail
            refine (pFuse_any wr gP gp s.on s.fuse nn hpw hpl).mono ?_
            rintro e we ⟨rfl, hpl, be⟩
            have hpw := hpw.only be hnP.1
            have hcl := hcl.only be hnP.2.2
            have hq := hq.only be (by simp at nq1; exact nq1.2)
            have hxr := hxr.only be (by simp at nx1; exact nx1.2)
            have Be := hB.trans (be.below hgp)
            have d3' := (Be.cell (p := ⟨bb, oo + i * 4 + 3, none⟩) hbb).trans d3
            clear d0'
            go_wp2_with fail
            refine (rFuse_any we q (!s.on) (max s.fuse (-1)) nn hq).mono ?_
            rintro e wf ⟨rfl, hq, bf⟩
            have hpw := hpw.only bf (by simp at mP; exact mP.2)
            have hpl := hpl.only bf (by simp at mp; exact mp.2)
            have hcl := hcl.only bf (by simp at mc; exact mc.2)
            have hxr := hxr.only bf hnx
            have Bf := Be.trans (bf.below hgq)
            have hP : PSide wf gP gp gc (bnd n5) (bnd n3) { s with fuse := nn } := ⟨hpw, hpl, hcl⟩
            have hR : RSide wf q x [n1, n2, n3, n4, n5, n6, n7] { s with fuse := nn } := ⟨hq, o1, o2, o3, o4, o5, o6, o7, oe, hxr⟩
            have ho : St.ok { s with fuse := nn } (bnd n5) := ⟨m0, ho.2.1, ho.2.2⟩
            generalize ({ s with fuse := nn } : St) = s at hP hR ho
            clear hpw hpl hcl hq hxr d0 d3 d3' hk hk0 hB Be oe m0 k0 k1
            obtain ⟨hq2, m1, m2, m3, m4, m5, m6, m7, he2, hx⟩ := hR
            simp only [List.cons.injEq, and_true] at he2
            obtain ⟨rfl, rfl, rfl, rfl, rfl, rfl, rfl⟩ := he2
            go_wp2_with fail
            rename_i K6 hK6
            refine wp_region_valsS [1, 9] (SPl gc x q n1 n2 n3 n4 n5 n6 n7 s) (JF wf [1, 9] FNo) (by kernel_rfl) (by kernel_rfl) (by kernel_rfl) (by kernel_rfl) (JF.start _) ?obsE ?heE
            case obsE =>
              refine ⟨?_, ?_, ?_, ?_, ?_, ?_, ?_, ?_, ?_, ?_, ?_, ?_, ?_, ?_, ?_, ?_, trivial⟩
              · refine .inl ⟨.inl rfl, ?_⟩
                exact .inl ⟨by kernel_rfl, fun L a1 w1 n h => ⟨_, rfl, run_move (.tmp 7) rfl (h.var n 7 (by kernel_rfl))⟩⟩
              · refine .inl ⟨.inl rfl, ?_⟩
                refine .inr fun L a1 w1 n h K hK => ?_
                have e0 : a1.eval (.tmp 100) = ptr gc := h.dep n 0 100 (by kernel_rfl) rfl
                refine JF.call (FNo_mono ) h hK 101 rfl 50 _ _ #[ptr gc] rfl Try.call50 ?_ (life_any w1 gc _ _ _ _ _ _ _ (Row.later hP.2.2 h.inv.1)) ?_
                · simp only [List.map_toArray, List.map_cons, List.map_nil, e0]
                · rintro e w3 ⟨rfl, rfl⟩
                  exact ⟨_, rfl, rfl, trivial, (Below.refl _ _)⟩
              · refine .inl ⟨.inl rfl, ?_⟩
                exact .inl ⟨by kernel_rfl, fun L a1 w1 n h => ⟨_, rfl, run_move (.tmp 8) rfl (h.var n 8 (by kernel_rfl))⟩⟩
              · refine .inl ⟨.inl rfl, ?_⟩
                refine .inl ⟨by kernel_rfl, fun L a1 w1 n h => ⟨ptr x, rfl, ?_⟩⟩
                have e0 : a1.eval (.tmp 102) = _ := h.dep n 2 102 (by kernel_rfl) rfl
                unfold execOp
                simp only [e0]
                go_simp
              · refine .inl ⟨.inl rfl, ?_⟩
                refine .inl ⟨by kernel_rfl, fun L a1 w1 n h => ⟨.pointer (some ⟨x, 8, none⟩), rfl, ?_⟩⟩
                have e0 : a1.eval (.tmp 103) = _ := h.dep n 3 103 (by kernel_rfl) rfl
                unfold execOp
                simp only [e0]
                go_simp
              · refine .inl ⟨.inl rfl, ?_⟩
                exact .inl ⟨by kernel_rfl, fun L a1 w1 n h => ⟨_, rfl, run_loadA 3 (.tmp 104) ⟨x, 8, none⟩ rfl Try.isAgg3 (h.dep n 4 104 (by kernel_rfl) rfl) ((Row.later hx h.inv.1).cell (j := 8) (v := .int .i64 s.life) rfl)⟩⟩
              · refine .inl ⟨.inl rfl, ?_⟩
                exact .inl ⟨by kernel_rfl, fun L a1 w1 n h => ⟨_, rfl, run_neqI (.tmp 101) (.tmp 105) rfl (h.dep n 1 101 (by kernel_rfl) rfl) (h.dep n 5 105 (by kernel_rfl) rfl) (by simp)⟩⟩
              · refine .inl ⟨.inl rfl, ?_⟩
                exact .inl ⟨by kernel_rfl, fun L a1 w1 n h => ⟨_, rfl, run_move (.tmp 106) rfl (h.dep n 6 106 (by kernel_rfl) rfl)⟩⟩
              · refine .inl ⟨.inr ⟨7, false, 107, rfl, by kernel_rfl, rfl, by simp, fun v h => h⟩, ?_⟩
                exact .inl ⟨by kernel_rfl, fun L a1 w1 n h => ⟨_, rfl, run_move (.tmp 7) rfl (h.var n 7 (by kernel_rfl))⟩⟩
              · refine .inl ⟨.inr ⟨7, false, 107, rfl, by kernel_rfl, rfl, by simp, fun v h => h⟩, ?_⟩
                refine .inr fun L a1 w1 n h K hK => ?_
                have e0 : a1.eval (.tmp 108) = ptr gc := h.dep n 8 108 (by kernel_rfl) rfl
                refine JF.call (FNo_mono ) h hK 109 rfl 51 _ _ #[ptr gc] rfl Try.call51 ?_ (pin_any w1 gc _ _ _ _ _ _ _ (Row.later hP.2.2 h.inv.1)) ?_
                · simp only [List.map_toArray, List.map_cons, List.map_nil, e0]
                · rintro e w3 ⟨rfl, b9⟩
                  exact ⟨_, rfl, rfl, trivial, b9⟩
              · refine .inl ⟨.inr ⟨7, false, 107, rfl, by kernel_rfl, rfl, by simp, fun v h => h⟩, ?_⟩
                exact .inl ⟨by kernel_rfl, fun L a1 w1 n h => ⟨_, rfl, run_move (.tmp 8) rfl (h.var n 8 (by kernel_rfl))⟩⟩
              · refine .inl ⟨.inr ⟨7, false, 107, rfl, by kernel_rfl, rfl, by simp, fun v h => h⟩, ?_⟩
                refine .inl ⟨by kernel_rfl, fun L a1 w1 n h => ⟨ptr x, rfl, ?_⟩⟩
                have e0 : a1.eval (.tmp 110) = _ := h.dep n 10 110 (by kernel_rfl) rfl
                unfold execOp
                simp only [e0]
                go_simp
              · refine .inl ⟨.inr ⟨7, false, 107, rfl, by kernel_rfl, rfl, by simp, fun v h => h⟩, ?_⟩
                refine .inl ⟨by kernel_rfl, fun L a1 w1 n h => ⟨.pointer (some ⟨x, 9, none⟩), rfl, ?_⟩⟩
                have e0 : a1.eval (.tmp 111) = _ := h.dep n 11 111 (by kernel_rfl) rfl
                unfold execOp
                simp only [e0]
                go_simp
              · refine .inl ⟨.inr ⟨7, false, 107, rfl, by kernel_rfl, rfl, by simp, fun v h => h⟩, ?_⟩
                exact .inl ⟨by kernel_rfl, fun L a1 w1 n h => ⟨_, rfl, run_loadP 83 (.tmp 112) x 9 85 [ptr q, .int .i64 n1, .int .i64 n2, .int .i64 n3, .int .i64 n4, .int .i64 n5, .int .i64 n6, .int .i64 n7, .int .i64 s.life] [.int .i64 s.a, .int .i64 s.b] [] _ rfl (h.dep n 12 112 (by kernel_rfl) rfl) (Row.later hx h.inv.1) rfl Try.underlying83 rfl (szPin _ _)⟩⟩
              · refine .inl ⟨.inr ⟨7, false, 107, rfl, by kernel_rfl, rfl, by simp, fun v h => h⟩, ?_⟩
                exact .inl ⟨by kernel_rfl, fun L a1 w1 n h => ⟨_, rfl, run_neqS (.tmp 109) (.tmp 113) rfl (fun w => (eqPin _ _ _ _ w).trans (by simp)) (h.dep n 9 109 (by kernel_rfl) rfl) (h.dep n 13 113 (by kernel_rfl) rfl) (by kernel_rfl)⟩⟩
              · refine .inl ⟨.inl rfl, ?_⟩
                exact .inl ⟨by kernel_rfl, fun L a1 w1 n h => ⟨_, rfl, run_pickF (.tmp 107) _ _ rfl (h.dep n 7 107 (by kernel_rfl) rfl) (h.dep n 14 114 (by kernel_rfl) rfl)⟩⟩
            case heE =>
              intro V w9 hV2 hJ
              have hz : V 15 = .bool false := hV2 15 115 rfl
              have b9 : Below wf.heap.size wf w9 := hJ.1
              have hP := hP.later b9
              have hq2 := Row.later hq2 b9
              have hx := Row.later hx b9
              clear hV2 hJ
              simp only [putOps, List.setIfInBounds_toArray, List.set_cons_succ, List.set_cons_zero, Nat.reduceAdd]
              rw [hz]
              refine hK6 _ _ ?_
              clear hz
              have hB9 := Bf.trans (b9.mono Bf.size)
              go_wp2
              go_roundw
              case rel => exact ⟨i + 1, s, by omega, by go_num, hP, ⟨hq2, _, _, _, _, _, _, _, rfl, hx⟩, ho, hB9⟩
              case measure => simp [intOf]; omega
          · have hk0 : ¬ kd % 5 = 0 := by omega
            have hk3 : ¬ kd % 5 = 3 := by omega
            clear d1 d2 p0 d3 d3' m0
            obtain ⟨hpw, hpl, hcl⟩ := hP
            obtain ⟨hq, o1, o2, o3, o4, o5, o6, o7, oe, hxr⟩ := hR
            go_wp2_with fail
            refine (pMend_any wr gP gp s.on s.fuse hpw hpl).mono ?_
            rintro e we ⟨rfl, hpl, be⟩
            have hpw := hpw.only be hnP.1
            have hcl := hcl.only be hnP.2.2
            have hq := hq.only be (by simp at nq1; exact nq1.2)
            have hxr := hxr.only be (by simp at nx1; exact nx1.2)
            have Be := hB.trans (be.below hgp)
            clear d0'
            go_wp2_with (first
              | (with_reducible refine wl_store rfl 4 (.tmp 97) (.const (.bool false)) q 0 42 [.bool (!s.on), .int .i64 (max s.fuse (-1))] (.bool false) rfl szBool rfl rfl hq (lt2 _ _ (by decide)) rfl ?_; intro wf hq2' bf; have hq2 := set0 hq2')
              | (with_reducible refine wl_store rfl 3 (.tmp 99) (.const (.int .i64 (-1))) q 1 42 [.bool false, .int .i64 (max s.fuse (-1))] (.int .i64 (-1)) rfl szInt rfl rfl hq2 (lt2 _ _ (by decide)) rfl ?_; intro wg hq3 bg))
            have bfg := bf.trans bg
            have hpw := hpw.only bfg (by simp at mP; exact mP.2)
            have hpl := hpl.only bfg (by simp at mp; exact mp.2)
            have hcl := hcl.only bfg (by simp at mc; exact mc.2)
            have hxr := hxr.only bfg hnx
            have Bf := Be.trans (bfg.below hgq)
            have hP : PSide wg gP gp gc (bnd n5) (bnd n3) { s with on := true, fuse := -1 } := ⟨hpw, hpl, hcl⟩
            have hR : RSide wg q x [n1, n2, n3, n4, n5, n6, n7] { s with on := true, fuse := -1 } := ⟨hq3, o1, o2, o3, o4, o5, o6, o7, oe, hxr⟩
            have ho : St.ok { s with on := true, fuse := -1 } (bnd n5) := ⟨(⟨by omega, by omega⟩ : isI (-1)), ho.2.1, ho.2.2⟩
            generalize ({ s with on := true, fuse := -1 } : St) = s at hP hR ho
            clear hpw hpl hcl hq hq2 hq2' hq3 hxr d0 hk hk0 hk3 hB Be oe bfg bf bg k0 k1
            obtain ⟨hq2, m1, m2, m3, m4, m5, m6, m7, he2, hx⟩ := hR
            simp only [List.cons.injEq, and_true] at he2
            obtain ⟨rfl, rfl, rfl, rfl, rfl, rfl, rfl⟩ := he2
            go_wp2_with fail
            rename_i K6 hK6
            refine wp_region_valsS [1, 9] (SPl gc x q n1 n2 n3 n4 n5 n6 n7 s) (JF wg [1, 9] FNo) (by kernel_rfl) (by kernel_rfl) (by kernel_rfl) (by kernel_rfl) (JF.start _) ?obsE ?heE
            case obsE =>
              refine ⟨?_, ?_, ?_, ?_, ?_, ?_, ?_, ?_, ?_, ?_, ?_, ?_, ?_, ?_, ?_, ?_, trivial⟩
              · refine .inl ⟨.inl rfl, ?_⟩
                exact .inl ⟨by kernel_rfl, fun L a1 w1 n h => ⟨_, rfl, run_move (.tmp 7) rfl (h.var n 7 (by kernel_rfl))⟩⟩
              · refine .inl ⟨.inl rfl, ?_⟩
                refine .inr fun L a1 w1 n h K hK => ?_
                have e0 : a1.eval (.tmp 100) = ptr gc := h.dep n 0 100 (by kernel_rfl) rfl
                refine JF.call (FNo_mono ) h hK 101 rfl 50 _ _ #[ptr gc] rfl Try.call50 ?_ (life_any w1 gc _ _ _ _ _ _ _ (Row.later hP.2.2 h.inv.1)) ?_
                · simp only [List.map_toArray, List.map_cons, List.map_nil, e0]
                · rintro e w3 ⟨rfl, rfl⟩
                  exact ⟨_, rfl, rfl, trivial, (Below.refl _ _)⟩
              · refine .inl ⟨.inl rfl, ?_⟩
                exact .inl ⟨by kernel_rfl, fun L a1 w1 n h => ⟨_, rfl, run_move (.tmp 8) rfl (h.var n 8 (by kernel_rfl))⟩⟩
              · refine .inl ⟨.inl rfl, ?_⟩
                refine .inl ⟨by kernel_rfl, fun L a1 w1 n h => ⟨ptr x, rfl, ?_⟩⟩
                have e0 : a1.eval (.tmp 102) = _ := h.dep n 2 102 (by kernel_rfl) rfl
                unfold execOp
                simp only [e0]
                go_simp
              · refine .inl ⟨.inl rfl, ?_⟩
                refine .inl ⟨by kernel_rfl, fun L a1 w1 n h => ⟨.pointer (some ⟨x, 8, none⟩), rfl, ?_⟩⟩
                have e0 : a1.eval (.tmp 103) = _ := h.dep n 3 103 (by kernel_rfl) rfl
                unfold execOp
                simp only [e0]
                go_simp
              · refine .inl ⟨.inl rfl, ?_⟩
                exact .inl ⟨by kernel_rfl, fun L a1 w1 n h => ⟨_, rfl, run_loadA 3 (.tmp 104) ⟨x, 8, none⟩ rfl Try.isAgg3 (h.dep n 4 104 (by kernel_rfl) rfl) ((Row.later hx h.inv.1).cell (j := 8) (v := .int .i64 s.life) rfl)⟩⟩
              · refine .inl ⟨.inl rfl, ?_⟩
                exact .inl ⟨by kernel_rfl, fun L a1 w1 n h => ⟨_, rfl, run_neqI (.tmp 101) (.tmp 105) rfl (h.dep n 1 101 (by kernel_rfl) rfl) (h.dep n 5 105 (by kernel_rfl) rfl) (by simp)⟩⟩
              · refine .inl ⟨.inl rfl, ?_⟩
                exact .inl ⟨by kernel_rfl, fun L a1 w1 n h => ⟨_, rfl, run_move (.tmp 106) rfl (h.dep n 6 106 (by kernel_rfl) rfl)⟩⟩
              · refine .inl ⟨.inr ⟨7, false, 107, rfl, by kernel_rfl, rfl, by simp, fun v h => h⟩, ?_⟩
                exact .inl ⟨by kernel_rfl, fun L a1 w1 n h => ⟨_, rfl, run_move (.tmp 7) rfl (h.var n 7 (by kernel_rfl))⟩⟩
              · refine .inl ⟨.inr ⟨7, false, 107, rfl, by kernel_rfl, rfl, by simp, fun v h => h⟩, ?_⟩
                refine .inr fun L a1 w1 n h K hK => ?_
                have e0 : a1.eval (.tmp 108) = ptr gc := h.dep n 8 108 (by kernel_rfl) rfl
                refine JF.call (FNo_mono ) h hK 109 rfl 51 _ _ #[ptr gc] rfl Try.call51 ?_ (pin_any w1 gc _ _ _ _ _ _ _ (Row.later hP.2.2 h.inv.1)) ?_
                · simp only [List.map_toArray, List.map_cons, List.map_nil, e0]
                · rintro e w3 ⟨rfl, b9⟩
                  exact ⟨_, rfl, rfl, trivial, b9⟩
              · refine .inl ⟨.inr ⟨7, false, 107, rfl, by kernel_rfl, rfl, by simp, fun v h => h⟩, ?_⟩
                exact .inl ⟨by kernel_rfl, fun L a1 w1 n h => ⟨_, rfl, run_move (.tmp 8) rfl (h.var n 8 (by kernel_rfl))⟩⟩
              · refine .inl ⟨.inr ⟨7, false, 107, rfl, by kernel_rfl, rfl, by simp, fun v h => h⟩, ?_⟩
                refine .inl ⟨by kernel_rfl, fun L a1 w1 n h => ⟨ptr x, rfl, ?_⟩⟩
                have e0 : a1.eval (.tmp 110) = _ := h.dep n 10 110 (by kernel_rfl) rfl
                unfold execOp
                simp only [e0]
                go_simp
              · refine .inl ⟨.inr ⟨7, false, 107, rfl, by kernel_rfl, rfl, by simp, fun v h => h⟩, ?_⟩
                refine .inl ⟨by kernel_rfl, fun L a1 w1 n h => ⟨.pointer (some ⟨x, 9, none⟩), rfl, ?_⟩⟩
                have e0 : a1.eval (.tmp 111) = _ := h.dep n 11 111 (by kernel_rfl) rfl
                unfold execOp
                simp only [e0]
                go_simp
              · refine .inl ⟨.inr ⟨7, false, 107, rfl, by kernel_rfl, rfl, by simp, fun v h => h⟩, ?_⟩
                exact .inl ⟨by kernel_rfl, fun L a1 w1 n h => ⟨_, rfl, run_loadP 83 (.tmp 112) x 9 85 [ptr q, .int .i64 n1, .int .i64 n2, .int .i64 n3, .int .i64 n4, .int .i64 n5, .int .i64 n6, .int .i64 n7, .int .i64 s.life] [.int .i64 s.a, .int .i64 s.b] [] _ rfl (h.dep n 12 112 (by kernel_rfl) rfl) (Row.later hx h.inv.1) rfl Try.underlying83 rfl (szPin _ _)⟩⟩
              · refine .inl ⟨.inr ⟨7, false, 107, rfl, by kernel_rfl, rfl, by simp, fun v h => h⟩, ?_⟩
                exact .inl ⟨by kernel_rfl, fun L a1 w1 n h => ⟨_, rfl, run_neqS (.tmp 109) (.tmp 113) rfl (fun w => (eqPin _ _ _ _ w).trans (by simp)) (h.dep n 9 109 (by kernel_rfl) rfl) (h.dep n 13 113 (by kernel_rfl) rfl) (by kernel_rfl)⟩⟩
              · refine .inl ⟨.inl rfl, ?_⟩
                exact .inl ⟨by kernel_rfl, fun L a1 w1 n h => ⟨_, rfl, run_pickF (.tmp 107) _ _ rfl (h.dep n 7 107 (by kernel_rfl) rfl) (h.dep n 14 114 (by kernel_rfl) rfl)⟩⟩
            case heE =>
              intro V w9 hV2 hJ
              have hz : V 15 = .bool false := hV2 15 115 rfl
              have b9 : Below wg.heap.size wg w9 := hJ.1
              have hP := hP.later b9
              have hq2 := Row.later hq2 b9
              have hx := Row.later hx b9
              clear hV2 hJ
              simp only [putOps, List.setIfInBounds_toArray, List.set_cons_succ, List.set_cons_zero, Nat.reduceAdd]
              rw [hz]
              refine hK6 _ _ ?_
              clear hz
              have hB9 := Bf.trans (b9.mono Bf.size)
              go_wp2
              go_roundw
              case rel => exact ⟨i + 1, s, by omega, by go_num, hP, ⟨hq2, _, _, _, _, _, _, _, rfl, hx⟩, ho, hB9⟩
              case measure => simp [intOf]; omega
          · obtain ⟨hk0, hk3, hk4⟩ := hk
            have hk0 : ¬ kd % 5 = 0 := hk0
            have hk3 : ¬ kd % 5 = 3 := hk3
            have hk4 : ¬ kd % 5 = 4 := hk4
            clear d3 d3' m0 p0
            go_wp2_with fail
            have hW4 : w.heap.size ≤ wr.heap.size := hB.size
            have d1 := (hB.cell (p := ⟨bb, oo + i * 4 + 1, none⟩) hbb).trans d1
            have d2 := (hB.cell (p := ⟨bb, oo + i * 4 + 2, none⟩) hbb).trans d2
            rename_i K9 hK9
            clear d0 d0' hk0 hk3 hk4 k0 k1
            generalize hBe : w.heap.size = B at hbb hS4 hW4
            refine wp_region_valsS [6, 13] (SRs gc x bb oo k cap i n3 p1 p2 s) (J2 wr (Buts [gc, gp, x, q]) (fun w' => PSide w' gP gp gc (bnd n5) (bnd n3) s) (fun w' => PSide w' gP gp gc (bnd n5) (bnd n3) (s.raise (bnd n3) p1 p2)) (fun w' => RSide w' q x [n1, n2, n3, n4, n5, n6, n7] s) (fun w' => RSide w' q x [n1, n2, n3, n4, n5, n6, n7] (s.raise (bnd n3) p1 p2)) 0 1) (by kernel_rfl) (by kernel_rfl) (by kernel_rfl) (by kernel_rfl) ?ini9 ?obs9 ?he9
            case ini9 => exact ⟨⟨rfl, rfl, rfl, Nat.le_refl _, fun _ _ _ => rfl⟩, fun _ => hP, fun h => (by cases h), fun _ => hR, fun h => (by cases h)⟩
            case obs9 =>
              refine ⟨?_, ?_, ?_, ?_, ?_, ?_, ?_, ?_, ?_, ?_, ?_, ?_, ?_, ?_, ?_, trivial⟩
              · refine .inl ⟨.inl rfl, ?_⟩
                exact .inl ⟨by kernel_rfl, fun L a1 w1 n h => ⟨_, rfl, run_move (.tmp 7) rfl (h.var n 7 (by kernel_rfl))⟩⟩
              · refine .inl ⟨.inl rfl, ?_⟩
                exact .inl ⟨by kernel_rfl, fun L a1 w1 n h => ⟨_, rfl, run_move (.tmp 1) rfl (h.var n 1 (by kernel_rfl))⟩⟩
              · refine .inl ⟨.inl rfl, ?_⟩
                exact .inl ⟨by kernel_rfl, fun L a1 w1 n h => ⟨_, rfl, run_move (.tmp 9) rfl (h.var n 9 (by kernel_rfl))⟩⟩
              · refine .inl ⟨.inl rfl, ?_⟩
                exact .inl ⟨by kernel_rfl, fun L a1 w1 n h => ⟨_, rfl, run_indexSn 78 (.tmp 40) (.tmp 41) 87 bb oo k cap i 4 rfl Try.underlying78 sizeAct (h.dep n 1 40 (by kernel_rfl) rfl) (h.dep n 2 41 (by kernel_rfl) rfl) hi⟩⟩
              · refine .inl ⟨.inl rfl, ?_⟩
                refine .inl ⟨by kernel_rfl, fun L a1 w1 n h => ⟨.pointer (some ⟨bb, oo + i * 4 + 1, none⟩), rfl, ?_⟩⟩
                have e0 : a1.eval (.tmp 42) = _ := h.dep n 3 42 (by kernel_rfl) rfl
                unfold execOp
                simp only [e0]
                go_simp
              · refine .inl ⟨.inl rfl, ?_⟩
                exact .inl ⟨by kernel_rfl, fun L a1 w1 n h => ⟨_, rfl, run_loadC 83 (.tmp 43) bb (oo + i * 4 + 1) [.int .i64 p1, .int .i64 p2] _ rfl (h.dep n 4 43 (by kernel_rfl) rfl) (two_cells ((h.inv.1.below hS4 hW4).cell hbb |>.trans d1) ((h.inv.1.below hS4 hW4).cell hbb |>.trans d2)) Try.underlying83 rfl (szPin _ _)⟩⟩
              · refine .inl ⟨.inl rfl, ?_⟩
                refine .inr fun L a1 w1 n h K hK => ?_
                have no : L.getD 6 false = false := n.not_yet
                have hA := h.inv.2.1 ((bits_at rfl).trans no)
                have e0 : a1.eval (.tmp 39) = ptr gc := h.dep n 0 39 (by kernel_rfl) rfl
                have e1 : a1.eval (.tmp 44) = pin p1 p2 := h.dep n 5 44 (by kernel_rfl) rfl
                refine st_call 48 _ _ #[ptr gc, pin p1 p2] rfl Try.call48 ?_ (pRaise w1 gP gp gc (bnd n5) (bnd n3) p1 p2 s hA ho hnP) ?_
                · simp only [List.map_toArray, List.map_cons, List.map_nil, e0, e1]
                · rintro e w3 ⟨rfl, c9, b9⟩
                  exact ⟨_, rfl, hK _ w3 rfl (J2.first h.inv (h.inv.1.trans (b9.sub (by simp))) c9 rfl rfl (fun q0 => q0.buts b9 nq1 nx1) (fun q0 => q0.buts b9 nq1 nx1))⟩
              · refine .inl ⟨.inl rfl, ?_⟩
                exact .inl ⟨by kernel_rfl, fun L a1 w1 n h => ⟨_, rfl, run_move (.tmp 8) rfl (h.var n 8 (by kernel_rfl))⟩⟩
              · refine .inl ⟨.inl rfl, ?_⟩
                exact .inl ⟨by kernel_rfl, fun L a1 w1 n h => ⟨_, rfl, run_move (.tmp 1) rfl (h.var n 1 (by kernel_rfl))⟩⟩
              · refine .inl ⟨.inl rfl, ?_⟩
                exact .inl ⟨by kernel_rfl, fun L a1 w1 n h => ⟨_, rfl, run_move (.tmp 9) rfl (h.var n 9 (by kernel_rfl))⟩⟩
              · refine .inl ⟨.inl rfl, ?_⟩
                exact .inl ⟨by kernel_rfl, fun L a1 w1 n h => ⟨_, rfl, run_indexSn 78 (.tmp 47) (.tmp 48) 87 bb oo k cap i 4 rfl Try.underlying78 sizeAct (h.dep n 8 47 (by kernel_rfl) rfl) (h.dep n 9 48 (by kernel_rfl) rfl) hi⟩⟩
              · refine .inl ⟨.inl rfl, ?_⟩
                refine .inl ⟨by kernel_rfl, fun L a1 w1 n h => ⟨.pointer (some ⟨bb, oo + i * 4 + 1, none⟩), rfl, ?_⟩⟩
                have e0 : a1.eval (.tmp 49) = _ := h.dep n 10 49 (by kernel_rfl) rfl
                unfold execOp
                simp only [e0]
                go_simp
              · refine .inl ⟨.inl rfl, ?_⟩
                exact .inl ⟨by kernel_rfl, fun L a1 w1 n h => ⟨_, rfl, run_loadC 83 (.tmp 50) bb (oo + i * 4 + 1) [.int .i64 p1, .int .i64 p2] _ rfl (h.dep n 11 50 (by kernel_rfl) rfl) (two_cells ((h.inv.1.below hS4 hW4).cell hbb |>.trans d1) ((h.inv.1.below hS4 hW4).cell hbb |>.trans d2)) Try.underlying83 rfl (szPin _ _)⟩⟩
              · refine .inl ⟨.inl rfl, ?_⟩
                refine .inr fun L a1 w1 n h K hK => ?_
                have no : L.getD 13 false = false := n.not_yet
                have hA := h.inv.2.2.2.1 ((bits_at rfl).trans no)
                have e0 : a1.eval (.tmp 46) = ptr x := h.dep n 7 46 (by kernel_rfl) rfl
                have e1 : a1.eval (.tmp 51) = pin p1 p2 := h.dep n 12 51 (by kernel_rfl) rfl
                refine st_call 49 _ _ #[ptr x, pin p1 p2] rfl Try.call49 ?_ (rRaise w1 q x n1 n2 n3 n4 n5 n6 n7 (bnd n5) p1 p2 s hA ho hnx) ?_
                · simp only [List.map_toArray, List.map_cons, List.map_nil, e0, e1]
                · rintro e w3 ⟨rfl, c9, b9⟩
                  exact ⟨_, rfl, hK _ w3 rfl (J2.second h.inv (h.inv.1.trans (b9.sub (by simp))) c9 rfl rfl (fun q0 => q0.buts b9 mP mp mc) (fun q0 => q0.buts b9 mP mp mc))⟩
              · refine .inl ⟨.inl rfl, ?_⟩
                exact .inl ⟨by kernel_rfl, fun L a1 w1 n h => ⟨_, rfl, run_neqI (.tmp 45) (.tmp 52) rfl (h.dep n 6 45 (by kernel_rfl) rfl) (h.dep n 13 52 (by kernel_rfl) rfl) (by simp)⟩⟩
            case he9 =>
              intro V wf hV2 hJ
              have hz : V 14 = .bool false := hV2 14 53 rfl
              have hP : PSide wf gP gp gc (bnd n5) (bnd n3) (s.raise (bnd n3) p1 p2) := hJ.2.2.1 rfl
              have hR : RSide wf q x [n1, n2, n3, n4, n5, n6, n7] (s.raise (bnd n3) p1 p2) := hJ.2.2.2.2 rfl
              have bf : Buts [gc, gp, x, q] wr wf := hJ.1
              subst hBe
              have Bf := hB.trans (bf.below hS4 hB.size)
              clear hV2 hJ
              simp only [putOps, List.setIfInBounds_toArray, List.set_cons_succ, List.set_cons_zero, Nat.reduceAdd]
              rw [hz]
              refine hK9 _ _ ?_
              have ho := St.ok_raise (m2 := bnd n3) (p := p1) (q := p2) ho
              generalize s.raise (bnd n3) p1 p2 = s at *
              clear hz d1 d2 hB
              obtain ⟨hq2, m1, m2, m3, m4, m5, m6, m7, he2, hx⟩ := hR
              simp only [List.cons.injEq, and_true] at he2
              obtain ⟨rfl, rfl, rfl, rfl, rfl, rfl, rfl⟩ := he2
              go_wp2_with fail
              rename_i K6 hK6
              refine wp_region_valsS [1, 9] (SPl gc x q n1 n2 n3 n4 n5 n6 n7 s) (JF wf [1, 9] FNo) (by kernel_rfl) (by kernel_rfl) (by kernel_rfl) (by kernel_rfl) (JF.start _) ?obsE ?heE
              case obsE =>
                refine ⟨?_, ?_, ?_, ?_, ?_, ?_, ?_, ?_, ?_, ?_, ?_, ?_, ?_, ?_, ?_, ?_, trivial⟩
                · refine .inl ⟨.inl rfl, ?_⟩
                  exact .inl ⟨by kernel_rfl, fun L a1 w1 n h => ⟨_, rfl, run_move (.tmp 7) rfl (h.var n 7 (by kernel_rfl))⟩⟩
                · refine .inl ⟨.inl rfl, ?_⟩
                  refine .inr fun L a1 w1 n h K hK => ?_
                  have e0 : a1.eval (.tmp 100) = ptr gc := h.dep n 0 100 (by kernel_rfl) rfl
                  refine JF.call (FNo_mono ) h hK 101 rfl 50 _ _ #[ptr gc] rfl Try.call50 ?_ (life_any w1 gc _ _ _ _ _ _ _ (Row.later hP.2.2 h.inv.1)) ?_
                  · simp only [List.map_toArray, List.map_cons, List.map_nil, e0]
                  · rintro e w3 ⟨rfl, rfl⟩
                    exact ⟨_, rfl, rfl, trivial, (Below.refl _ _)⟩
                · refine .inl ⟨.inl rfl, ?_⟩
                  exact .inl ⟨by kernel_rfl, fun L a1 w1 n h => ⟨_, rfl, run_move (.tmp 8) rfl (h.var n 8 (by kernel_rfl))⟩⟩
                · refine .inl ⟨.inl rfl, ?_⟩
                  refine .inl ⟨by kernel_rfl, fun L a1 w1 n h => ⟨ptr x, rfl, ?_⟩⟩
                  have e0 : a1.eval (.tmp 102) = _ := h.dep n 2 102 (by kernel_rfl) rfl
                  unfold execOp
                  simp only [e0]
                  go_simp
                · refine .inl ⟨.inl rfl, ?_⟩
                  refine .inl ⟨by kernel_rfl, fun L a1 w1 n h => ⟨.pointer (some ⟨x, 8, none⟩), rfl, ?_⟩⟩
                  have e0 : a1.eval (.tmp 103) = _ := h.dep n 3 103 (by kernel_rfl) rfl
                  unfold execOp
                  simp only [e0]
                  go_simp
                · refine .inl ⟨.inl rfl, ?_⟩
                  exact .inl ⟨by kernel_rfl, fun L a1 w1 n h => ⟨_, rfl, run_loadA 3 (.tmp 104) ⟨x, 8, none⟩ rfl Try.isAgg3 (h.dep n 4 104 (by kernel_rfl) rfl) ((Row.later hx h.inv.1).cell (j := 8) (v := .int .i64 s.life) rfl)⟩⟩
                · refine .inl ⟨.inl rfl, ?_⟩
                  exact .inl ⟨by kernel_rfl, fun L a1 w1 n h => ⟨_, rfl, run_neqI (.tmp 101) (.tmp 105) rfl (h.dep n 1 101 (by kernel_rfl) rfl) (h.dep n 5 105 (by kernel_rfl) rfl) (by simp)⟩⟩
                · refine .inl ⟨.inl rfl, ?_⟩
                  exact .inl ⟨by kernel_rfl, fun L a1 w1 n h => ⟨_, rfl, run_move (.tmp 106) rfl (h.dep n 6 106 (by kernel_rfl) rfl)⟩⟩
                · refine .inl ⟨.inr ⟨7, false, 107, rfl, by kernel_rfl, rfl, by simp, fun v h => h⟩, ?_⟩
                  exact .inl ⟨by kernel_rfl, fun L a1 w1 n h => ⟨_, rfl, run_move (.tmp 7) rfl (h.var n 7 (by kernel_rfl))⟩⟩
                · refine .inl ⟨.inr ⟨7, false, 107, rfl, by kernel_rfl, rfl, by simp, fun v h => h⟩, ?_⟩
                  refine .inr fun L a1 w1 n h K hK => ?_
                  have e0 : a1.eval (.tmp 108) = ptr gc := h.dep n 8 108 (by kernel_rfl) rfl
                  refine JF.call (FNo_mono ) h hK 109 rfl 51 _ _ #[ptr gc] rfl Try.call51 ?_ (pin_any w1 gc _ _ _ _ _ _ _ (Row.later hP.2.2 h.inv.1)) ?_
                  · simp only [List.map_toArray, List.map_cons, List.map_nil, e0]
                  · rintro e w3 ⟨rfl, b9⟩
                    exact ⟨_, rfl, rfl, trivial, b9⟩
                · refine .inl ⟨.inr ⟨7, false, 107, rfl, by kernel_rfl, rfl, by simp, fun v h => h⟩, ?_⟩
                  exact .inl ⟨by kernel_rfl, fun L a1 w1 n h => ⟨_, rfl, run_move (.tmp 8) rfl (h.var n 8 (by kernel_rfl))⟩⟩
                · refine .inl ⟨.inr ⟨7, false, 107, rfl, by kernel_rfl, rfl, by simp, fun v h => h⟩, ?_⟩
                  refine .inl ⟨by kernel_rfl, fun L a1 w1 n h => ⟨ptr x, rfl, ?_⟩⟩
                  have e0 : a1.eval (.tmp 110) = _ := h.dep n 10 110 (by kernel_rfl) rfl
                  unfold execOp
                  simp only [e0]
                  go_simp
                · refine .inl ⟨.inr ⟨7, false, 107, rfl, by kernel_rfl, rfl, by simp, fun v h => h⟩, ?_⟩
                  refine .inl ⟨by kernel_rfl, fun L a1 w1 n h => ⟨.pointer (some ⟨x, 9, none⟩), rfl, ?_⟩⟩
                  have e0 : a1.eval (.tmp 111) = _ := h.dep n 11 111 (by kernel_rfl) rfl
                  unfold execOp
                  simp only [e0]
                  go_simp
                · refine .inl ⟨.inr ⟨7, false, 107, rfl, by kernel_rfl, rfl, by simp, fun v h => h⟩, ?_⟩
                  exact .inl ⟨by kernel_rfl, fun L a1 w1 n h => ⟨_, rfl, run_loadP 83 (.tmp 112) x 9 85 [ptr q, .int .i64 n1, .int .i64 n2, .int .i64 n3, .int .i64 n4, .int .i64 n5, .int .i64 n6, .int .i64 n7, .int .i64 s.life] [.int .i64 s.a, .int .i64 s.b] [] _ rfl (h.dep n 12 112 (by kernel_rfl) rfl) (Row.later hx h.inv.1) rfl Try.underlying83 rfl (szPin _ _)⟩⟩
                · refine .inl ⟨.inr ⟨7, false, 107, rfl, by kernel_rfl, rfl, by simp, fun v h => h⟩, ?_⟩
                  exact .inl ⟨by kernel_rfl, fun L a1 w1 n h => ⟨_, rfl, run_neqS (.tmp 109) (.tmp 113) rfl (fun w => (eqPin _ _ _ _ w).trans (by simp)) (h.dep n 9 109 (by kernel_rfl) rfl) (h.dep n 13 113 (by kernel_rfl) rfl) (by kernel_rfl)⟩⟩
                · refine .inl ⟨.inl rfl, ?_⟩
                  exact .inl ⟨by kernel_rfl, fun L a1 w1 n h => ⟨_, rfl, run_pickF (.tmp 107) _ _ rfl (h.dep n 7 107 (by kernel_rfl) rfl) (h.dep n 14 114 (by kernel_rfl) rfl)⟩⟩
              case heE =>
                intro V w9 hV2 hJ
                have hz : V 15 = .bool false := hV2 15 115 rfl
                have b9 : Below wf.heap.size wf w9 := hJ.1
                have hP := hP.later b9
                have hq2 := Row.later hq2 b9
                have hx := Row.later hx b9
                clear hV2 hJ
                simp only [putOps, List.setIfInBounds_toArray, List.set_cons_succ, List.set_cons_zero, Nat.reduceAdd]
                rw [hz]
                refine hK6 _ _ ?_
                clear hz
                have hB9 := Bf.trans (b9.mono Bf.size)
                go_wp2
                go_roundw
                case rel => exact ⟨i + 1, s, by omega, by go_num, hP, ⟨hq2, _, _, _, _, _, _, _, rfl, hx⟩, ho, hB9⟩
                case measure => simp [intOf]; omega
        · obtain rfl : i = k := by omega
          go_wp2_with fail
          refine (awake_any wr).mono ?_
          rintro e wz ⟨rfl, bz⟩
          go_wp2_with fail
          go_ret
          exact ⟨rfl, hB.trans (bz.mono hB.size)⟩
end Go.Proofs.Ytlihoijbfffjcaa

/-
  The cell: raise; the document's cell: contracts. Own work.
-/
import Derived.Test.YtlihoijbfffjcaaCellE
namespace Go.Proofs.Ytlihoijbfffjcaa
open Go.RowKit
set_option linter.unusedVariables false
set_option linter.unusedSimpArgs false
theorem refuse_nil (w : World) (p1 p2 : Int) : Calls Try.prog 103 #[.pointer none, pin p1 p2] w fun e w' => e = .returned (.int .i64 2) ∧ Below w.heap.size w w' := by
  go_enter Try.func103, Try.ntmps103
  go_wp2_with (first
    | (with_reducible refine wl_box rfl 83 (.tmp 1) _ [.int .i64 p1, .int .i64 p2] rfl rfl rfl ?_; intro g3 w3 r3 p3 l3 b3))
  go_ret
  exact ⟨rfl, b3⟩
theorem refuse_not (w : World) (g : Nat) (P : Option Addr) (m1 m2 life a b p1 p2 : Int) (hc : Cel w g false P m1 m2 life a b) : Calls Try.prog 103 #[ptr g, pin p1 p2] w fun e w' => e = .returned (.int .i64 2) ∧ Below w.heap.size w w' := by
  go_enter Try.func103, Try.ntmps103
  go_wp2_with (first
    | (with_reducible refine wl_box rfl 83 (.tmp 1) _ [.int .i64 p1, .int .i64 p2] rfl rfl rfl ?_; intro g3 w3 r3 p3 l3 b3; have hc := Row.later hc b3; have c0 := hc.cell (j := 0) (v := .bool false) rfl))
  go_ret
  exact ⟨rfl, b3⟩
/-- A refusal is handed on. -/
theorem raise_no (w : World) (v : Value) (p1 p2 r : Int) (hr : r ≠ 0) (hR : ∀ w1, Below w.heap.size w w1 → Calls Try.prog 103 #[v, pin p1 p2] w1 fun e w' => e = .returned (.int .i64 r) ∧ Below w1.heap.size w1 w') : Calls Try.prog 48 #[v, pin p1 p2] w fun e w' => e = .returned (.int .i64 r) ∧ Below w.heap.size w w' := by
  have hd : decide (r = 0) = false := by simp [hr]
  have hR := hide hR
  go_enter Try.func48, Try.ntmps48
  go_wp2_with (first
    | (with_reducible refine wl_box rfl 83 (.tmp 1) _ [.int .i64 p1, .int .i64 p2] rfl rfl rfl ?_; intro g3 w3 r3 p3 l3 b3)
    | (with_reducible refine wl_load_row rfl 83 (.tmp 3) g3 83 [.int .i64 p1, .int .i64 p2] _ rfl rfl r3 Try.underlying83 rfl (szPin _ _) ?_))
  refine (hR.out w3 b3).mono ?_
  rintro en w4 ⟨rfl, b4⟩
  go_wp2_with fail
  go_ret
  exact ⟨rfl, b3.trans (b4.mono b3.size)⟩
theorem raise_off (w : World) (g : Nat) (m1 m2 life a b p1 p2 : Int) (hc : Cel w g true none m1 m2 life a b) (hv : refV m2 life a b p1 p2 = 0) : Calls Try.prog 48 #[ptr g, pin p1 p2] w fun e w' => e = .returned (.int .i64 8) ∧ Below w.heap.size w w' := by
  have hR := fun w hc => refuse_any w g none m1 m2 life a b p1 p2 hc
  rw [hv] at hR
  go_enter Try.func48, Try.ntmps48
  go_wp2_with (first
    | (with_reducible refine wl_box rfl 83 (.tmp 1) _ [.int .i64 p1, .int .i64 p2] rfl rfl rfl ?_; intro g3 w3 r3 p3 l3 b3; have hc := Row.later hc b3)
    | (with_reducible refine wl_load_row rfl 83 (.tmp 3) g3 83 [.int .i64 p1, .int .i64 p2] _ rfl rfl r3 Try.underlying83 rfl (szPin _ _) ?_))
  refine (hR w3 hc).mono ?_
  rintro en w4 ⟨rfl, b4⟩
  have hc := Row.later hc b4
  have c1 := hc.cell (j := 1) (v := .pointer none) rfl
  go_wp2_with fail
  refine (pAct_nil w4).mono ?_
  rintro en w5 ⟨rfl, rfl⟩
  go_wp2_with fail
  go_ret
  exact ⟨rfl, b3.trans (b4.mono b3.size)⟩
/-- What is the pin behind a raise that was not refused. -/
def raiP (e a p : Int) : Int := if e = 0 then p else a
theorem act08 (on : Bool) (fuse : Int) : actE on fuse = 0 ∨ actE on fuse = 8 := by
  unfold actE; split
  · exact .inr rfl
  · split
    · exact .inr rfl
    · exact .inl rfl
set_option maxRecDepth 100000 in
set_option maxHeartbeats 1000000 in
theorem raise_some (w : World) (g gP gp : Nat) (m1 m2 life a b p1 p2 : Int) (on : Bool) (fuse : Int) (hc : Cel w g true (some ⟨gP, 0, none⟩) m1 m2 life a b) (hv : refV m2 life a b p1 p2 = 0) (hp : Pwr w gP gp) (hg : Plg w gp on fuse) (hf : isI fuse) (h1 : g ≠ gp) :
    Calls Try.prog 48 #[ptr g, pin p1 p2] w fun e w' => e = .returned (.int .i64 (actE on fuse)) ∧ Cel w' g true (some ⟨gP, 0, none⟩) m1 m2 life (raiP (actE on fuse) a p1) (raiP (actE on fuse) b p2) ∧ Plg w' gp (on && actOn on fuse) (actF on fuse) ∧ Buts [g, gp] w w' := by
  have hR := fun w hc => refuse_any w g (some ⟨gP, 0, none⟩) m1 m2 life a b p1 p2 hc
  rw [hv] at hR
  have hA := fun w hp h => pAct_any w gP gp on fuse hp h hf
  have hE := act08 on fuse
  generalize actE on fuse = E at *
  generalize hx : (on && actOn on fuse) = on2 at *
  generalize hy : actF on fuse = f2 at *
  clear hx hy hv
  go_enter Try.func48, Try.ntmps48
  go_wp2_with (first
    | (with_reducible refine wl_box rfl 83 (.tmp 1) _ [.int .i64 p1, .int .i64 p2] rfl rfl rfl ?_; intro g3 w3 r3 p3 l3 b3; have hgl := Row.lt hc; have hgp := Row.lt hg; have hc := Row.later hc b3; have hp := Row.later hp b3; have hg := Row.later hg b3)
    | (with_reducible refine wl_load_row rfl 83 (.tmp 3) g3 83 [.int .i64 p1, .int .i64 p2] _ rfl rfl r3 Try.underlying83 rfl (szPin _ _) ?_))
  refine (hR w3 hc).mono ?_
  rintro en w4 ⟨rfl, b4⟩
  have hc := Row.later hc b4
  have hp := Row.later hp b4
  have hg := Row.later hg b4
  have r4 := r3.later b4
  have c1 := hc.cell (j := 1) (v := ptr gP) rfl
  go_wp2_with fail
  refine (hA w4 hp hg).mono ?_
  rintro en w5 ⟨rfl, r5, o5⟩
  have hc5 := hc.only o5 h1
  have r35 := r4.only o5 (by omega)
  clear c1
  have B := (Buts.of (b3.trans (b4.mono b3.size)) [g, gp]).trans (Buts.only o5 (by simp))
  rcases hE with rfl | rfl
  · have hc5' := cut5 hc5
    go_wp2_with (first
      | (with_reducible refine wl_load_row rfl 83 (.tmp 3) g3 83 [.int .i64 p1, .int .i64 p2] _ rfl rfl r35 Try.underlying83 rfl (szPin _ _) ?_)
      | (with_reducible refine wl_store_part rfl 83 (.tmp 24) (.tmp 22) g 5 100 [.bool true, .pointer (some ⟨gP, 0, none⟩), .int .i64 m1, .int .i64 m2, .int .i64 life] [.int .i64 a, .int .i64 b] [] [.int .i64 p1, .int .i64 p2] rfl rfl rfl hc5' rfl rfl (szPin _ _) (one_pin _ _) ?_; intro w7 r7 o7))
    go_ret
    exact ⟨rfl, r7, r5.only o7 (Ne.symm h1), B.trans (Buts.only o7 (by simp))⟩
  · go_wp2_with fail
    go_ret
    exact ⟨rfl, hc5, r5, B⟩

/-! ### The document's cell -/
abbrev rcelL (q : Nat) (n s p g l e c life a b : Int) : List Value := [ptr q, .int .i64 n, .int .i64 s, .int .i64 p, .int .i64 g, .int .i64 l, .int .i64 e, .int .i64 c, .int .i64 life, .int .i64 a, .int .i64 b]
abbrev RCel (w : World) (x q : Nat) (n s p g l e c life a b : Int) : Prop := Row w 85 x (rcelL q n s p g l e c life a b)
theorem lt11 (x0 x1 x2 x3 x4 x5 x6 x7 x8 x9 x10 : Value) {j : Nat} (h : j < 11) : j < [x0, x1, x2, x3, x4, x5, x6, x7, x8, x9, x10].length := h
theorem cut9 {w : World} {t g : Nat} {x0 x1 x2 x3 x4 x5 x6 x7 x8 x9 x10 : Value} (h : Row w t g [x0, x1, x2, x3, x4, x5, x6, x7, x8, x9, x10]) : Row w t g ([x0, x1, x2, x3, x4, x5, x6, x7, x8] ++ ([x9, x10] ++ [])) := h
def SBtrue (x q : Nat) (n s p g l e c life a b : Int) (opn : Nat) (v : Value) : Prop :=
  match opn with
  | 0 | 1 | 4 | 5 => v = ptr x
  | 2 => v = .pointer (some ⟨x, 8, none⟩)
  | 3 => v = .int .i64 life
  | 6 => v = .pointer (some ⟨x, 1, none⟩)
  | 7 => v = .pointer (some ⟨x, 5, none⟩)
  | 8 => v = .int .i64 l
  | 9 => v = .int .i64 (bnd l)
  | 10 => v = .bool true
  | _ => True
def SBfalse (x q : Nat) (n s p g l e c life a b : Int) (opn : Nat) (v : Value) : Prop :=
  match opn with
  | 0 | 1 | 4 | 5 => v = ptr x
  | 2 => v = .pointer (some ⟨x, 8, none⟩)
  | 3 => v = .int .i64 life
  | 6 => v = .pointer (some ⟨x, 1, none⟩)
  | 7 => v = .pointer (some ⟨x, 5, none⟩)
  | 8 => v = .int .i64 l
  | 9 => v = .int .i64 (bnd l)
  | 10 => v = .bool false
  | _ => True
def SRa (x q g3 : Nat) (n s p g l e c life a b p1 p2 : Int) (opn : Nat) (v : Value) : Prop :=
  match opn with
  | 0 | 1 => v = ptr x
  | 2 => v = .pointer (some ⟨x, 9, none⟩)
  | 3 => v = .agg [.int .i64 a, .int .i64 b].toArray
  | 4 => v = .agg [.int .i64 p1, .int .i64 p2].toArray
  | 5 => v = .bool (lessB a b p1 p2)
  | 6 | 7 | 15 => v = .bool true
  | 8 | 9 | 10 | 11 | 12 | 13 | 14 => v = undef
  | _ => True
def SRb (x q g3 : Nat) (n s p g l e c life a b p1 p2 : Int) (opn : Nat) (v : Value) : Prop :=
  match opn with
  | 0 | 1 | 10 | 11 => v = ptr x
  | 2 => v = .pointer (some ⟨x, 9, none⟩)
  | 3 => v = .agg [.int .i64 a, .int .i64 b].toArray
  | 4 => v = .agg [.int .i64 p1, .int .i64 p2].toArray
  | 5 => v = .bool (lessB a b p1 p2)
  | 6 | 7 => v = .bool false
  | 8 => v = .pointer (some ⟨g3, 0, none⟩)
  | 9 => v = .int .i64 p1
  | 12 => v = .pointer (some ⟨x, 8, none⟩)
  | 13 => v = .int .i64 life
  | 14 | 15 => v = .bool true
  | _ => True
def SRd (x q g3 : Nat) (n s p g l e c life a b p1 p2 : Int) (opn : Nat) (v : Value) : Prop :=
  match opn with
  | 0 => v = .pointer (some ⟨g3, 1, none⟩)
  | 1 => v = .int .i64 p2
  | 2 | 3 => v = ptr x
  | 4 => v = .pointer (some ⟨x, 1, none⟩)
  | 5 => v = .pointer (some ⟨x, 3, none⟩)
  | 6 => v = .int .i64 p
  | 7 => v = .int .i64 (bnd p)
  | 8 => v = .bool true
  | _ => True
def SRc (x q g3 : Nat) (n s p g l e c life a b p1 p2 : Int) (opn : Nat) (v : Value) : Prop :=
  match opn with
  | 0 | 1 | 10 | 11 => v = ptr x
  | 2 => v = .pointer (some ⟨x, 9, none⟩)
  | 3 => v = .agg [.int .i64 a, .int .i64 b].toArray
  | 4 => v = .agg [.int .i64 p1, .int .i64 p2].toArray
  | 5 => v = .bool (lessB a b p1 p2)
  | 6 | 7 | 14 | 15 => v = .bool false
  | 8 => v = .pointer (some ⟨g3, 0, none⟩)
  | 9 => v = .int .i64 p1
  | 12 => v = .pointer (some ⟨x, 8, none⟩)
  | 13 => v = .int .i64 life
  | _ => True
def SRf (x q g3 : Nat) (n s p g l e c life a b p1 p2 : Int) (opn : Nat) (v : Value) : Prop :=
  match opn with
  | 0 => v = .pointer (some ⟨g3, 1, none⟩)
  | 1 => v = .int .i64 p2
  | 2 | 3 => v = ptr x
  | 4 => v = .pointer (some ⟨x, 1, none⟩)
  | 5 => v = .pointer (some ⟨x, 3, none⟩)
  | 6 => v = .int .i64 p
  | 7 => v = .int .i64 (bnd p)
  | 8 => v = .bool false
  | _ => True
def SRe (x q g3 : Nat) (n s p g l e c life a b p1 p2 : Int) (opn : Nat) (v : Value) : Prop :=
  match opn with
  | 0 | 1 | 10 | 11 => v = ptr x
  | 2 => v = .pointer (some ⟨x, 9, none⟩)
  | 3 => v = .agg [.int .i64 a, .int .i64 b].toArray
  | 4 => v = .agg [.int .i64 p1, .int .i64 p2].toArray
  | 5 => v = .bool (lessB a b p1 p2)
  | 6 | 7 | 14 | 15 => v = .bool false
  | 8 => v = .pointer (some ⟨g3, 0, none⟩)
  | 9 => v = .int .i64 p1
  | 12 => v = .pointer (some ⟨x, 8, none⟩)
  | 13 => v = .int .i64 life
  | _ => True

set_option maxRecDepth 100000 in
set_option maxHeartbeats 1000000 in
theorem rbirth_full (w : World) (x q : Nat) (n s p g l e c life a b : Int) (hc : RCel w x q n s p g l e c life a b) (hr : decide (bnd l ≤ life) = true) : Calls Try.prog 47 #[ptr x] w fun en w' => en = .returned (.tuple #[.int .i64 0, .int .i64 7]) ∧ Below w.heap.size w w' := by
  go_enter Try.func47, Try.ntmps47
  go_wp2
  rename_i Q1 K1 hK1
  refine wp_region_valsS [9] (SBtrue x q n s p g l e c life a b) (JF w [9] FNo) (by kernel_rfl) (by kernel_rfl) (by kernel_rfl) (by kernel_rfl) (JF.start _) ?obsSBtrue ?heSBtrue
  case obsSBtrue =>
    refine ⟨?_, ?_, ?_, ?_, ?_, ?_, ?_, ?_, ?_, ?_, ?_, trivial⟩
    · refine .inl ⟨.inl rfl, ?_⟩
      exact .inl ⟨by kernel_rfl, fun L a1 w1 n' h => ⟨_, rfl, run_move (.tmp 0) rfl (h.var n' 0 (by kernel_rfl))⟩⟩
    · refine .inl ⟨.inl rfl, ?_⟩
      refine .inl ⟨by kernel_rfl, fun L a1 w1 n' h => ⟨ptr x, rfl, ?_⟩⟩
      have e0 : a1.eval (.tmp 5) = _ := h.dep n' 0 5 (by kernel_rfl) rfl
      unfold execOp
      simp only [e0]
      go_simp
    · refine .inl ⟨.inl rfl, ?_⟩
      refine .inl ⟨by kernel_rfl, fun L a1 w1 n' h => ⟨.pointer (some ⟨x, 8, none⟩), rfl, ?_⟩⟩
      have e0 : a1.eval (.tmp 6) = _ := h.dep n' 1 6 (by kernel_rfl) rfl
      unfold execOp
      simp only [e0]
      go_simp
    · refine .inl ⟨.inl rfl, ?_⟩
      exact .inl ⟨by kernel_rfl, fun L a1 w1 n' h => ⟨_, rfl, run_loadA 3 (.tmp 7) ⟨x, 8, none⟩ rfl Try.isAgg3 (h.dep n' 2 7 (by kernel_rfl) rfl) ((Row.later hc h.inv.1).cell (j := 8) (v := .int .i64 life) rfl)⟩⟩
    · refine .inl ⟨.inl rfl, ?_⟩
      exact .inl ⟨by kernel_rfl, fun L a1 w1 n' h => ⟨_, rfl, run_move (.tmp 0) rfl (h.var n' 0 (by kernel_rfl))⟩⟩
    · refine .inl ⟨.inl rfl, ?_⟩
      refine .inl ⟨by kernel_rfl, fun L a1 w1 n' h => ⟨ptr x, rfl, ?_⟩⟩
      have e0 : a1.eval (.tmp 9) = _ := h.dep n' 4 9 (by kernel_rfl) rfl
      unfold execOp
      simp only [e0]
      go_simp
    · refine .inl ⟨.inl rfl, ?_⟩
      refine .inl ⟨by kernel_rfl, fun L a1 w1 n' h => ⟨.pointer (some ⟨x, 1, none⟩), rfl, ?_⟩⟩
      have e0 : a1.eval (.tmp 10) = _ := h.dep n' 5 10 (by kernel_rfl) rfl
      unfold execOp
      simp only [e0]
      go_simp
    · refine .inl ⟨.inl rfl, ?_⟩
      refine .inl ⟨by kernel_rfl, fun L a1 w1 n' h => ⟨.pointer (some ⟨x, 5, none⟩), rfl, ?_⟩⟩
      have e0 : a1.eval (.tmp 11) = _ := h.dep n' 6 11 (by kernel_rfl) rfl
      unfold execOp
      simp only [e0]
      go_simp
    · refine .inl ⟨.inl rfl, ?_⟩
      exact .inl ⟨by kernel_rfl, fun L a1 w1 n' h => ⟨_, rfl, run_loadA 3 (.tmp 12) ⟨x, 5, none⟩ rfl Try.isAgg3 (h.dep n' 7 12 (by kernel_rfl) rfl) ((Row.later hc h.inv.1).cell (j := 5) (v := .int .i64 l) rfl)⟩⟩
    · refine .inl ⟨.inl rfl, ?_⟩
      refine .inr fun L a1 w1 n' h K hK => ?_
      have e0 : a1.eval (.tmp 13) = .int .i64 l := h.dep n' 8 13 (by kernel_rfl) rfl
      refine JF.call (FNo_mono ) h hK 14 rfl 53 _ _ #[.int .i64 l] rfl Try.call53 ?_ (bound_any l w1) ?_
      · simp only [List.map_toArray, List.map_cons, List.map_nil, e0]
      · rintro e w3 ⟨rfl, rfl⟩
        exact ⟨_, rfl, rfl, trivial, (Below.refl _ _)⟩
    · refine .inl ⟨.inl rfl, ?_⟩
      exact .inl ⟨by kernel_rfl, fun L a1 w1 n' h => ⟨_, rfl, run_geqI (.tmp 8) (.tmp 14) rfl (h.dep n' 3 8 (by kernel_rfl) rfl) (h.dep n' 9 14 (by kernel_rfl) rfl) hr⟩⟩
  case heSBtrue =>
    intro V w5 hV2 hJ
    have hz : V 10 = .bool true := hV2 10 15 rfl
    have bw5 : Below w.heap.size w w5 := hJ.1
    have hc := Row.later hc bw5
    clear hV2 hJ
    simp only [putOps, List.setIfInBounds_toArray, List.set_cons_succ, List.set_cons_zero, Nat.reduceAdd]
    rw [hz]
    refine hK1 _ _ ?_
    clear hz
    go_wp2
    go_ret2
    exact ⟨rfl, bw5⟩

set_option maxRecDepth 100000 in
set_option maxHeartbeats 1000000 in
theorem rbirth_some (w : World) (x q : Nat) (n s p g l e c life a b : Int) (hc : RCel w x q n s p g l e c life a b) (hr : decide (bnd l ≤ life) = false) (on : Bool) (fuse : Int) (hq : RPw w q (!on) (max fuse (-1))) (hf : isI fuse) (h1 : x ≠ q) (hl : isI life) (hm : life < 9223372036854775807) : Calls Try.prog 47 #[ptr x] w fun en w' => en = .returned (.tuple #[.int .i64 (birV (actE on fuse) life).1, .int .i64 (birV (actE on fuse) life).2]) ∧ RCel w' x q n s p g l e c (birL (actE on fuse) life) a b ∧ RPw w' q (!(on && actOn on fuse)) (max (actF on fuse) (-1)) ∧ Buts [x, q] w w' := by
  have hE := act08 on fuse
  have hA := fun w h => rAct_any w q on fuse h hf
  generalize actE on fuse = E at *
  generalize hx : (on && actOn on fuse) = on2 at *
  generalize hy : max (actF on fuse) (-1) = f2 at *
  clear hx hy
  obtain ⟨l0, l1⟩ := hl
  go_enter Try.func47, Try.ntmps47
  go_wp2
  rename_i Q1 K1 hK1
  refine wp_region_valsS [9] (SBfalse x q n s p g l e c life a b) (JF w [9] FNo) (by kernel_rfl) (by kernel_rfl) (by kernel_rfl) (by kernel_rfl) (JF.start _) ?obsSBfalse ?heSBfalse
  case obsSBfalse =>
    refine ⟨?_, ?_, ?_, ?_, ?_, ?_, ?_, ?_, ?_, ?_, ?_, trivial⟩
    · refine .inl ⟨.inl rfl, ?_⟩
      exact .inl ⟨by kernel_rfl, fun L a1 w1 n' h => ⟨_, rfl, run_move (.tmp 0) rfl (h.var n' 0 (by kernel_rfl))⟩⟩
    · refine .inl ⟨.inl rfl, ?_⟩
      refine .inl ⟨by kernel_rfl, fun L a1 w1 n' h => ⟨ptr x, rfl, ?_⟩⟩
      have e0 : a1.eval (.tmp 5) = _ := h.dep n' 0 5 (by kernel_rfl) rfl
      unfold execOp
      simp only [e0]
      go_simp
    · refine .inl ⟨.inl rfl, ?_⟩
      refine .inl ⟨by kernel_rfl, fun L a1 w1 n' h => ⟨.pointer (some ⟨x, 8, none⟩), rfl, ?_⟩⟩
      have e0 : a1.eval (.tmp 6) = _ := h.dep n' 1 6 (by kernel_rfl) rfl
      unfold execOp
      simp only [e0]
      go_simp
    · refine .inl ⟨.inl rfl, ?_⟩
      exact .inl ⟨by kernel_rfl, fun L a1 w1 n' h => ⟨_, rfl, run_loadA 3 (.tmp 7) ⟨x, 8, none⟩ rfl Try.isAgg3 (h.dep n' 2 7 (by kernel_rfl) rfl) ((Row.later hc h.inv.1).cell (j := 8) (v := .int .i64 life) rfl)⟩⟩
    · refine .inl ⟨.inl rfl, ?_⟩
      exact .inl ⟨by kernel_rfl, fun L a1 w1 n' h => ⟨_, rfl, run_move (.tmp 0) rfl (h.var n' 0 (by kernel_rfl))⟩⟩
    · refine .inl ⟨.inl rfl, ?_⟩
      refine .inl ⟨by kernel_rfl, fun L a1 w1 n' h => ⟨ptr x, rfl, ?_⟩⟩
      have e0 : a1.eval (.tmp 9) = _ := h.dep n' 4 9 (by kernel_rfl) rfl
      unfold execOp
      simp only [e0]
      go_simp
    · refine .inl ⟨.inl rfl, ?_⟩
      refine .inl ⟨by kernel_rfl, fun L a1 w1 n' h => ⟨.pointer (some ⟨x, 1, none⟩), rfl, ?_⟩⟩
      have e0 : a1.eval (.tmp 10) = _ := h.dep n' 5 10 (by kernel_rfl) rfl
      unfold execOp
      simp only [e0]
      go_simp
    · refine .inl ⟨.inl rfl, ?_⟩
      refine .inl ⟨by kernel_rfl, fun L a1 w1 n' h => ⟨.pointer (some ⟨x, 5, none⟩), rfl, ?_⟩⟩
      have e0 : a1.eval (.tmp 11) = _ := h.dep n' 6 11 (by kernel_rfl) rfl
      unfold execOp
      simp only [e0]
      go_simp
    · refine .inl ⟨.inl rfl, ?_⟩
      exact .inl ⟨by kernel_rfl, fun L a1 w1 n' h => ⟨_, rfl, run_loadA 3 (.tmp 12) ⟨x, 5, none⟩ rfl Try.isAgg3 (h.dep n' 7 12 (by kernel_rfl) rfl) ((Row.later hc h.inv.1).cell (j := 5) (v := .int .i64 l) rfl)⟩⟩
    · refine .inl ⟨.inl rfl, ?_⟩
      refine .inr fun L a1 w1 n' h K hK => ?_
      have e0 : a1.eval (.tmp 13) = .int .i64 l := h.dep n' 8 13 (by kernel_rfl) rfl
      refine JF.call (FNo_mono ) h hK 14 rfl 53 _ _ #[.int .i64 l] rfl Try.call53 ?_ (bound_any l w1) ?_
      · simp only [List.map_toArray, List.map_cons, List.map_nil, e0]
      · rintro e w3 ⟨rfl, rfl⟩
        exact ⟨_, rfl, rfl, trivial, (Below.refl _ _)⟩
    · refine .inl ⟨.inl rfl, ?_⟩
      exact .inl ⟨by kernel_rfl, fun L a1 w1 n' h => ⟨_, rfl, run_geqI (.tmp 8) (.tmp 14) rfl (h.dep n' 3 8 (by kernel_rfl) rfl) (h.dep n' 9 14 (by kernel_rfl) rfl) hr⟩⟩
  case heSBfalse =>
    intro V w5 hV2 hJ
    have hz : V 10 = .bool false := hV2 10 15 rfl
    have bw5 : Below w.heap.size w w5 := hJ.1
    have hc := Row.later hc bw5
    have hq := Row.later hq bw5
    clear hV2 hJ
    simp only [putOps, List.setIfInBounds_toArray, List.set_cons_succ, List.set_cons_zero, Nat.reduceAdd]
    rw [hz]
    refine hK1 _ _ ?_
    clear hz
    have c1 := hc.cell (j := 0) (v := ptr q) rfl
    go_wp2_with fail
    refine (hA w5 hq).mono ?_
    rintro en w6 ⟨rfl, r6, o6⟩
    have hc6 := hc.only o6 h1
    clear c1
    have B := (Buts.of bw5 [x, q]).trans (Buts.only o6 (by simp))
    rcases hE with rfl | rfl
    · have c4 := hc6.cell (j := 8) (v := .int .i64 life) rfl
      go_wp2_with (first
        | (with_reducible refine wl_store rfl 3 (.tmp 30) (.tmp 28) x 8 85 (rcelL q n s p g l e c life a b) (.int .i64 (life + 1)) rfl szInt rfl rfl hc6 (lt11 _ _ _ _ _ _ _ _ _ _ _ (by decide)) rfl ?_; intro w7 r7 o7; clear c4; have c4 := r7.cell (j := 8) (v := .int .i64 (life + 1)) rfl))
      go_ret2
      exact ⟨rfl, r7, r6.only o7 (Ne.symm h1), B.trans (Buts.only o7 (by simp))⟩
    · go_wp2_with fail
      go_ret2
      exact ⟨rfl, hc6, r6, B⟩

set_option maxRecDepth 100000 in
set_option maxHeartbeats 1000000 in
theorem rraise_arg1 (w : World) (x q : Nat) (n s p g l e c life a b p1 p2 : Int) (hc : RCel w x q n s p g l e c life a b) (hp1 : decide (p1 < 0) = true) : Calls Try.prog 49 #[ptr x, pin p1 p2] w fun en w' => en = .returned (.int .i64 1) ∧ Below w.heap.size w w' := by
  go_enter Try.func49, Try.ntmps49
  go_wp2_with (first
    | (with_reducible refine wl_box rfl 83 (.tmp 1) _ [.int .i64 p1, .int .i64 p2] rfl rfl rfl ?_; intro g3 w3 r3 p3 l3 b3; have hc := Row.later hc b3; have c0 := r3.cell (j := 0) (v := .int .i64 p1) rfl; have c1 := r3.cell (j := 1) (v := .int .i64 p2) rfl))
  go_ret
  exact ⟨rfl, b3⟩

set_option maxRecDepth 100000 in
set_option maxHeartbeats 1000000 in
theorem rraise_arg2 (w : World) (x q : Nat) (n s p g l e c life a b p1 p2 : Int) (hc : RCel w x q n s p g l e c life a b) (hp1 : decide (p1 < 0) = false) (hp2 : decide (p2 < 0) = true) : Calls Try.prog 49 #[ptr x, pin p1 p2] w fun en w' => en = .returned (.int .i64 1) ∧ Below w.heap.size w w' := by
  go_enter Try.func49, Try.ntmps49
  go_wp2_with (first
    | (with_reducible refine wl_box rfl 83 (.tmp 1) _ [.int .i64 p1, .int .i64 p2] rfl rfl rfl ?_; intro g3 w3 r3 p3 l3 b3; have hc := Row.later hc b3; have c0 := r3.cell (j := 0) (v := .int .i64 p1) rfl; have c1 := r3.cell (j := 1) (v := .int .i64 p2) rfl))
  go_ret
  exact ⟨rfl, b3⟩

set_option maxRecDepth 100000 in
set_option maxHeartbeats 1000000 in
theorem rraise_less (w : World) (x q : Nat) (n s p g l e c life a b p1 p2 : Int) (hc : RCel w x q n s p g l e c life a b) (hp1 : decide (p1 < 0) = false) (hp2 : decide (p2 < 0) = false) (hlt : lessB a b p1 p2 = false) : Calls Try.prog 49 #[ptr x, pin p1 p2] w fun en w' => en = .returned (.int .i64 13) ∧ Below w.heap.size w w' := by
  go_enter Try.func49, Try.ntmps49
  go_wp2_with (first
    | (with_reducible refine wl_box rfl 83 (.tmp 1) _ [.int .i64 p1, .int .i64 p2] rfl rfl rfl ?_; intro g3 w3 r3 p3 l3 b3; have hc := Row.later hc b3; have c0 := r3.cell (j := 0) (v := .int .i64 p1) rfl; have c1 := r3.cell (j := 1) (v := .int .i64 p2) rfl))
  clear c0 c1
  rename_i K1 hK1
  refine wp_region_valsS [5] (SRa x q g3 n s p g l e c life a b p1 p2) (JF w3 [5] FNo) (by kernel_rfl) (by kernel_rfl) (by kernel_rfl) (by kernel_rfl) (JF.start _) ?obsSRa ?heSRa
  case obsSRa =>
    refine ⟨?_, ?_, ?_, ?_, ?_, ?_, ?_, ?_, ?_, ?_, ?_, ?_, ?_, ?_, ?_, ?_, trivial⟩
    · refine .inl ⟨.inl rfl, ?_⟩
      exact .inl ⟨by kernel_rfl, fun L a1 w1 n' h => ⟨_, rfl, run_move (.tmp 0) rfl (h.var n' 0 (by kernel_rfl))⟩⟩
    · refine .inl ⟨.inl rfl, ?_⟩
      refine .inl ⟨by kernel_rfl, fun L a1 w1 n' h => ⟨ptr x, rfl, ?_⟩⟩
      have e0 : a1.eval (.tmp 14) = _ := h.dep n' 0 14 (by kernel_rfl) rfl
      unfold execOp
      simp only [e0]
      go_simp
    · refine .inl ⟨.inl rfl, ?_⟩
      refine .inl ⟨by kernel_rfl, fun L a1 w1 n' h => ⟨.pointer (some ⟨x, 9, none⟩), rfl, ?_⟩⟩
      have e0 : a1.eval (.tmp 15) = _ := h.dep n' 1 15 (by kernel_rfl) rfl
      unfold execOp
      simp only [e0]
      go_simp
    · refine .inl ⟨.inl rfl, ?_⟩
      exact .inl ⟨by kernel_rfl, fun L a1 w1 n' h => ⟨_, rfl, run_loadP 83 (.tmp 16) x 9 85 [ptr q, .int .i64 n, .int .i64 s, .int .i64 p, .int .i64 g, .int .i64 l, .int .i64 e, .int .i64 c, .int .i64 life] [.int .i64 a, .int .i64 b] [] _ rfl (h.dep n' 2 16 (by kernel_rfl) rfl) (Row.later hc h.inv.1) rfl Try.underlying83 rfl (szPin _ _)⟩⟩
    · refine .inl ⟨.inl rfl, ?_⟩
      exact .inl ⟨by kernel_rfl, fun L a1 w1 n' h => ⟨_, rfl, run_loadP 83 (.tmp 3) g3 0 83 [] [.int .i64 p1, .int .i64 p2] [] _ rfl (h.var n' 3 (by kernel_rfl)) (Row.later r3 h.inv.1) rfl Try.underlying83 rfl (szPin _ _)⟩⟩
    · refine .inl ⟨.inl rfl, ?_⟩
      refine .inr fun L a1 w1 n' h K hK => ?_
      have e0 : a1.eval (.tmp 17) = pin a b := h.dep n' 3 17 (by kernel_rfl) rfl
      have e1 : a1.eval (.tmp 18) = pin p1 p2 := h.dep n' 4 18 (by kernel_rfl) rfl
      refine JF.call (FNo_mono ) h hK 19 rfl 54 _ _ #[pin a b, pin p1 p2] rfl Try.call54 ?_ (rless_any a b p1 p2 w1) ?_
      · simp only [List.map_toArray, List.map_cons, List.map_nil, e0, e1]
      · rintro e w3 ⟨rfl, b9⟩
        exact ⟨_, rfl, rfl, trivial, b9⟩
    · refine .inl ⟨.inl rfl, ?_⟩
      exact .inl ⟨by kernel_rfl, fun L a1 w1 n' h => ⟨_, rfl, run_notB (.tmp 19) (lessB a b p1 p2) rfl (h.dep n' 5 19 (by kernel_rfl) rfl) (by rw [hlt]; rfl)⟩⟩
    · refine .inl ⟨.inl rfl, ?_⟩
      exact .inl ⟨by kernel_rfl, fun L a1 w1 n' h => ⟨_, rfl, run_move (.tmp 20) rfl (h.dep n' 6 20 (by kernel_rfl) rfl)⟩⟩
    · exact .inr ⟨⟨7, false, 21, rfl, by kernel_rfl, rfl, by simp, fun v h => by rw [show v = .bool true from h]; first | exact ne_tf | exact ne_ft | exact ne_undef _⟩, by kernel_rfl, rfl⟩
    · exact .inr ⟨⟨7, false, 21, rfl, by kernel_rfl, rfl, by simp, fun v h => by rw [show v = .bool true from h]; first | exact ne_tf | exact ne_ft | exact ne_undef _⟩, by kernel_rfl, rfl⟩
    · exact .inr ⟨⟨7, false, 21, rfl, by kernel_rfl, rfl, by simp, fun v h => by rw [show v = .bool true from h]; first | exact ne_tf | exact ne_ft | exact ne_undef _⟩, by kernel_rfl, rfl⟩
    · exact .inr ⟨⟨7, false, 21, rfl, by kernel_rfl, rfl, by simp, fun v h => by rw [show v = .bool true from h]; first | exact ne_tf | exact ne_ft | exact ne_undef _⟩, by kernel_rfl, rfl⟩
    · exact .inr ⟨⟨7, false, 21, rfl, by kernel_rfl, rfl, by simp, fun v h => by rw [show v = .bool true from h]; first | exact ne_tf | exact ne_ft | exact ne_undef _⟩, by kernel_rfl, rfl⟩
    · exact .inr ⟨⟨7, false, 21, rfl, by kernel_rfl, rfl, by simp, fun v h => by rw [show v = .bool true from h]; first | exact ne_tf | exact ne_ft | exact ne_undef _⟩, by kernel_rfl, rfl⟩
    · exact .inr ⟨⟨7, false, 21, rfl, by kernel_rfl, rfl, by simp, fun v h => by rw [show v = .bool true from h]; first | exact ne_tf | exact ne_ft | exact ne_undef _⟩, by kernel_rfl, rfl⟩
    · refine .inl ⟨.inl rfl, ?_⟩
      exact .inl ⟨by kernel_rfl, fun L a1 w1 n' h => ⟨_, rfl, run_pickT (.tmp 21) _ _ rfl (h.dep n' 7 21 (by kernel_rfl) rfl) rfl⟩⟩
  case heSRa =>
    intro V w5 hV2 hJ
    have hz : V 15 = .bool true := hV2 15 29 rfl
    have bw5 : Below w3.heap.size w3 w5 := hJ.1
    have hc := Row.later hc bw5
    clear hV2 hJ
    simp only [putOps, List.setIfInBounds_toArray, List.set_cons_succ, List.set_cons_zero, Nat.reduceAdd]
    rw [hz]
    refine hK1 _ _ ?_
    clear hz
    go_wp2
    go_ret
    exact ⟨rfl, (b3.trans (bw5.mono b3.size))⟩

set_option maxRecDepth 100000 in
set_option maxHeartbeats 1000000 in
theorem rraise_life (w : World) (x q : Nat) (n s p g l e c life a b p1 p2 : Int) (hc : RCel w x q n s p g l e c life a b) (hp1 : decide (p1 < 0) = false) (hp2 : decide (p2 < 0) = false) (hlt : lessB a b p1 p2 = true) (hlf : decide (life < p1) = true) : Calls Try.prog 49 #[ptr x, pin p1 p2] w fun en w' => en = .returned (.int .i64 13) ∧ Below w.heap.size w w' := by
  go_enter Try.func49, Try.ntmps49
  go_wp2_with (first
    | (with_reducible refine wl_box rfl 83 (.tmp 1) _ [.int .i64 p1, .int .i64 p2] rfl rfl rfl ?_; intro g3 w3 r3 p3 l3 b3; have hc := Row.later hc b3; have c0 := r3.cell (j := 0) (v := .int .i64 p1) rfl; have c1 := r3.cell (j := 1) (v := .int .i64 p2) rfl))
  clear c0 c1
  rename_i K1 hK1
  refine wp_region_valsS [5] (SRb x q g3 n s p g l e c life a b p1 p2) (JF w3 [5] FNo) (by kernel_rfl) (by kernel_rfl) (by kernel_rfl) (by kernel_rfl) (JF.start _) ?obsSRb ?heSRb
  case obsSRb =>
    refine ⟨?_, ?_, ?_, ?_, ?_, ?_, ?_, ?_, ?_, ?_, ?_, ?_, ?_, ?_, ?_, ?_, trivial⟩
    · refine .inl ⟨.inl rfl, ?_⟩
      exact .inl ⟨by kernel_rfl, fun L a1 w1 n' h => ⟨_, rfl, run_move (.tmp 0) rfl (h.var n' 0 (by kernel_rfl))⟩⟩
    · refine .inl ⟨.inl rfl, ?_⟩
      refine .inl ⟨by kernel_rfl, fun L a1 w1 n' h => ⟨ptr x, rfl, ?_⟩⟩
      have e0 : a1.eval (.tmp 14) = _ := h.dep n' 0 14 (by kernel_rfl) rfl
      unfold execOp
      simp only [e0]
      go_simp
    · refine .inl ⟨.inl rfl, ?_⟩
      refine .inl ⟨by kernel_rfl, fun L a1 w1 n' h => ⟨.pointer (some ⟨x, 9, none⟩), rfl, ?_⟩⟩
      have e0 : a1.eval (.tmp 15) = _ := h.dep n' 1 15 (by kernel_rfl) rfl
      unfold execOp
      simp only [e0]
      go_simp
    · refine .inl ⟨.inl rfl, ?_⟩
      exact .inl ⟨by kernel_rfl, fun L a1 w1 n' h => ⟨_, rfl, run_loadP 83 (.tmp 16) x 9 85 [ptr q, .int .i64 n, .int .i64 s, .int .i64 p, .int .i64 g, .int .i64 l, .int .i64 e, .int .i64 c, .int .i64 life] [.int .i64 a, .int .i64 b] [] _ rfl (h.dep n' 2 16 (by kernel_rfl) rfl) (Row.later hc h.inv.1) rfl Try.underlying83 rfl (szPin _ _)⟩⟩
    · refine .inl ⟨.inl rfl, ?_⟩
      exact .inl ⟨by kernel_rfl, fun L a1 w1 n' h => ⟨_, rfl, run_loadP 83 (.tmp 3) g3 0 83 [] [.int .i64 p1, .int .i64 p2] [] _ rfl (h.var n' 3 (by kernel_rfl)) (Row.later r3 h.inv.1) rfl Try.underlying83 rfl (szPin _ _)⟩⟩
    · refine .inl ⟨.inl rfl, ?_⟩
      refine .inr fun L a1 w1 n' h K hK => ?_
      have e0 : a1.eval (.tmp 17) = pin a b := h.dep n' 3 17 (by kernel_rfl) rfl
      have e1 : a1.eval (.tmp 18) = pin p1 p2 := h.dep n' 4 18 (by kernel_rfl) rfl
      refine JF.call (FNo_mono ) h hK 19 rfl 54 _ _ #[pin a b, pin p1 p2] rfl Try.call54 ?_ (rless_any a b p1 p2 w1) ?_
      · simp only [List.map_toArray, List.map_cons, List.map_nil, e0, e1]
      · rintro e w3 ⟨rfl, b9⟩
        exact ⟨_, rfl, rfl, trivial, b9⟩
    · refine .inl ⟨.inl rfl, ?_⟩
      exact .inl ⟨by kernel_rfl, fun L a1 w1 n' h => ⟨_, rfl, run_notB (.tmp 19) (lessB a b p1 p2) rfl (h.dep n' 5 19 (by kernel_rfl) rfl) (by rw [hlt]; rfl)⟩⟩
    · refine .inl ⟨.inl rfl, ?_⟩
      exact .inl ⟨by kernel_rfl, fun L a1 w1 n' h => ⟨_, rfl, run_move (.tmp 20) rfl (h.dep n' 6 20 (by kernel_rfl) rfl)⟩⟩
    · refine .inl ⟨.inr ⟨7, false, 21, rfl, by kernel_rfl, rfl, by simp, fun v h => h⟩, ?_⟩
      refine .inl ⟨by kernel_rfl, fun L a1 w1 n' h => ⟨.pointer (some ⟨g3, 0, none⟩), rfl, ?_⟩⟩
      have e0 : a1.eval (.tmp 3) = _ := h.var n' 3 (by kernel_rfl)
      unfold execOp
      simp only [e0]
      go_simp
    · refine .inl ⟨.inr ⟨7, false, 21, rfl, by kernel_rfl, rfl, by simp, fun v h => h⟩, ?_⟩
      exact .inl ⟨by kernel_rfl, fun L a1 w1 n' h => ⟨_, rfl, run_loadA 3 (.tmp 22) ⟨g3, 0, none⟩ rfl Try.isAgg3 (h.dep n' 8 22 (by kernel_rfl) rfl) ((Row.later r3 h.inv.1).cell (j := 0) (v := .int .i64 p1) rfl)⟩⟩
    · refine .inl ⟨.inr ⟨7, false, 21, rfl, by kernel_rfl, rfl, by simp, fun v h => h⟩, ?_⟩
      exact .inl ⟨by kernel_rfl, fun L a1 w1 n' h => ⟨_, rfl, run_move (.tmp 0) rfl (h.var n' 0 (by kernel_rfl))⟩⟩
    · refine .inl ⟨.inr ⟨7, false, 21, rfl, by kernel_rfl, rfl, by simp, fun v h => h⟩, ?_⟩
      refine .inl ⟨by kernel_rfl, fun L a1 w1 n' h => ⟨ptr x, rfl, ?_⟩⟩
      have e0 : a1.eval (.tmp 24) = _ := h.dep n' 10 24 (by kernel_rfl) rfl
      unfold execOp
      simp only [e0]
      go_simp
    · refine .inl ⟨.inr ⟨7, false, 21, rfl, by kernel_rfl, rfl, by simp, fun v h => h⟩, ?_⟩
      refine .inl ⟨by kernel_rfl, fun L a1 w1 n' h => ⟨.pointer (some ⟨x, 8, none⟩), rfl, ?_⟩⟩
      have e0 : a1.eval (.tmp 25) = _ := h.dep n' 11 25 (by kernel_rfl) rfl
      unfold execOp
      simp only [e0]
      go_simp
    · refine .inl ⟨.inr ⟨7, false, 21, rfl, by kernel_rfl, rfl, by simp, fun v h => h⟩, ?_⟩
      exact .inl ⟨by kernel_rfl, fun L a1 w1 n' h => ⟨_, rfl, run_loadA 3 (.tmp 26) ⟨x, 8, none⟩ rfl Try.isAgg3 (h.dep n' 12 26 (by kernel_rfl) rfl) ((Row.later hc h.inv.1).cell (j := 8) (v := .int .i64 life) rfl)⟩⟩
    · refine .inl ⟨.inr ⟨7, false, 21, rfl, by kernel_rfl, rfl, by simp, fun v h => h⟩, ?_⟩
      exact .inl ⟨by kernel_rfl, fun L a1 w1 n' h => ⟨_, rfl, run_gtrI (.tmp 23) (.tmp 27) rfl (h.dep n' 9 23 (by kernel_rfl) rfl) (h.dep n' 13 27 (by kernel_rfl) rfl) hlf⟩⟩
    · refine .inl ⟨.inl rfl, ?_⟩
      exact .inl ⟨by kernel_rfl, fun L a1 w1 n' h => ⟨_, rfl, run_pickF (.tmp 21) _ _ rfl (h.dep n' 7 21 (by kernel_rfl) rfl) (h.dep n' 14 28 (by kernel_rfl) rfl)⟩⟩
  case heSRb =>
    intro V w5 hV2 hJ
    have hz : V 15 = .bool true := hV2 15 29 rfl
    have bw5 : Below w3.heap.size w3 w5 := hJ.1
    have hc := Row.later hc bw5
    clear hV2 hJ
    simp only [putOps, List.setIfInBounds_toArray, List.set_cons_succ, List.set_cons_zero, Nat.reduceAdd]
    rw [hz]
    refine hK1 _ _ ?_
    clear hz
    go_wp2
    go_ret
    exact ⟨rfl, (b3.trans (bw5.mono b3.size))⟩

set_option maxRecDepth 100000 in
set_option maxHeartbeats 1000000 in
theorem rraise_most (w : World) (x q : Nat) (n s p g l e c life a b p1 p2 : Int) (hc : RCel w x q n s p g l e c life a b) (hp1 : decide (p1 < 0) = false) (hp2 : decide (p2 < 0) = false) (hlt : lessB a b p1 p2 = true) (hlf : decide (life < p1) = false) (hmf : decide (bnd p < p2) = true) : Calls Try.prog 49 #[ptr x, pin p1 p2] w fun en w' => en = .returned (.int .i64 7) ∧ Below w.heap.size w w' := by
  go_enter Try.func49, Try.ntmps49
  go_wp2_with (first
    | (with_reducible refine wl_box rfl 83 (.tmp 1) _ [.int .i64 p1, .int .i64 p2] rfl rfl rfl ?_; intro g3 w3 r3 p3 l3 b3; have hc := Row.later hc b3; have c0 := r3.cell (j := 0) (v := .int .i64 p1) rfl; have c1 := r3.cell (j := 1) (v := .int .i64 p2) rfl))
  clear c0 c1
  rename_i K1 hK1
  refine wp_region_valsS [5] (SRc x q g3 n s p g l e c life a b p1 p2) (JF w3 [5] FNo) (by kernel_rfl) (by kernel_rfl) (by kernel_rfl) (by kernel_rfl) (JF.start _) ?obsSRc ?heSRc
  case obsSRc =>
    refine ⟨?_, ?_, ?_, ?_, ?_, ?_, ?_, ?_, ?_, ?_, ?_, ?_, ?_, ?_, ?_, ?_, trivial⟩
    · refine .inl ⟨.inl rfl, ?_⟩
      exact .inl ⟨by kernel_rfl, fun L a1 w1 n' h => ⟨_, rfl, run_move (.tmp 0) rfl (h.var n' 0 (by kernel_rfl))⟩⟩
    · refine .inl ⟨.inl rfl, ?_⟩
      refine .inl ⟨by kernel_rfl, fun L a1 w1 n' h => ⟨ptr x, rfl, ?_⟩⟩
      have e0 : a1.eval (.tmp 14) = _ := h.dep n' 0 14 (by kernel_rfl) rfl
      unfold execOp
      simp only [e0]
      go_simp
    · refine .inl ⟨.inl rfl, ?_⟩
      refine .inl ⟨by kernel_rfl, fun L a1 w1 n' h => ⟨.pointer (some ⟨x, 9, none⟩), rfl, ?_⟩⟩
      have e0 : a1.eval (.tmp 15) = _ := h.dep n' 1 15 (by kernel_rfl) rfl
      unfold execOp
      simp only [e0]
      go_simp
    · refine .inl ⟨.inl rfl, ?_⟩
      exact .inl ⟨by kernel_rfl, fun L a1 w1 n' h => ⟨_, rfl, run_loadP 83 (.tmp 16) x 9 85 [ptr q, .int .i64 n, .int .i64 s, .int .i64 p, .int .i64 g, .int .i64 l, .int .i64 e, .int .i64 c, .int .i64 life] [.int .i64 a, .int .i64 b] [] _ rfl (h.dep n' 2 16 (by kernel_rfl) rfl) (Row.later hc h.inv.1) rfl Try.underlying83 rfl (szPin _ _)⟩⟩
    · refine .inl ⟨.inl rfl, ?_⟩
      exact .inl ⟨by kernel_rfl, fun L a1 w1 n' h => ⟨_, rfl, run_loadP 83 (.tmp 3) g3 0 83 [] [.int .i64 p1, .int .i64 p2] [] _ rfl (h.var n' 3 (by kernel_rfl)) (Row.later r3 h.inv.1) rfl Try.underlying83 rfl (szPin _ _)⟩⟩
    · refine .inl ⟨.inl rfl, ?_⟩
      refine .inr fun L a1 w1 n' h K hK => ?_
      have e0 : a1.eval (.tmp 17) = pin a b := h.dep n' 3 17 (by kernel_rfl) rfl
      have e1 : a1.eval (.tmp 18) = pin p1 p2 := h.dep n' 4 18 (by kernel_rfl) rfl
      refine JF.call (FNo_mono ) h hK 19 rfl 54 _ _ #[pin a b, pin p1 p2] rfl Try.call54 ?_ (rless_any a b p1 p2 w1) ?_
      · simp only [List.map_toArray, List.map_cons, List.map_nil, e0, e1]
      · rintro e w3 ⟨rfl, b9⟩
        exact ⟨_, rfl, rfl, trivial, b9⟩
    · refine .inl ⟨.inl rfl, ?_⟩
      exact .inl ⟨by kernel_rfl, fun L a1 w1 n' h => ⟨_, rfl, run_notB (.tmp 19) (lessB a b p1 p2) rfl (h.dep n' 5 19 (by kernel_rfl) rfl) (by rw [hlt]; rfl)⟩⟩
    · refine .inl ⟨.inl rfl, ?_⟩
      exact .inl ⟨by kernel_rfl, fun L a1 w1 n' h => ⟨_, rfl, run_move (.tmp 20) rfl (h.dep n' 6 20 (by kernel_rfl) rfl)⟩⟩
    · refine .inl ⟨.inr ⟨7, false, 21, rfl, by kernel_rfl, rfl, by simp, fun v h => h⟩, ?_⟩
      refine .inl ⟨by kernel_rfl, fun L a1 w1 n' h => ⟨.pointer (some ⟨g3, 0, none⟩), rfl, ?_⟩⟩
      have e0 : a1.eval (.tmp 3) = _ := h.var n' 3 (by kernel_rfl)
      unfold execOp
      simp only [e0]
      go_simp
    · refine .inl ⟨.inr ⟨7, false, 21, rfl, by kernel_rfl, rfl, by simp, fun v h => h⟩, ?_⟩
      exact .inl ⟨by kernel_rfl, fun L a1 w1 n' h => ⟨_, rfl, run_loadA 3 (.tmp 22) ⟨g3, 0, none⟩ rfl Try.isAgg3 (h.dep n' 8 22 (by kernel_rfl) rfl) ((Row.later r3 h.inv.1).cell (j := 0) (v := .int .i64 p1) rfl)⟩⟩
    · refine .inl ⟨.inr ⟨7, false, 21, rfl, by kernel_rfl, rfl, by simp, fun v h => h⟩, ?_⟩
      exact .inl ⟨by kernel_rfl, fun L a1 w1 n' h => ⟨_, rfl, run_move (.tmp 0) rfl (h.var n' 0 (by kernel_rfl))⟩⟩
    · refine .inl ⟨.inr ⟨7, false, 21, rfl, by kernel_rfl, rfl, by simp, fun v h => h⟩, ?_⟩
      refine .inl ⟨by kernel_rfl, fun L a1 w1 n' h => ⟨ptr x, rfl, ?_⟩⟩
      have e0 : a1.eval (.tmp 24) = _ := h.dep n' 10 24 (by kernel_rfl) rfl
      unfold execOp
      simp only [e0]
      go_simp
    · refine .inl ⟨.inr ⟨7, false, 21, rfl, by kernel_rfl, rfl, by simp, fun v h => h⟩, ?_⟩
      refine .inl ⟨by kernel_rfl, fun L a1 w1 n' h => ⟨.pointer (some ⟨x, 8, none⟩), rfl, ?_⟩⟩
      have e0 : a1.eval (.tmp 25) = _ := h.dep n' 11 25 (by kernel_rfl) rfl
      unfold execOp
      simp only [e0]
      go_simp
    · refine .inl ⟨.inr ⟨7, false, 21, rfl, by kernel_rfl, rfl, by simp, fun v h => h⟩, ?_⟩
      exact .inl ⟨by kernel_rfl, fun L a1 w1 n' h => ⟨_, rfl, run_loadA 3 (.tmp 26) ⟨x, 8, none⟩ rfl Try.isAgg3 (h.dep n' 12 26 (by kernel_rfl) rfl) ((Row.later hc h.inv.1).cell (j := 8) (v := .int .i64 life) rfl)⟩⟩
    · refine .inl ⟨.inr ⟨7, false, 21, rfl, by kernel_rfl, rfl, by simp, fun v h => h⟩, ?_⟩
      exact .inl ⟨by kernel_rfl, fun L a1 w1 n' h => ⟨_, rfl, run_gtrI (.tmp 23) (.tmp 27) rfl (h.dep n' 9 23 (by kernel_rfl) rfl) (h.dep n' 13 27 (by kernel_rfl) rfl) hlf⟩⟩
    · refine .inl ⟨.inl rfl, ?_⟩
      exact .inl ⟨by kernel_rfl, fun L a1 w1 n' h => ⟨_, rfl, run_pickF (.tmp 21) _ _ rfl (h.dep n' 7 21 (by kernel_rfl) rfl) (h.dep n' 14 28 (by kernel_rfl) rfl)⟩⟩
  case heSRc =>
    intro V w5 hV2 hJ
    have hz : V 15 = .bool false := hV2 15 29 rfl
    have bw5 : Below w3.heap.size w3 w5 := hJ.1
    have hc := Row.later hc bw5
    have r3 := Row.later r3 bw5
    clear hV2 hJ
    simp only [putOps, List.setIfInBounds_toArray, List.set_cons_succ, List.set_cons_zero, Nat.reduceAdd]
    rw [hz]
    refine hK1 _ _ ?_
    clear hz
    go_wp2
    rename_i K2 hK2
    refine wp_region_valsS [7] (SRd x q g3 n s p g l e c life a b p1 p2) (JF w5 [7] FNo) (by kernel_rfl) (by kernel_rfl) (by kernel_rfl) (by kernel_rfl) (JF.start _) ?obsSRd ?heSRd
    case obsSRd =>
      refine ⟨?_, ?_, ?_, ?_, ?_, ?_, ?_, ?_, ?_, trivial⟩
      · refine .inl ⟨.inl rfl, ?_⟩
        refine .inl ⟨by kernel_rfl, fun L a1 w1 n' h => ⟨.pointer (some ⟨g3, 1, none⟩), rfl, ?_⟩⟩
        have e0 : a1.eval (.tmp 3) = _ := h.var n' 3 (by kernel_rfl)
        unfold execOp
        simp only [e0]
        go_simp
      · refine .inl ⟨.inl rfl, ?_⟩
        exact .inl ⟨by kernel_rfl, fun L a1 w1 n' h => ⟨_, rfl, run_loadA 3 (.tmp 30) ⟨g3, 1, none⟩ rfl Try.isAgg3 (h.dep n' 0 30 (by kernel_rfl) rfl) ((Row.later r3 h.inv.1).cell (j := 1) (v := .int .i64 p2) rfl)⟩⟩
      · refine .inl ⟨.inl rfl, ?_⟩
        exact .inl ⟨by kernel_rfl, fun L a1 w1 n' h => ⟨_, rfl, run_move (.tmp 0) rfl (h.var n' 0 (by kernel_rfl))⟩⟩
      · refine .inl ⟨.inl rfl, ?_⟩
        refine .inl ⟨by kernel_rfl, fun L a1 w1 n' h => ⟨ptr x, rfl, ?_⟩⟩
        have e0 : a1.eval (.tmp 32) = _ := h.dep n' 2 32 (by kernel_rfl) rfl
        unfold execOp
        simp only [e0]
        go_simp
      · refine .inl ⟨.inl rfl, ?_⟩
        refine .inl ⟨by kernel_rfl, fun L a1 w1 n' h => ⟨.pointer (some ⟨x, 1, none⟩), rfl, ?_⟩⟩
        have e0 : a1.eval (.tmp 33) = _ := h.dep n' 3 33 (by kernel_rfl) rfl
        unfold execOp
        simp only [e0]
        go_simp
      · refine .inl ⟨.inl rfl, ?_⟩
        refine .inl ⟨by kernel_rfl, fun L a1 w1 n' h => ⟨.pointer (some ⟨x, 3, none⟩), rfl, ?_⟩⟩
        have e0 : a1.eval (.tmp 34) = _ := h.dep n' 4 34 (by kernel_rfl) rfl
        unfold execOp
        simp only [e0]
        go_simp
      · refine .inl ⟨.inl rfl, ?_⟩
        exact .inl ⟨by kernel_rfl, fun L a1 w1 n' h => ⟨_, rfl, run_loadA 3 (.tmp 35) ⟨x, 3, none⟩ rfl Try.isAgg3 (h.dep n' 5 35 (by kernel_rfl) rfl) ((Row.later hc h.inv.1).cell (j := 3) (v := .int .i64 p) rfl)⟩⟩
      · refine .inl ⟨.inl rfl, ?_⟩
        refine .inr fun L a1 w1 n' h K hK => ?_
        have e0 : a1.eval (.tmp 36) = .int .i64 p := h.dep n' 6 36 (by kernel_rfl) rfl
        refine JF.call (FNo_mono ) h hK 37 rfl 53 _ _ #[.int .i64 p] rfl Try.call53 ?_ (bound_any p w1) ?_
        · simp only [List.map_toArray, List.map_cons, List.map_nil, e0]
        · rintro e w3 ⟨rfl, rfl⟩
          exact ⟨_, rfl, rfl, trivial, (Below.refl _ _)⟩
      · refine .inl ⟨.inl rfl, ?_⟩
        exact .inl ⟨by kernel_rfl, fun L a1 w1 n' h => ⟨_, rfl, run_gtrI (.tmp 31) (.tmp 37) rfl (h.dep n' 1 31 (by kernel_rfl) rfl) (h.dep n' 7 37 (by kernel_rfl) rfl) hmf⟩⟩
    case heSRd =>
      intro V w6 hV2 hJ
      have hz : V 8 = .bool true := hV2 8 38 rfl
      have bw6 : Below w5.heap.size w5 w6 := hJ.1
      have hc := Row.later hc bw6
      clear hV2 hJ
      simp only [putOps, List.setIfInBounds_toArray, List.set_cons_succ, List.set_cons_zero, Nat.reduceAdd]
      rw [hz]
      refine hK2 _ _ ?_
      clear hz
      go_wp2
      go_ret
      exact ⟨rfl, ((b3.trans (bw5.mono b3.size)).trans (bw6.mono (b3.trans (bw5.mono b3.size)).size))⟩

set_option maxRecDepth 100000 in
set_option maxHeartbeats 1000000 in
theorem rraise_some (w : World) (x q : Nat) (n s p g l e c life a b p1 p2 : Int) (hc : RCel w x q n s p g l e c life a b) (hp1 : decide (p1 < 0) = false) (hp2 : decide (p2 < 0) = false) (hlt : lessB a b p1 p2 = true) (hlf : decide (life < p1) = false) (hmf : decide (bnd p < p2) = false) (on : Bool) (fuse : Int) (hq : RPw w q (!on) (max fuse (-1))) (hf : isI fuse) (h1 : x ≠ q) : Calls Try.prog 49 #[ptr x, pin p1 p2] w fun en w' => en = .returned (.int .i64 (actE on fuse)) ∧ RCel w' x q n s p g l e c life (raiP (actE on fuse) a p1) (raiP (actE on fuse) b p2) ∧ RPw w' q (!(on && actOn on fuse)) (max (actF on fuse) (-1)) ∧ Buts [x, q] w w' := by
  have hE := act08 on fuse
  have hA := fun w h => rAct_any w q on fuse h hf
  generalize actE on fuse = E at *
  generalize hx : (on && actOn on fuse) = on2 at *
  generalize hy : max (actF on fuse) (-1) = f2 at *
  clear hx hy
  go_enter Try.func49, Try.ntmps49
  go_wp2_with (first
    | (with_reducible refine wl_box rfl 83 (.tmp 1) _ [.int .i64 p1, .int .i64 p2] rfl rfl rfl ?_; intro g3 w3 r3 p3 l3 b3; have hxl := Row.lt hc; have hql := Row.lt hq; have hc := Row.later hc b3; have hq := Row.later hq b3; have c0 := r3.cell (j := 0) (v := .int .i64 p1) rfl; have c1 := r3.cell (j := 1) (v := .int .i64 p2) rfl))
  clear c0 c1
  rename_i K1 hK1
  refine wp_region_valsS [5] (SRe x q g3 n s p g l e c life a b p1 p2) (JF w3 [5] FNo) (by kernel_rfl) (by kernel_rfl) (by kernel_rfl) (by kernel_rfl) (JF.start _) ?obsSRe ?heSRe
  case obsSRe =>
    refine ⟨?_, ?_, ?_, ?_, ?_, ?_, ?_, ?_, ?_, ?_, ?_, ?_, ?_, ?_, ?_, ?_, trivial⟩
    · refine .inl ⟨.inl rfl, ?_⟩
      exact .inl ⟨by kernel_rfl, fun L a1 w1 n' h => ⟨_, rfl, run_move (.tmp 0) rfl (h.var n' 0 (by kernel_rfl))⟩⟩
    · refine .inl ⟨.inl rfl, ?_⟩
      refine .inl ⟨by kernel_rfl, fun L a1 w1 n' h => ⟨ptr x, rfl, ?_⟩⟩
      have e0 : a1.eval (.tmp 14) = _ := h.dep n' 0 14 (by kernel_rfl) rfl
      unfold execOp
      simp only [e0]
      go_simp
    · refine .inl ⟨.inl rfl, ?_⟩
      refine .inl ⟨by kernel_rfl, fun L a1 w1 n' h => ⟨.pointer (some ⟨x, 9, none⟩), rfl, ?_⟩⟩
      have e0 : a1.eval (.tmp 15) = _ := h.dep n' 1 15 (by kernel_rfl) rfl
      unfold execOp
      simp only [e0]
      go_simp
    · refine .inl ⟨.inl rfl, ?_⟩
      exact .inl ⟨by kernel_rfl, fun L a1 w1 n' h => ⟨_, rfl, run_loadP 83 (.tmp 16) x 9 85 [ptr q, .int .i64 n, .int .i64 s, .int .i64 p, .int .i64 g, .int .i64 l, .int .i64 e, .int .i64 c, .int .i64 life] [.int .i64 a, .int .i64 b] [] _ rfl (h.dep n' 2 16 (by kernel_rfl) rfl) (Row.later hc h.inv.1) rfl Try.underlying83 rfl (szPin _ _)⟩⟩
    · refine .inl ⟨.inl rfl, ?_⟩
      exact .inl ⟨by kernel_rfl, fun L a1 w1 n' h => ⟨_, rfl, run_loadP 83 (.tmp 3) g3 0 83 [] [.int .i64 p1, .int .i64 p2] [] _ rfl (h.var n' 3 (by kernel_rfl)) (Row.later r3 h.inv.1) rfl Try.underlying83 rfl (szPin _ _)⟩⟩
    · refine .inl ⟨.inl rfl, ?_⟩
      refine .inr fun L a1 w1 n' h K hK => ?_
      have e0 : a1.eval (.tmp 17) = pin a b := h.dep n' 3 17 (by kernel_rfl) rfl
      have e1 : a1.eval (.tmp 18) = pin p1 p2 := h.dep n' 4 18 (by kernel_rfl) rfl
      refine JF.call (FNo_mono ) h hK 19 rfl 54 _ _ #[pin a b, pin p1 p2] rfl Try.call54 ?_ (rless_any a b p1 p2 w1) ?_
      · simp only [List.map_toArray, List.map_cons, List.map_nil, e0, e1]
      · rintro e w3 ⟨rfl, b9⟩
        exact ⟨_, rfl, rfl, trivial, b9⟩
    · refine .inl ⟨.inl rfl, ?_⟩
      exact .inl ⟨by kernel_rfl, fun L a1 w1 n' h => ⟨_, rfl, run_notB (.tmp 19) (lessB a b p1 p2) rfl (h.dep n' 5 19 (by kernel_rfl) rfl) (by rw [hlt]; rfl)⟩⟩
    · refine .inl ⟨.inl rfl, ?_⟩
      exact .inl ⟨by kernel_rfl, fun L a1 w1 n' h => ⟨_, rfl, run_move (.tmp 20) rfl (h.dep n' 6 20 (by kernel_rfl) rfl)⟩⟩
    · refine .inl ⟨.inr ⟨7, false, 21, rfl, by kernel_rfl, rfl, by simp, fun v h => h⟩, ?_⟩
      refine .inl ⟨by kernel_rfl, fun L a1 w1 n' h => ⟨.pointer (some ⟨g3, 0, none⟩), rfl, ?_⟩⟩
      have e0 : a1.eval (.tmp 3) = _ := h.var n' 3 (by kernel_rfl)
      unfold execOp
      simp only [e0]
      go_simp
    · refine .inl ⟨.inr ⟨7, false, 21, rfl, by kernel_rfl, rfl, by simp, fun v h => h⟩, ?_⟩
      exact .inl ⟨by kernel_rfl, fun L a1 w1 n' h => ⟨_, rfl, run_loadA 3 (.tmp 22) ⟨g3, 0, none⟩ rfl Try.isAgg3 (h.dep n' 8 22 (by kernel_rfl) rfl) ((Row.later r3 h.inv.1).cell (j := 0) (v := .int .i64 p1) rfl)⟩⟩
    · refine .inl ⟨.inr ⟨7, false, 21, rfl, by kernel_rfl, rfl, by simp, fun v h => h⟩, ?_⟩
      exact .inl ⟨by kernel_rfl, fun L a1 w1 n' h => ⟨_, rfl, run_move (.tmp 0) rfl (h.var n' 0 (by kernel_rfl))⟩⟩
    · refine .inl ⟨.inr ⟨7, false, 21, rfl, by kernel_rfl, rfl, by simp, fun v h => h⟩, ?_⟩
      refine .inl ⟨by kernel_rfl, fun L a1 w1 n' h => ⟨ptr x, rfl, ?_⟩⟩
      have e0 : a1.eval (.tmp 24) = _ := h.dep n' 10 24 (by kernel_rfl) rfl
      unfold execOp
      simp only [e0]
      go_simp
    · refine .inl ⟨.inr ⟨7, false, 21, rfl, by kernel_rfl, rfl, by simp, fun v h => h⟩, ?_⟩
      refine .inl ⟨by kernel_rfl, fun L a1 w1 n' h => ⟨.pointer (some ⟨x, 8, none⟩), rfl, ?_⟩⟩
      have e0 : a1.eval (.tmp 25) = _ := h.dep n' 11 25 (by kernel_rfl) rfl
      unfold execOp
      simp only [e0]
      go_simp
    · refine .inl ⟨.inr ⟨7, false, 21, rfl, by kernel_rfl, rfl, by simp, fun v h => h⟩, ?_⟩
      exact .inl ⟨by kernel_rfl, fun L a1 w1 n' h => ⟨_, rfl, run_loadA 3 (.tmp 26) ⟨x, 8, none⟩ rfl Try.isAgg3 (h.dep n' 12 26 (by kernel_rfl) rfl) ((Row.later hc h.inv.1).cell (j := 8) (v := .int .i64 life) rfl)⟩⟩
    · refine .inl ⟨.inr ⟨7, false, 21, rfl, by kernel_rfl, rfl, by simp, fun v h => h⟩, ?_⟩
      exact .inl ⟨by kernel_rfl, fun L a1 w1 n' h => ⟨_, rfl, run_gtrI (.tmp 23) (.tmp 27) rfl (h.dep n' 9 23 (by kernel_rfl) rfl) (h.dep n' 13 27 (by kernel_rfl) rfl) hlf⟩⟩
    · refine .inl ⟨.inl rfl, ?_⟩
      exact .inl ⟨by kernel_rfl, fun L a1 w1 n' h => ⟨_, rfl, run_pickF (.tmp 21) _ _ rfl (h.dep n' 7 21 (by kernel_rfl) rfl) (h.dep n' 14 28 (by kernel_rfl) rfl)⟩⟩
  case heSRe =>
    intro V w5 hV2 hJ
    have hz : V 15 = .bool false := hV2 15 29 rfl
    have bw5 : Below w3.heap.size w3 w5 := hJ.1
    have hc := Row.later hc bw5
    have r3 := Row.later r3 bw5
    have hq := Row.later hq bw5
    clear hV2 hJ
    simp only [putOps, List.setIfInBounds_toArray, List.set_cons_succ, List.set_cons_zero, Nat.reduceAdd]
    rw [hz]
    refine hK1 _ _ ?_
    clear hz
    go_wp2
    rename_i K2 hK2
    refine wp_region_valsS [7] (SRf x q g3 n s p g l e c life a b p1 p2) (JF w5 [7] FNo) (by kernel_rfl) (by kernel_rfl) (by kernel_rfl) (by kernel_rfl) (JF.start _) ?obsSRf ?heSRf
    case obsSRf =>
      refine ⟨?_, ?_, ?_, ?_, ?_, ?_, ?_, ?_, ?_, trivial⟩
      · refine .inl ⟨.inl rfl, ?_⟩
        refine .inl ⟨by kernel_rfl, fun L a1 w1 n' h => ⟨.pointer (some ⟨g3, 1, none⟩), rfl, ?_⟩⟩
        have e0 : a1.eval (.tmp 3) = _ := h.var n' 3 (by kernel_rfl)
        unfold execOp
        simp only [e0]
        go_simp
      · refine .inl ⟨.inl rfl, ?_⟩
        exact .inl ⟨by kernel_rfl, fun L a1 w1 n' h => ⟨_, rfl, run_loadA 3 (.tmp 30) ⟨g3, 1, none⟩ rfl Try.isAgg3 (h.dep n' 0 30 (by kernel_rfl) rfl) ((Row.later r3 h.inv.1).cell (j := 1) (v := .int .i64 p2) rfl)⟩⟩
      · refine .inl ⟨.inl rfl, ?_⟩
        exact .inl ⟨by kernel_rfl, fun L a1 w1 n' h => ⟨_, rfl, run_move (.tmp 0) rfl (h.var n' 0 (by kernel_rfl))⟩⟩
      · refine .inl ⟨.inl rfl, ?_⟩
        refine .inl ⟨by kernel_rfl, fun L a1 w1 n' h => ⟨ptr x, rfl, ?_⟩⟩
        have e0 : a1.eval (.tmp 32) = _ := h.dep n' 2 32 (by kernel_rfl) rfl
        unfold execOp
        simp only [e0]
        go_simp
      · refine .inl ⟨.inl rfl, ?_⟩
        refine .inl ⟨by kernel_rfl, fun L a1 w1 n' h => ⟨.pointer (some ⟨x, 1, none⟩), rfl, ?_⟩⟩
        have e0 : a1.eval (.tmp 33) = _ := h.dep n' 3 33 (by kernel_rfl) rfl
        unfold execOp
        simp only [e0]
        go_simp
      · refine .inl ⟨.inl rfl, ?_⟩
        refine .inl ⟨by kernel_rfl, fun L a1 w1 n' h => ⟨.pointer (some ⟨x, 3, none⟩), rfl, ?_⟩⟩
        have e0 : a1.eval (.tmp 34) = _ := h.dep n' 4 34 (by kernel_rfl) rfl
        unfold execOp
        simp only [e0]
        go_simp
      · refine .inl ⟨.inl rfl, ?_⟩
        exact .inl ⟨by kernel_rfl, fun L a1 w1 n' h => ⟨_, rfl, run_loadA 3 (.tmp 35) ⟨x, 3, none⟩ rfl Try.isAgg3 (h.dep n' 5 35 (by kernel_rfl) rfl) ((Row.later hc h.inv.1).cell (j := 3) (v := .int .i64 p) rfl)⟩⟩
      · refine .inl ⟨.inl rfl, ?_⟩
        refine .inr fun L a1 w1 n' h K hK => ?_
        have e0 : a1.eval (.tmp 36) = .int .i64 p := h.dep n' 6 36 (by kernel_rfl) rfl
        refine JF.call (FNo_mono ) h hK 37 rfl 53 _ _ #[.int .i64 p] rfl Try.call53 ?_ (bound_any p w1) ?_
        · simp only [List.map_toArray, List.map_cons, List.map_nil, e0]
        · rintro e w3 ⟨rfl, rfl⟩
          exact ⟨_, rfl, rfl, trivial, (Below.refl _ _)⟩
      · refine .inl ⟨.inl rfl, ?_⟩
        exact .inl ⟨by kernel_rfl, fun L a1 w1 n' h => ⟨_, rfl, run_gtrI (.tmp 31) (.tmp 37) rfl (h.dep n' 1 31 (by kernel_rfl) rfl) (h.dep n' 7 37 (by kernel_rfl) rfl) hmf⟩⟩
    case heSRf =>
      intro V w6 hV2 hJ
      have hz : V 8 = .bool false := hV2 8 38 rfl
      have bw6 : Below w5.heap.size w5 w6 := hJ.1
      have hc := Row.later hc bw6
      have r3 := Row.later r3 bw6
      have hq := Row.later hq bw6
      clear hV2 hJ
      simp only [putOps, List.setIfInBounds_toArray, List.set_cons_succ, List.set_cons_zero, Nat.reduceAdd]
      rw [hz]
      refine hK2 _ _ ?_
      clear hz
      have c2 := hc.cell (j := 0) (v := ptr q) rfl
      go_wp2_with fail
      refine (hA w6 hq).mono ?_
      rintro en w7 ⟨rfl, r7, o7⟩
      have hc7 := hc.only o7 h1
      have r37 := r3.only o7 (by omega)
      clear c2
      have B := (Buts.of ((b3.trans (bw5.mono b3.size)).trans (bw6.mono (b3.trans (bw5.mono b3.size)).size)) [x, q]).trans (Buts.only o7 (by simp))
      rcases hE with rfl | rfl
      · have hc7' := cut9 hc7
        go_wp2_with (first
          | (with_reducible refine wl_load_row rfl 83 (.tmp 3) g3 83 [.int .i64 p1, .int .i64 p2] _ rfl rfl r37 Try.underlying83 rfl (szPin _ _) ?_)
          | (with_reducible refine wl_store_part rfl 83 (.tmp 49) (.tmp 47) x 9 85 [ptr q, .int .i64 n, .int .i64 s, .int .i64 p, .int .i64 g, .int .i64 l, .int .i64 e, .int .i64 c, .int .i64 life] [.int .i64 a, .int .i64 b] [] [.int .i64 p1, .int .i64 p2] rfl rfl rfl hc7' rfl rfl (szPin _ _) (one_pin _ _) ?_; intro w8 r8 o8))
        go_ret
        exact ⟨rfl, r8, r7.only o8 (Ne.symm h1), B.trans (Buts.only o8 (by simp))⟩
      · go_wp2_with fail
        go_ret
        exact ⟨rfl, hc7, r7, B⟩

theorem rraise_any (w : World) (x q : Nat) (n s p g l e c life a b p1 p2 : Int) (hc : RCel w x q n s p g l e c life a b) (hv : refV (bnd p) life a b p1 p2 ≠ 0) : Calls Try.prog 49 #[ptr x, pin p1 p2] w fun en w' => en = .returned (.int .i64 (refV (bnd p) life a b p1 p2)) ∧ Below w.heap.size w w' := by
  unfold refV at hv ⊢
  by_cases h1 : p1 < 0
  · rw [if_pos (.inl h1)]; exact rraise_arg1 w x q n s p g l e c life a b p1 p2 hc (by simpa using h1)
  · have h1' : decide (p1 < 0) = false := by simpa using h1
    by_cases h2 : p2 < 0
    · rw [if_pos (.inr h2)]; exact rraise_arg2 w x q n s p g l e c life a b p1 p2 hc h1' (by simpa using h2)
    · have h2' : decide (p2 < 0) = false := by simpa using h2
      rw [if_neg (by omega)] at hv ⊢
      cases h3 : lessB a b p1 p2 with
      | false => rw [if_pos (.inl rfl)]; exact rraise_less w x q n s p g l e c life a b p1 p2 hc h1' h2' h3
      | true =>
        rw [h3] at hv
        by_cases h4 : life < p1
        · rw [if_pos (.inr h4)]; exact rraise_life w x q n s p g l e c life a b p1 p2 hc h1' h2' h3 (by simpa using h4)
        · rw [if_neg (by simp; omega)] at hv ⊢
          by_cases h5 : bnd p < p2
          · rw [if_pos h5]; exact rraise_most w x q n s p g l e c life a b p1 p2 hc h1' h2' h3 (by simpa using h4) (by simpa using h5)
          · rw [if_neg h5] at hv; exact absurd rfl hv
theorem ref_zero {m2 life a b p1 p2 : Int} (h : refV m2 life a b p1 p2 = 0) : decide (p1 < 0) = false ∧ decide (p2 < 0) = false ∧ lessB a b p1 p2 = true ∧ decide (life < p1) = false ∧ decide (m2 < p2) = false := by
  unfold refV at h
  split at h
  · omega
  · split at h
    · omega
    · split at h
      · omega
      · rename_i h1 h2 h3
        refine ⟨by simp; omega, by simp; omega, ?_, by simp; omega, by simp; omega⟩
        cases hl : lessB a b p1 p2 with
        | true => rfl
        | false => exact absurd (.inl hl) h2
end Go.Proofs.Ytlihoijbfffjcaa

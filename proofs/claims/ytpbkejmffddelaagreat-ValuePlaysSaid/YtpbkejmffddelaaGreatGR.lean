/-
  Several own texts in one: ValPo, ValPq, ValPr, ValPt, ValPu. Own work.
-/
import Derived.Test.YtpbkejmffddelaaGreatGQ
set_option linter.unusedVariables false
set_option linter.unusedSimpArgs false
/-
  The law's 'do': SetText. Own work.
-/
namespace Go.Proofs.YtpbkejmffddelaaGreat
open Go.RowKit Go.Shelf Go.Maps
theorem trn_new {w w1 w2 : World} {B g : Nat} (h : TrnB B w w1) (o : Only g w1 w2) (hg : w.heap.size ≤ g) (hB : B ≤ w.heap.size) : TrnB B w w2 :=
  ⟨⟨o.os.trans h.1.os, o.tape.trans h.1.tape, o.output.trans h.1.output, Nat.le_trans h.1.size (Nat.le_of_eq o.size.symm), fun k cs t fr hk ht => by
    have hl := (Array.getElem?_eq_some_iff.1 hk).1
    exact (o.block k (by omega)).trans (h.1.keep k cs t fr hk ht)⟩, below_only h.2 o (Nat.le_trans hB hg)⟩
set_option maxRecDepth 100000 in
set_option maxHeartbeats 1000000 in
theorem do_text1 (w : World) (B gv : Nat) (t : Nm) (vp vl vs lv : Value) (a : VA) (hV : V1 w B gv t) (hX : XM w B (⟨1, t, [], [], []⟩ : Vl) vp vl vs) (hk : a.k.tmod 8 = 0) (hB : B ≤ w.heap.size) :
    Calls Tryz.prog 19 #[ptr gv, vlV (⟨1, t, [], [], []⟩ : Vl) vp vl vs, .agg (a.cells lv).toArray] w (DoPost w B gv (⟨1, a.a, [], [], []⟩ : Vl)) := by
  go_enter Tryz.func19, Tryz.ntmps19
  go_wp2_with (first
    | ((with_reducible refine wl_box (o := ⟨some 4, _, _, _, _, _⟩) rfl 26 (.tmp 1) _ (vlC (⟨1, t, [], [], []⟩ : Vl) vp vl vs) rfl rfl rfl ?_); intro g4 w1 r4 p4 l4 b1)
    | ((with_reducible refine wl_box (o := ⟨some 5, _, _, _, _, _⟩) rfl 54 (.tmp 2) _ (a.cells lv) rfl rfl rfl ?_); intro g5 w2 r5 p5 l5 b2; have r42 := r4.later b2)
    | ((with_reducible refine wl_alloc (o := ⟨some 6, _, _, _, _, _⟩) rfl 26 _ [.int .i64 0, encStr [], nilS, nilS, nilS] rfl zeroVl rfl ?_); intro g6 w3 r6 p6 l6 b3; have r53 := r5.later b3; have r43 := r42.later b3; have d0 := r53.cell (j := 0) rfl; have d1 := r53.cell (j := 1) rfl; have d2 := r53.cell (j := 2) rfl; have d4 := r53.cell (j := 4) rfl; have c0 := r43.cell (j := 0) rfl))
  have B3 := (b1.trans (b2.mono b1.size)).trans (b3.mono (b1.trans (b2.mono b1.size)).size)
  have hB3 : B ≤ w3.heap.size := Nat.le_trans hB B3.size
  have g4B : B ≤ g4 := Nat.le_trans hB p4
  have g6w : w.heap.size ≤ g6 := Nat.le_trans (b1.trans (b2.mono b1.size)).size p6
  have n46 : g4 ≠ g6 := Nat.ne_of_lt (Nat.lt_of_lt_of_le r42.lt p6)
  have n45 : g4 ≠ g5 := Nat.ne_of_lt (Nat.lt_of_lt_of_le r4.lt p5)
  have n56 : g5 ≠ g6 := Nat.ne_of_lt (Nat.lt_of_lt_of_le r5.lt p6)
  have hX3 := hX.later B3
  have hV3 := hV.later B3
  clear r4 r5 r42 b1 b2 b3 l4 l5 l6 hV hX
  refine (setText_1 w3 B gv t a.a hV3 hB3).mono ?_
  rintro e w4 ⟨rfl, hV4, BT4⟩
  have r44 := BT4.1.row r43 (.inr (.inr (.inr (.inl rfl))))
  have r54 := BT4.1.row r53 (.inr (.inr (.inr (.inr rfl))))
  have r64 := BT4.1.row r6 (.inr (.inr (.inr (.inl rfl))))
  have hX4 := hX3.trn BT4.1
  have d0 := r54.cell (j := 0) rfl
  have d1 := r54.cell (j := 1) rfl
  have d2 := r54.cell (j := 2) rfl
  have d4 := r54.cell (j := 4) rfl
  have c0 := r44.cell (j := 0) rfl
  replace BT4 := (TrnB.of B3 hB).trans BT4
  have g4w : w.heap.size ≤ g4 := p4
  go_wp2_with (first
    | ((with_reducible refine wl_store rfl 9 (.tmp 36) (.tmp 35) g4 1 26 (vlC (⟨1, t, [], [], []⟩ : Vl) vp vl vs) (encStr a.a) rfl (by kernel_rfl) rfl rfl r44 (by simp) rfl ?_); intro w5 r45 o5; replace r45 : Row w5 26 g4 (vlC (⟨1, a.a, [], [], []⟩ : Vl) vp vl vs) := r45; have r65 := r64.only o5 n46.symm; have hVe : VX w5 B gv (⟨1, a.a, [], [], []⟩ : Vl) := vx_only (.k1 _ hV4) o5 r44; have hXe : XM w5 B (⟨1, a.a, [], [], []⟩ : Vl) vp vl vs := (XM.only (x := (⟨1, a.a, [], [], []⟩ : Vl)) (w := w4) ⟨hX4.p, hX4.l, hX4.s⟩ o5 r44); have BTe : TrnB B w w5 := trn_new BT4 o5 g4w hB; have r4e := r45; have r6e := r65; have onee := hXe.one; replace hVe := hide hVe; replace hXe := hide hXe; replace BTe := hide BTe)
    | (with_reducible refine wl_load_row (o := ⟨some 182, _, _, _, _, _⟩) rfl 26 (.tmp 4) g4 26 (vlC (⟨1, a.a, [], [], []⟩ : Vl) vp vl vs) _ rfl rfl r4e Tryz.underlying26 rfl (by kernel_rfl) ?_)
    | ((with_reducible refine wl_store_row rfl 26 (.tmp 6) (.tmp 182) g6 26 _ (vlC (⟨1, a.a, [], [], []⟩ : Vl) vp vl vs) rfl rfl rfl r6e (by kernel_rfl) rfl onee ?_); intro we re oe))
  refine bodyPost_ret (v := .tuple #[vlV (⟨1, a.a, [], [], []⟩ : Vl) vp vl vs, .bool true]) ?_ rfl ⟨_, _, _, rfl, vx_only hVe.out oe r6e, hXe.out.only oe r6e, trn_new BTe.out oe g6w hB⟩
  exact results_rt2 Tryz.results19 _ _ g6 26 _ _ _ rfl re Tryz.underlying26 rfl (by kernel_rfl) rfl
set_option maxRecDepth 100000 in
set_option maxHeartbeats 1000000 in
theorem do_text0 (w : World) (B gv : Nat) (x : Vl) (vp vl vs lv : Value) (a : VA) (hV : VX w B gv x) (hX : XM w B x vp vl vs) (hk : a.k.tmod 8 = 0) (hB : B ≤ w.heap.size) (hx1 : x.k ≠ 1) :
    Calls Tryz.prog 19 #[ptr gv, vlV x vp vl vs, .agg (a.cells lv).toArray] w (DoPost w B gv x) := by
  go_enter Tryz.func19, Tryz.ntmps19
  go_wp2_with (first
    | ((with_reducible refine wl_box (o := ⟨some 4, _, _, _, _, _⟩) rfl 26 (.tmp 1) _ (vlC x vp vl vs) rfl rfl rfl ?_); intro g4 w1 r4 p4 l4 b1)
    | ((with_reducible refine wl_box (o := ⟨some 5, _, _, _, _, _⟩) rfl 54 (.tmp 2) _ (a.cells lv) rfl rfl rfl ?_); intro g5 w2 r5 p5 l5 b2; have r42 := r4.later b2)
    | ((with_reducible refine wl_alloc (o := ⟨some 6, _, _, _, _, _⟩) rfl 26 _ [.int .i64 0, encStr [], nilS, nilS, nilS] rfl zeroVl rfl ?_); intro g6 w3 r6 p6 l6 b3; have r53 := r5.later b3; have r43 := r42.later b3; have d0 := r53.cell (j := 0) rfl; have d1 := r53.cell (j := 1) rfl; have d2 := r53.cell (j := 2) rfl; have d4 := r53.cell (j := 4) rfl; have c0 := r43.cell (j := 0) rfl))
  have B3 := (b1.trans (b2.mono b1.size)).trans (b3.mono (b1.trans (b2.mono b1.size)).size)
  have hB3 : B ≤ w3.heap.size := Nat.le_trans hB B3.size
  have g4B : B ≤ g4 := Nat.le_trans hB p4
  have g6w : w.heap.size ≤ g6 := Nat.le_trans (b1.trans (b2.mono b1.size)).size p6
  have n46 : g4 ≠ g6 := Nat.ne_of_lt (Nat.lt_of_lt_of_le r42.lt p6)
  have n45 : g4 ≠ g5 := Nat.ne_of_lt (Nat.lt_of_lt_of_le r4.lt p5)
  have n56 : g5 ≠ g6 := Nat.ne_of_lt (Nat.lt_of_lt_of_le r5.lt p6)
  have hX3 := hX.later B3
  have hV3 := hV.later B3
  clear r4 r5 r42 b1 b2 b3 l4 l5 l6 hV hX
  obtain ⟨hm, lw, sm, zp, row, hm2, sm4, zp5⟩ := hV3.row
  replace hV3 := hide hV3
  have e1 : decide (x.k = 1) = false := decide_eq_false hx1
  have f1 : (x.k == 1) = false := beq_eq_false_iff_ne.2 hx1
  refine (setText_no w3 (ptr gv) x.k x.t hm lw sm zp (encStr a.a) (.inr ⟨gv, rfl, row⟩) hx1).mono ?_
  rintro e w4 ⟨rfl, b4⟩
  have BT4 := TrnB.of b4 hB3
  have r44 := BT4.1.row r43 (.inr (.inr (.inr (.inl rfl))))
  have r54 := BT4.1.row r53 (.inr (.inr (.inr (.inr rfl))))
  have r64 := BT4.1.row r6 (.inr (.inr (.inr (.inl rfl))))
  have hX4 := hX3.trn BT4.1
  have d0 := r54.cell (j := 0) rfl
  have d1 := r54.cell (j := 1) rfl
  have d2 := r54.cell (j := 2) rfl
  have d4 := r54.cell (j := 4) rfl
  have c0 := r44.cell (j := 0) rfl
  replace BT4 := (TrnB.of B3 hB).trans BT4
  have g4w : w.heap.size ≤ g4 := p4
  have hVe : VX w4 B gv x := hV3.out.later b4
  have hXe : XM w4 B x vp vl vs := hX4
  have BTe : TrnB B w w4 := BT4
  have r4e := r44
  have r6e := r64
  have onee := hXe.one
  replace hVe := hide hVe
  replace hXe := hide hXe
  replace BTe := hide BTe
  go_wp2_with (first
    | (with_reducible refine wl_load_row (o := ⟨some 182, _, _, _, _, _⟩) rfl 26 (.tmp 4) g4 26 (vlC x vp vl vs) _ rfl rfl r4e Tryz.underlying26 rfl (by kernel_rfl) ?_)
    | ((with_reducible refine wl_store_row rfl 26 (.tmp 6) (.tmp 182) g6 26 _ (vlC x vp vl vs) rfl rfl rfl r6e (by kernel_rfl) rfl onee ?_); intro we re oe))
  refine bodyPost_ret (v := .tuple #[vlV x vp vl vs, .bool true]) ?_ rfl ⟨_, _, _, rfl, vx_only hVe.out oe r6e, hXe.out.only oe r6e, trn_new BTe.out oe g6w hB⟩
  exact results_rt2 Tryz.results19 _ _ g6 26 _ _ _ rfl re Tryz.underlying26 rfl (by kernel_rfl) rfl
end Go.Proofs.YtpbkejmffddelaaGreat

/-
  The law's 'do': SetField, Add. Own work.
-/
namespace Go.Proofs.YtpbkejmffddelaaGreat
open Go.RowKit Go.Shelf Go.Maps
theorem VX.of2 {w : World} {B gv : Nat} {x : Vl} (h : VX w B gv x) (hk : x.k = 2) : ∃ mb, V2 w B gv mb x.ps := by
  cases h with
  | k2 mb ps h => exact ⟨mb, h⟩
  | _ => simp at hk
theorem VX.of4 {w : World} {B gv : Nat} {x : Vl} (h : VX w B gv x) (hk : x.k = 4) : ∃ sb, V4 w B gv sb x.ls := by
  cases h with
  | k4 sb us h => exact ⟨sb, h⟩
  | _ => simp at hk
theorem VX.of3 {w : World} {B gv : Nat} {x : Vl} (h : VX w B gv x) (hk : x.k = 3) : ∃ lv, V3 w B gv lv x.ls := by
  cases h with
  | k3 lv ls h => exact ⟨lv, h⟩
  | _ => simp at hk
theorem rise_uE {us : List Nm} (h : riseE (uE us)) : us.Pairwise fun a b => bytesBefore a b = true := by
  unfold riseE uE at h
  rw [List.pairwise_map] at h
  exact h
theorem one_vl {x y : Vl} {vp vl vs vp' vl' vs' : Value} (h1 : vp'.oneCell' = true) (h2 : vl'.oneCell' = true) (h3 : vs'.oneCell' = true) : ∀ u ∈ vlC y vp' vl' vs', u.oneCell' = true := by
  intro u hu
  simp only [List.mem_cons, List.not_mem_nil, or_false] at hu
  rcases hu with rfl | rfl | rfl | rfl | rfl <;> first | rfl | assumption
set_option maxRecDepth 100000 in
set_option maxHeartbeats 1000000 in
theorem do_field2 (w : World) (B gv : Nat) (mb : Nat) (ps : List Pr) (vp vl vs lv : Value) (a : VA) (hV : V2 w B gv mb ps) (hX : XM w B (⟨2, [], ps, [], []⟩ : Vl) vp vl vs) (hk : a.k.tmod 8 = 1) (hB : B ≤ w.heap.size) (hf : a.a.length ≤ maxLen) (hl : ps.length ≤ 999999) :
    Calls Tryz.prog 19 #[ptr gv, vlV (⟨2, [], ps, [], []⟩ : Vl) vp vl vs, .agg (a.cells lv).toArray] w (DoPost w B gv (⟨2, [], putF ps a.a a.b, [], []⟩ : Vl)) := by
  go_enter Tryz.func19, Tryz.ntmps19
  go_wp2_with (first
    | ((with_reducible refine wl_box (o := ⟨some 4, _, _, _, _, _⟩) rfl 26 (.tmp 1) _ (vlC (⟨2, [], ps, [], []⟩ : Vl) vp vl vs) rfl rfl rfl ?_); intro g4 w1 r4 p4 l4 b1)
    | ((with_reducible refine wl_box (o := ⟨some 5, _, _, _, _, _⟩) rfl 54 (.tmp 2) _ (a.cells lv) rfl rfl rfl ?_); intro g5 w2 r5 p5 l5 b2; have r42 := r4.later b2)
    | ((with_reducible refine wl_alloc (o := ⟨some 6, _, _, _, _, _⟩) rfl 26 _ [.int .i64 0, encStr [], nilS, nilS, nilS] rfl zeroVl rfl ?_); intro g6 w3 r6 p6 l6 b3; have r53 := r5.later b3; have r43 := r42.later b3; have d0 := r53.cell (j := 0) rfl; have d1 := r53.cell (j := 1) rfl; have d2 := r53.cell (j := 2) rfl; have d4 := r53.cell (j := 4) rfl; have c0 := r43.cell (j := 0) rfl; have c3 := r43.cell (j := 3) rfl; have c4 := r43.cell (j := 4) rfl; have d3 := r53.cell (j := 3) rfl)
    | (with_reducible refine wg_load_row (o := ⟨some 43, _, _, _, _, _⟩) 3 true 42 rfl rfl rfl 26 (.tmp 4) g4 26 (vlC (⟨2, [], ps, [], []⟩ : Vl) vp vl vs) _ rfl rfl r43 Tryz.underlying26 rfl (by kernel_rfl) ?_))
  have B3 := (b1.trans (b2.mono b1.size)).trans (b3.mono (b1.trans (b2.mono b1.size)).size)
  have hB3 : B ≤ w3.heap.size := Nat.le_trans hB B3.size
  have g4B : B ≤ g4 := Nat.le_trans hB p4
  have g6w : w.heap.size ≤ g6 := Nat.le_trans (b1.trans (b2.mono b1.size)).size p6
  have n46 : g4 ≠ g6 := Nat.ne_of_lt (Nat.lt_of_lt_of_le r42.lt p6)
  have n45 : g4 ≠ g5 := Nat.ne_of_lt (Nat.lt_of_lt_of_le r4.lt p5)
  have n56 : g5 ≠ g6 := Nat.ne_of_lt (Nat.lt_of_lt_of_le r5.lt p6)
  have hX3 := hX.later B3
  have hV3 := hV.later B3
  clear r4 r5 r42 b1 b2 b3 l4 l5 l6 hV hX
  obtain ⟨c, hc⟩ : ∃ c, (!(prAt ps a.a).isSome) = c := ⟨_, rfl⟩
  refine (rfield_any w3 (⟨2, [], ps, [], []⟩ : Vl) vp vl vs a.a (OwnP.slv hX3.p) (by show ps.length ≤ _; omega)).mono ?_
  rintro e w4 ⟨⟨r, rfl, hr⟩, b4⟩
  have hrc : decide (r < 0) = c := by
    rw [← hc]
    rcases hr with ⟨rfl, h⟩ | ⟨i, q, rfl, _, h⟩
    · rw [show prAt ps a.a = none from h]; rfl
    · rw [show prAt ps a.a = some q from h]; simp
  have BT4 := TrnB.of b4 hB3
  have r44 := BT4.1.row r43 (.inr (.inr (.inr (.inl rfl))))
  have r54 := BT4.1.row r53 (.inr (.inr (.inr (.inr rfl))))
  have r64 := BT4.1.row r6 (.inr (.inr (.inr (.inl rfl))))
  have hX4 := hX3.trn BT4.1
  have d0 := r54.cell (j := 0) rfl
  have d1 := r54.cell (j := 1) rfl
  have d2 := r54.cell (j := 2) rfl
  have d3 := r54.cell (j := 3) rfl
  have d4 := r54.cell (j := 4) rfl
  have c0 := r44.cell (j := 0) rfl
  replace BT4 := (TrnB.of B3 hB).trans BT4
  have hB4 := Nat.le_trans hB BT4.2.size
  have hw4 := BT4.1.size
  have hV4 := hV3.later b4
  clear hr
  go_wp2_with (first
    | (with_reducible refine wl_load_row (o := ⟨some 52, _, _, _, _, _⟩) rfl 26 (.tmp 4) g4 26 (vlC (⟨2, [], ps, [], []⟩ : Vl) vp vl vs) _ rfl rfl r44 Tryz.underlying26 rfl (by kernel_rfl) ?_))
  refine (rsetF_any w4 (⟨2, [], ps, [], []⟩ : Vl) vp vl vs a.a a.b (OwnP.slv hX4.p) hX4.one hl hV4.m.rise).mono ?_
  rintro e w5 ⟨v5, rfl, own5, b5⟩
  have BT5 := TrnB.of b5 hB4
  clear d0 d1 d2 d3 d4 c0
  have r45 := BT5.1.row r44 (.inr (.inr (.inr (.inl rfl))))
  have r55 := BT5.1.row r54 (.inr (.inr (.inr (.inr rfl))))
  have r65 := BT5.1.row r64 (.inr (.inr (.inr (.inl rfl))))
  have hX5 := hX4.trn BT5.1
  have d0 := r55.cell (j := 0) rfl
  have d1 := r55.cell (j := 1) rfl
  have d2 := r55.cell (j := 2) rfl
  have d3 := r55.cell (j := 3) rfl
  have d4 := r55.cell (j := 4) rfl
  have c0 := r45.cell (j := 0) rfl
  replace BT5 := BT4.trans BT5
  have hB5 := Nat.le_trans hB BT5.2.size
  have hw5 := BT5.1.size
  have hV5 := hV4.later b5
  have one5 : ∀ u ∈ vlC (⟨2, [], putF ps a.a a.b, [], []⟩ : Vl) v5 vl vs, u.oneCell' = true := one_vl (x := (⟨2, [], putF ps a.a a.b, [], []⟩ : Vl)) (vp := vp) (vl := vl) (vs := vs) (own_one own5) (own_one hX5.l) (own_one hX5.s)
  go_wp2_with (first
    | ((with_reducible refine wl_store_row rfl 26 (.tmp 4) (.tmp 57) g4 26 (vlC (⟨2, [], ps, [], []⟩ : Vl) vp vl vs) (vlC (⟨2, [], putF ps a.a a.b, [], []⟩ : Vl) v5 vl vs) rfl rfl rfl r45 (by kernel_rfl) rfl one5 ?_); intro w6 r46 o6; have r66 := r65.only o6 n46.symm; have r56 := r55.only o6 n45.symm; clear d0 d1 d2 d3 d4 c0; have d0 := r56.cell (j := 0) rfl; have d1 := r56.cell (j := 1) rfl; have d2 := r56.cell (j := 2) rfl; have d3 := r56.cell (j := 3) rfl; have d4 := r56.cell (j := 4) rfl; have c0 := r46.cell (j := 0) rfl))
  obtain ⟨mb6, hV6⟩ := (vx_only (.k2 _ _ hV5) o6 r45).of2 rfl
  have hX6 : XM w6 B (⟨2, [], putF ps a.a a.b, [], []⟩ : Vl) v5 vl vs := XM.only (x := (⟨2, [], putF ps a.a a.b, [], []⟩ : Vl)) (w := w5) ⟨own_low own5 hB4, hX5.l, hX5.s⟩ o6 r45
  have BT6 := trn_new BT5 o6 p4 hB
  have hB6 := Nat.le_trans hB BT6.2.size
  have HC := setField_2 w6 B gv mb6 ps a.a a.b hV6 hf (by simp only [maxLen]; omega) hB6
  rw [hc] at HC
  refine HC.mono ?_
  rintro e w7 ⟨rfl, hV7, BT7⟩
  clear d0 d1 d2 d3 d4 c0
  have r47 := BT7.1.row r46 (.inr (.inr (.inr (.inl rfl))))
  have r57 := BT7.1.row r56 (.inr (.inr (.inr (.inr rfl))))
  have r67 := BT7.1.row r66 (.inr (.inr (.inr (.inl rfl))))
  have hX7 := hX6.trn BT7.1
  have d0 := r57.cell (j := 0) rfl
  have d1 := r57.cell (j := 1) rfl
  have d2 := r57.cell (j := 2) rfl
  have d3 := r57.cell (j := 3) rfl
  have d4 := r57.cell (j := 4) rfl
  have c0 := r47.cell (j := 0) rfl
  replace BT7 := BT6.trans BT7
  have hB7 := Nat.le_trans hB BT7.2.size
  have hw7 := BT7.1.size
  have hVe : VX w7 B gv (⟨2, [], putF ps a.a a.b, [], []⟩ : Vl) := .k2 _ _ hV7
  have hXe : XM w7 B (⟨2, [], putF ps a.a a.b, [], []⟩ : Vl) v5 vl vs := hX7
  have BTe : TrnB B w w7 := BT7
  have r4e := r47
  have r6e := r67
  have onee := hXe.one
  replace hVe := hide hVe
  replace hXe := hide hXe
  replace BTe := hide BTe
  go_wp2_with (first
    | (with_reducible refine wl_load_row (o := ⟨some 182, _, _, _, _, _⟩) rfl 26 (.tmp 4) g4 26 (vlC (⟨2, [], putF ps a.a a.b, [], []⟩ : Vl) v5 vl vs) _ rfl rfl r4e Tryz.underlying26 rfl (by kernel_rfl) ?_)
    | ((with_reducible refine wl_store_row rfl 26 (.tmp 6) (.tmp 182) g6 26 _ (vlC (⟨2, [], putF ps a.a a.b, [], []⟩ : Vl) v5 vl vs) rfl rfl rfl r6e (by kernel_rfl) rfl onee ?_); intro we re oe))
  refine bodyPost_ret (v := .tuple #[vlV (⟨2, [], putF ps a.a a.b, [], []⟩ : Vl) v5 vl vs, .bool true]) ?_ rfl ⟨_, _, _, rfl, vx_only hVe.out oe r6e, hXe.out.only oe r6e, trn_new BTe.out oe g6w hB⟩
  exact results_rt2 Tryz.results19 _ _ g6 26 _ _ _ rfl re Tryz.underlying26 rfl (by kernel_rfl) rfl
set_option maxRecDepth 100000 in
set_option maxHeartbeats 1000000 in
theorem do_field0 (w : World) (B gv : Nat) (x : Vl) (vp vl vs lv : Value) (a : VA) (hV : VX w B gv x) (hX : XM w B x vp vl vs) (hk : a.k.tmod 8 = 1) (hB : B ≤ w.heap.size) (hx2 : x.k ≠ 2) :
    Calls Tryz.prog 19 #[ptr gv, vlV x vp vl vs, .agg (a.cells lv).toArray] w (DoPost w B gv x) := by
  go_enter Tryz.func19, Tryz.ntmps19
  go_wp2_with (first
    | ((with_reducible refine wl_box (o := ⟨some 4, _, _, _, _, _⟩) rfl 26 (.tmp 1) _ (vlC x vp vl vs) rfl rfl rfl ?_); intro g4 w1 r4 p4 l4 b1)
    | ((with_reducible refine wl_box (o := ⟨some 5, _, _, _, _, _⟩) rfl 54 (.tmp 2) _ (a.cells lv) rfl rfl rfl ?_); intro g5 w2 r5 p5 l5 b2; have r42 := r4.later b2)
    | ((with_reducible refine wl_alloc (o := ⟨some 6, _, _, _, _, _⟩) rfl 26 _ [.int .i64 0, encStr [], nilS, nilS, nilS] rfl zeroVl rfl ?_); intro g6 w3 r6 p6 l6 b3; have r53 := r5.later b3; have r43 := r42.later b3; have d0 := r53.cell (j := 0) rfl; have d1 := r53.cell (j := 1) rfl; have d2 := r53.cell (j := 2) rfl; have d4 := r53.cell (j := 4) rfl; have c0 := r43.cell (j := 0) rfl; have c3 := r43.cell (j := 3) rfl; have c4 := r43.cell (j := 4) rfl; have d3 := r53.cell (j := 3) rfl))
  have B3 := (b1.trans (b2.mono b1.size)).trans (b3.mono (b1.trans (b2.mono b1.size)).size)
  have hB3 : B ≤ w3.heap.size := Nat.le_trans hB B3.size
  have g4B : B ≤ g4 := Nat.le_trans hB p4
  have g6w : w.heap.size ≤ g6 := Nat.le_trans (b1.trans (b2.mono b1.size)).size p6
  have n46 : g4 ≠ g6 := Nat.ne_of_lt (Nat.lt_of_lt_of_le r42.lt p6)
  have n45 : g4 ≠ g5 := Nat.ne_of_lt (Nat.lt_of_lt_of_le r4.lt p5)
  have n56 : g5 ≠ g6 := Nat.ne_of_lt (Nat.lt_of_lt_of_le r5.lt p6)
  have hX3 := hX.later B3
  have hV3 := hV.later B3
  clear r4 r5 r42 b1 b2 b3 l4 l5 l6 hV hX
  obtain ⟨hm, lw, sm, zp, row, hm2, sm4, zp5⟩ := hV3.row
  replace hV3 := hide hV3
  have e2 : decide (x.k = 2) = false := decide_eq_false hx2
  have f2 : (x.k == 2) = false := beq_eq_false_iff_ne.2 hx2
  refine (setField_no (w := w3) (v := ptr gv) (k := x.k) (t := x.t) (hm := hm) (lv := lw) (sm := sm) (zp := zp) (encStr a.a) (encStr a.b) (.inr ⟨gv, rfl, row⟩) hx2).mono ?_
  rintro e w4 ⟨rfl, b4⟩
  have BT4 := TrnB.of b4 hB3
  have r44 := BT4.1.row r43 (.inr (.inr (.inr (.inl rfl))))
  have r54 := BT4.1.row r53 (.inr (.inr (.inr (.inr rfl))))
  have r64 := BT4.1.row r6 (.inr (.inr (.inr (.inl rfl))))
  have hX4 := hX3.trn BT4.1
  have d0 := r54.cell (j := 0) rfl
  have d1 := r54.cell (j := 1) rfl
  have d2 := r54.cell (j := 2) rfl
  have d4 := r54.cell (j := 4) rfl
  have c0 := r44.cell (j := 0) rfl
  replace BT4 := (TrnB.of B3 hB).trans BT4
  have g4w : w.heap.size ≤ g4 := p4
  have hVe : VX w4 B gv x := hV3.out.later b4
  have hXe : XM w4 B x vp vl vs := hX4
  have BTe : TrnB B w w4 := BT4
  have r4e := r44
  have r6e := r64
  have onee := hXe.one
  replace hVe := hide hVe
  replace hXe := hide hXe
  replace BTe := hide BTe
  go_wp2_with (first
    | (with_reducible refine wl_load_row (o := ⟨some 182, _, _, _, _, _⟩) rfl 26 (.tmp 4) g4 26 (vlC x vp vl vs) _ rfl rfl r4e Tryz.underlying26 rfl (by kernel_rfl) ?_)
    | ((with_reducible refine wl_store_row rfl 26 (.tmp 6) (.tmp 182) g6 26 _ (vlC x vp vl vs) rfl rfl rfl r6e (by kernel_rfl) rfl onee ?_); intro we re oe))
  refine bodyPost_ret (v := .tuple #[vlV x vp vl vs, .bool true]) ?_ rfl ⟨_, _, _, rfl, vx_only hVe.out oe r6e, hXe.out.only oe r6e, trn_new BTe.out oe g6w hB⟩
  exact results_rt2 Tryz.results19 _ _ g6 26 _ _ _ rfl re Tryz.underlying26 rfl (by kernel_rfl) rfl
set_option maxRecDepth 100000 in
set_option maxHeartbeats 1000000 in
theorem do_add4 (w : World) (B gv : Nat) (sb : Nat) (us : List Nm) (vp vl vs lv : Value) (a : VA) (hV : V4 w B gv sb us) (hX : XM w B (⟨4, [], [], us, []⟩ : Vl) vp vl vs) (hk : a.k.tmod 8 = 3) (hB : B ≤ w.heap.size) (hf : a.a.length ≤ maxLen) (hl : us.length ≤ 999999) :
    Calls Tryz.prog 19 #[ptr gv, vlV (⟨4, [], [], us, []⟩ : Vl) vp vl vs, .agg (a.cells lv).toArray] w (DoPost w B gv (⟨4, [], [], putN us a.a, []⟩ : Vl)) := by
  go_enter Tryz.func19, Tryz.ntmps19
  go_wp2_with (first
    | ((with_reducible refine wl_box (o := ⟨some 4, _, _, _, _, _⟩) rfl 26 (.tmp 1) _ (vlC (⟨4, [], [], us, []⟩ : Vl) vp vl vs) rfl rfl rfl ?_); intro g4 w1 r4 p4 l4 b1)
    | ((with_reducible refine wl_box (o := ⟨some 5, _, _, _, _, _⟩) rfl 54 (.tmp 2) _ (a.cells lv) rfl rfl rfl ?_); intro g5 w2 r5 p5 l5 b2; have r42 := r4.later b2)
    | ((with_reducible refine wl_alloc (o := ⟨some 6, _, _, _, _, _⟩) rfl 26 _ [.int .i64 0, encStr [], nilS, nilS, nilS] rfl zeroVl rfl ?_); intro g6 w3 r6 p6 l6 b3; have r53 := r5.later b3; have r43 := r42.later b3; have d0 := r53.cell (j := 0) rfl; have d1 := r53.cell (j := 1) rfl; have d2 := r53.cell (j := 2) rfl; have d4 := r53.cell (j := 4) rfl; have c0 := r43.cell (j := 0) rfl; have c3 := r43.cell (j := 3) rfl; have c4 := r43.cell (j := 4) rfl; have d3 := r53.cell (j := 3) rfl))
  have B3 := (b1.trans (b2.mono b1.size)).trans (b3.mono (b1.trans (b2.mono b1.size)).size)
  have hB3 : B ≤ w3.heap.size := Nat.le_trans hB B3.size
  have g4B : B ≤ g4 := Nat.le_trans hB p4
  have g6w : w.heap.size ≤ g6 := Nat.le_trans (b1.trans (b2.mono b1.size)).size p6
  have n46 : g4 ≠ g6 := Nat.ne_of_lt (Nat.lt_of_lt_of_le r42.lt p6)
  have n45 : g4 ≠ g5 := Nat.ne_of_lt (Nat.lt_of_lt_of_le r4.lt p5)
  have n56 : g5 ≠ g6 := Nat.ne_of_lt (Nat.lt_of_lt_of_le r5.lt p6)
  have hX3 := hX.later B3
  have hV3 := hV.later B3
  clear r4 r5 r42 b1 b2 b3 l4 l5 l6 hV hX
  obtain ⟨c, hc⟩ : ∃ c, decide (a.a ∈ us) = c := ⟨_, rfl⟩
  have HC := rhas_any w3 vl us a.a (OwnW.slv hX3.l) (by omega)
  rw [hc] at HC
  refine HC.mono ?_
  rintro e w4 ⟨rfl, b4⟩
  have BT4 := TrnB.of b4 hB3
  have r44 := BT4.1.row r43 (.inr (.inr (.inr (.inl rfl))))
  have r54 := BT4.1.row r53 (.inr (.inr (.inr (.inr rfl))))
  have r64 := BT4.1.row r6 (.inr (.inr (.inr (.inl rfl))))
  have hX4 := hX3.trn BT4.1
  have d0 := r54.cell (j := 0) rfl
  have d1 := r54.cell (j := 1) rfl
  have d2 := r54.cell (j := 2) rfl
  have d3 := r54.cell (j := 3) rfl
  have d4 := r54.cell (j := 4) rfl
  have c0 := r44.cell (j := 0) rfl
  replace BT4 := (TrnB.of B3 hB).trans BT4
  have hB4 := Nat.le_trans hB BT4.2.size
  have hw4 := BT4.1.size
  have c3 := r44.cell (j := 3) rfl
  have hV4 := hV3.later b4
  clear HC
  go_wp2_with fail
  refine (radd_any w4 vl us a.a (OwnW.slv hX4.l) hl (rise_uE hV4.m.rise)).mono ?_
  rintro e w5 ⟨v5, rfl, own5, b5⟩
  have BT5 := TrnB.of b5 hB4
  clear d0 d1 d2 d3 d4 c0
  have r45 := BT5.1.row r44 (.inr (.inr (.inr (.inl rfl))))
  have r55 := BT5.1.row r54 (.inr (.inr (.inr (.inr rfl))))
  have r65 := BT5.1.row r64 (.inr (.inr (.inr (.inl rfl))))
  have hX5 := hX4.trn BT5.1
  have d0 := r55.cell (j := 0) rfl
  have d1 := r55.cell (j := 1) rfl
  have d2 := r55.cell (j := 2) rfl
  have d3 := r55.cell (j := 3) rfl
  have d4 := r55.cell (j := 4) rfl
  have c0 := r45.cell (j := 0) rfl
  replace BT5 := BT4.trans BT5
  have hB5 := Nat.le_trans hB BT5.2.size
  have hw5 := BT5.1.size
  have hV5 := hV4.later b5
  go_wp2_with (first
    | ((with_reducible refine wl_store rfl 23 (.tmp 108) (.tmp 107) g4 3 26 (vlC (⟨4, [], [], us, []⟩ : Vl) vp vl vs) v5 rfl (by kernel_rfl) rfl rfl r45 (by simp) (own_one own5) ?_); intro w6 r46 o6; replace r46 : Row w6 26 g4 (vlC (⟨4, [], [], putN us a.a, []⟩ : Vl) vp v5 vs) := r46; have r66 := r65.only o6 n46.symm; have r56 := r55.only o6 n45.symm; clear d0 d1 d2 d3 d4 c0; have d0 := r56.cell (j := 0) rfl; have d1 := r56.cell (j := 1) rfl; have d2 := r56.cell (j := 2) rfl; have d3 := r56.cell (j := 3) rfl; have d4 := r56.cell (j := 4) rfl; have c0 := r46.cell (j := 0) rfl))
  obtain ⟨sb6, hV6⟩ := (vx_only (.k4 _ _ hV5) o6 r45).of4 rfl
  have hX6 : XM w6 B (⟨4, [], [], putN us a.a, []⟩ : Vl) vp v5 vs := XM.only (x := (⟨4, [], [], putN us a.a, []⟩ : Vl)) (w := w5) ⟨hX5.p, own_low own5 hB4, hX5.s⟩ o6 r45
  have BT6 := trn_new BT5 o6 p4 hB
  have hB6 := Nat.le_trans hB BT6.2.size
  have HC := add_4 w6 B gv sb6 us a.a hV6 hf (by simp only [maxLen]; omega) hB6
  rw [hc] at HC
  refine HC.mono ?_
  rintro e w7 ⟨rfl, hV7, BT7⟩
  clear d0 d1 d2 d3 d4 c0
  have r47 := BT7.1.row r46 (.inr (.inr (.inr (.inl rfl))))
  have r57 := BT7.1.row r56 (.inr (.inr (.inr (.inr rfl))))
  have r67 := BT7.1.row r66 (.inr (.inr (.inr (.inl rfl))))
  have hX7 := hX6.trn BT7.1
  have d0 := r57.cell (j := 0) rfl
  have d1 := r57.cell (j := 1) rfl
  have d2 := r57.cell (j := 2) rfl
  have d3 := r57.cell (j := 3) rfl
  have d4 := r57.cell (j := 4) rfl
  have c0 := r47.cell (j := 0) rfl
  replace BT7 := BT6.trans BT7
  have hB7 := Nat.le_trans hB BT7.2.size
  have hw7 := BT7.1.size
  have hVe : VX w7 B gv (⟨4, [], [], putN us a.a, []⟩ : Vl) := .k4 _ _ hV7
  have hXe : XM w7 B (⟨4, [], [], putN us a.a, []⟩ : Vl) vp v5 vs := hX7
  have BTe : TrnB B w w7 := BT7
  have r4e := r47
  have r6e := r67
  have onee := hXe.one
  replace hVe := hide hVe
  replace hXe := hide hXe
  replace BTe := hide BTe
  go_wp2_with (first
    | (with_reducible refine wl_load_row (o := ⟨some 182, _, _, _, _, _⟩) rfl 26 (.tmp 4) g4 26 (vlC (⟨4, [], [], putN us a.a, []⟩ : Vl) vp v5 vs) _ rfl rfl r4e Tryz.underlying26 rfl (by kernel_rfl) ?_)
    | ((with_reducible refine wl_store_row rfl 26 (.tmp 6) (.tmp 182) g6 26 _ (vlC (⟨4, [], [], putN us a.a, []⟩ : Vl) vp v5 vs) rfl rfl rfl r6e (by kernel_rfl) rfl onee ?_); intro we re oe))
  refine bodyPost_ret (v := .tuple #[vlV (⟨4, [], [], putN us a.a, []⟩ : Vl) vp v5 vs, .bool true]) ?_ rfl ⟨_, _, _, rfl, vx_only hVe.out oe r6e, hXe.out.only oe r6e, trn_new BTe.out oe g6w hB⟩
  exact results_rt2 Tryz.results19 _ _ g6 26 _ _ _ rfl re Tryz.underlying26 rfl (by kernel_rfl) rfl
set_option maxRecDepth 100000 in
set_option maxHeartbeats 1000000 in
theorem do_add0 (w : World) (B gv : Nat) (x : Vl) (vp vl vs lv : Value) (a : VA) (hV : VX w B gv x) (hX : XM w B x vp vl vs) (hk : a.k.tmod 8 = 3) (hB : B ≤ w.heap.size) (hx4 : x.k ≠ 4) :
    Calls Tryz.prog 19 #[ptr gv, vlV x vp vl vs, .agg (a.cells lv).toArray] w (DoPost w B gv x) := by
  go_enter Tryz.func19, Tryz.ntmps19
  go_wp2_with (first
    | ((with_reducible refine wl_box (o := ⟨some 4, _, _, _, _, _⟩) rfl 26 (.tmp 1) _ (vlC x vp vl vs) rfl rfl rfl ?_); intro g4 w1 r4 p4 l4 b1)
    | ((with_reducible refine wl_box (o := ⟨some 5, _, _, _, _, _⟩) rfl 54 (.tmp 2) _ (a.cells lv) rfl rfl rfl ?_); intro g5 w2 r5 p5 l5 b2; have r42 := r4.later b2)
    | ((with_reducible refine wl_alloc (o := ⟨some 6, _, _, _, _, _⟩) rfl 26 _ [.int .i64 0, encStr [], nilS, nilS, nilS] rfl zeroVl rfl ?_); intro g6 w3 r6 p6 l6 b3; have r53 := r5.later b3; have r43 := r42.later b3; have d0 := r53.cell (j := 0) rfl; have d1 := r53.cell (j := 1) rfl; have d2 := r53.cell (j := 2) rfl; have d4 := r53.cell (j := 4) rfl; have c0 := r43.cell (j := 0) rfl; have c3 := r43.cell (j := 3) rfl; have c4 := r43.cell (j := 4) rfl; have d3 := r53.cell (j := 3) rfl))
  have B3 := (b1.trans (b2.mono b1.size)).trans (b3.mono (b1.trans (b2.mono b1.size)).size)
  have hB3 : B ≤ w3.heap.size := Nat.le_trans hB B3.size
  have g4B : B ≤ g4 := Nat.le_trans hB p4
  have g6w : w.heap.size ≤ g6 := Nat.le_trans (b1.trans (b2.mono b1.size)).size p6
  have n46 : g4 ≠ g6 := Nat.ne_of_lt (Nat.lt_of_lt_of_le r42.lt p6)
  have n45 : g4 ≠ g5 := Nat.ne_of_lt (Nat.lt_of_lt_of_le r4.lt p5)
  have n56 : g5 ≠ g6 := Nat.ne_of_lt (Nat.lt_of_lt_of_le r5.lt p6)
  have hX3 := hX.later B3
  have hV3 := hV.later B3
  clear r4 r5 r42 b1 b2 b3 l4 l5 l6 hV hX
  obtain ⟨hm, lw, sm, zp, row, hm2, sm4, zp5⟩ := hV3.row
  replace hV3 := hide hV3
  have e4 : decide (x.k = 4) = false := decide_eq_false hx4
  have f4 : (x.k == 4) = false := beq_eq_false_iff_ne.2 hx4
  refine (add_no (w := w3) (v := ptr gv) (k := x.k) (t := x.t) (hm := hm) (lv := lw) (sm := sm) (zp := zp) (encStr a.a) (.inr ⟨gv, rfl, row⟩) hx4).mono ?_
  rintro e w4 ⟨rfl, b4⟩
  have BT4 := TrnB.of b4 hB3
  have r44 := BT4.1.row r43 (.inr (.inr (.inr (.inl rfl))))
  have r54 := BT4.1.row r53 (.inr (.inr (.inr (.inr rfl))))
  have r64 := BT4.1.row r6 (.inr (.inr (.inr (.inl rfl))))
  have hX4 := hX3.trn BT4.1
  have d0 := r54.cell (j := 0) rfl
  have d1 := r54.cell (j := 1) rfl
  have d2 := r54.cell (j := 2) rfl
  have d4 := r54.cell (j := 4) rfl
  have c0 := r44.cell (j := 0) rfl
  replace BT4 := (TrnB.of B3 hB).trans BT4
  have g4w : w.heap.size ≤ g4 := p4
  have hVe : VX w4 B gv x := hV3.out.later b4
  have hXe : XM w4 B x vp vl vs := hX4
  have BTe : TrnB B w w4 := BT4
  have r4e := r44
  have r6e := r64
  have onee := hXe.one
  replace hVe := hide hVe
  replace hXe := hide hXe
  replace BTe := hide BTe
  go_wp2_with (first
    | (with_reducible refine wl_load_row (o := ⟨some 182, _, _, _, _, _⟩) rfl 26 (.tmp 4) g4 26 (vlC x vp vl vs) _ rfl rfl r4e Tryz.underlying26 rfl (by kernel_rfl) ?_)
    | ((with_reducible refine wl_store_row rfl 26 (.tmp 6) (.tmp 182) g6 26 _ (vlC x vp vl vs) rfl rfl rfl r6e (by kernel_rfl) rfl onee ?_); intro we re oe))
  refine bodyPost_ret (v := .tuple #[vlV x vp vl vs, .bool true]) ?_ rfl ⟨_, _, _, rfl, vx_only hVe.out oe r6e, hXe.out.only oe r6e, trn_new BTe.out oe g6w hB⟩
  exact results_rt2 Tryz.results19 _ _ g6 26 _ _ _ rfl re Tryz.underlying26 rfl (by kernel_rfl) rfl
end Go.Proofs.YtpbkejmffddelaaGreat

/-
  The law's 'do': SetItems. Own work.
-/
namespace Go.Proofs.YtpbkejmffddelaaGreat
open Go.RowKit Go.Shelf Go.Maps
set_option maxRecDepth 100000 in
set_option maxHeartbeats 1000000 in
theorem do_items3 (w : World) (B gv : Nat) (lw : Value) (ls : List Nm) (vp vl vs lv : Value) (a : VA) (hV : V3 w B gv lw ls) (hX : XM w B (⟨3, [], [], ls, []⟩ : Vl) vp vl vs) (hk : a.k.tmod 8 = 5) (hB : B ≤ w.heap.size) (hL : SlV cS 1 w B lv a.l) (hform : lv = nilS ∨ ∃ ad n c, lv = .slice (some ad) n c) (hl : a.l.length ≤ 1000) :
    Calls Tryz.prog 19 #[ptr gv, vlV (⟨3, [], [], ls, []⟩ : Vl) vp vl vs, .agg (a.cells lv).toArray] w (DoPost w B gv (⟨3, [], [], a.l, []⟩ : Vl)) := by
  go_enter Tryz.func19, Tryz.ntmps19
  go_wp2_with (first
    | ((with_reducible refine wl_box (o := ⟨some 4, _, _, _, _, _⟩) rfl 26 (.tmp 1) _ (vlC (⟨3, [], [], ls, []⟩ : Vl) vp vl vs) rfl rfl rfl ?_); intro g4 w1 r4 p4 l4 b1)
    | ((with_reducible refine wl_box (o := ⟨some 5, _, _, _, _, _⟩) rfl 54 (.tmp 2) _ (a.cells lv) rfl rfl rfl ?_); intro g5 w2 r5 p5 l5 b2; have r42 := r4.later b2)
    | ((with_reducible refine wl_alloc (o := ⟨some 6, _, _, _, _, _⟩) rfl 26 _ [.int .i64 0, encStr [], nilS, nilS, nilS] rfl zeroVl rfl ?_); intro g6 w3 r6 p6 l6 b3; have r53 := r5.later b3; have r43 := r42.later b3; have d0 := r53.cell (j := 0) rfl; have d1 := r53.cell (j := 1) rfl; have d2 := r53.cell (j := 2) rfl; have d4 := r53.cell (j := 4) rfl; have c0 := r43.cell (j := 0) rfl; have c3 := r43.cell (j := 3) rfl; have c4 := r43.cell (j := 4) rfl; have d3 := r53.cell (j := 3) rfl))
  have B3 := (b1.trans (b2.mono b1.size)).trans (b3.mono (b1.trans (b2.mono b1.size)).size)
  have hB3 : B ≤ w3.heap.size := Nat.le_trans hB B3.size
  have g4B : B ≤ g4 := Nat.le_trans hB p4
  have g6w : w.heap.size ≤ g6 := Nat.le_trans (b1.trans (b2.mono b1.size)).size p6
  have n46 : g4 ≠ g6 := Nat.ne_of_lt (Nat.lt_of_lt_of_le r42.lt p6)
  have n45 : g4 ≠ g5 := Nat.ne_of_lt (Nat.lt_of_lt_of_le r4.lt p5)
  have n56 : g5 ≠ g6 := Nat.ne_of_lt (Nat.lt_of_lt_of_le r5.lt p6)
  have hX3 := hX.later B3
  have hV3 := hV.later B3
  clear r4 r5 r42 b1 b2 b3 l4 l5 l6 hV hX
  refine (setItems_3 w3 B gv lw lv ls a.l hV3 ((hL.below (B3.mono hB)).up hB3) hform (by omega) hB3).mono ?_
  rintro e w4 ⟨rfl, ⟨lw4, hV4⟩, BT4⟩
  have r44 := BT4.1.row r43 (.inr (.inr (.inr (.inl rfl))))
  have r54 := BT4.1.row r53 (.inr (.inr (.inr (.inr rfl))))
  have r64 := BT4.1.row r6 (.inr (.inr (.inr (.inl rfl))))
  have hX4 := hX3.trn BT4.1
  have d0 := r54.cell (j := 0) rfl
  have d1 := r54.cell (j := 1) rfl
  have d2 := r54.cell (j := 2) rfl
  have d3 := r54.cell (j := 3) rfl
  have d4 := r54.cell (j := 4) rfl
  have c0 := r44.cell (j := 0) rfl
  replace BT4 := (TrnB.of B3 hB).trans BT4
  have hB4 := Nat.le_trans hB BT4.2.size
  have hw4 := BT4.1.size
  have hL4 : SlV cS 1 w4 w4.heap.size lv a.l := (hL.below BT4.2).up hB4
  obtain ⟨iw, hiw, hzw, hsw, hbw⟩ := wordI
  obtain ⟨LA, LC, hvp⟩ := hL4.sl
  subst hvp
  have hLA : LA = none → a.l.length = 0 := hL4.none0
  have hlen : (a.l.map encStr).length = a.l.length * 1 := by simp
  have hone : ∀ u ∈ a.l.map encStr, u.oneCell' = true := by
    intro u hu
    obtain ⟨x, _, rfl⟩ := List.mem_map.1 hu
    rfl
  have hm1 : 0 + a.l.length ≤ maxLen := by simp only [maxLen]; omega
  have hm2 : (0 + a.l.length) * 16 ≤ 140737488355328 := by omega
  have src4 := hide (fun (wz : World) (hz : Below w4.heap.size w4 wz) => (hL4.later hz).srcW)
  replace hLA := hide hLA
  replace hlen := hide hlen
  replace hform := hide hform
  go_wp2_with (first
    | ((with_reducible refine wl_build0P (o := ⟨some 150, _, _, _, _, _⟩) rfl 23 rfl 9 iw Tryz.underlying23 hiw hsw ?_); intro v5 w5 own5 b5; have r45 := r44.later b5; have r55 := r54.later b5; have r65 := r64.later b5; clear d0 d1 d2 d3 d4 c0; have d0 := r55.cell (j := 0) rfl; have d1 := r55.cell (j := 1) rfl; have d2 := r55.cell (j := 2) rfl; have d3 := r55.cell (j := 3) rfl; have d4 := r55.cell (j := 4) rfl; have c0 := r45.cell (j := 0) rfl; have src5 := src4.out w5 b5)
    | ((at_builtin; with_reducible refine wl_append_src (o := ⟨some 153, _, _, _, _, _⟩) rfl (.tmp 150) (.tmp 152) 23 rfl w4.heap.size 9 iw _ 1 16 Tryz.underlying23 hiw hzw hsw hbw rfl (by decide) v5 0 [] rfl own5 LA a.l.length LC (a.l.map encStr) rfl hlen.out hLA.out src5 hone hm1 hm2 b5.size ?_); intro v6 w6 own6 gr6; have b6 := b5.trans (below_of_grP gr6 own5 b5.size); have r46 := r44.later b6; have r56 := r54.later b6; have r66 := r64.later b6; clear d0 d1 d2 d3 d4 c0; have d0 := r56.cell (j := 0) rfl; have d1 := r56.cell (j := 1) rfl; have d2 := r56.cell (j := 2) rfl; have d3 := r56.cell (j := 3) rfl; have d4 := r56.cell (j := 4) rfl; have c0 := r46.cell (j := 0) rfl; have own6 : OwnW w6 w4.heap.size v6 a.l := by (rw [Nat.zero_add, List.nil_append] at own6; exact own6))
    | ((with_reducible refine wl_store rfl 23 (.tmp 154) (.tmp 153) g4 3 26 (vlC (⟨3, [], [], ls, []⟩ : Vl) vp vl vs) v6 rfl (by kernel_rfl) rfl rfl r46 (by simp) (own_one own6) ?_); intro w7 r47 o7; replace r47 : Row w7 26 g4 (vlC (⟨3, [], [], a.l, []⟩ : Vl) vp v6 vs) := r47; have r67 := r66.only o7 n46.symm; clear c0; have c0 := r47.cell (j := 0) rfl; have hVe : VX w7 B gv (⟨3, [], [], a.l, []⟩ : Vl) := vx_only (.k3 _ _ (hV4.later b6)) o7 r46; have hXe : XM w7 B (⟨3, [], [], a.l, []⟩ : Vl) vp v6 vs := XM.only (x := (⟨3, [], [], a.l, []⟩ : Vl)) (w := w6) ⟨(hX4.later b6).p, own_low own6 hB4, (hX4.later b6).s⟩ o7 r46; have BTe : TrnB B w w7 := trn_new (BT4.trans (TrnB.of b6 hB4)) o7 p4 hB; have r4e := r47; have r6e := r67; have onee := hXe.one; replace hVe := hide hVe; replace hXe := hide hXe; replace BTe := hide BTe)
    | (with_reducible refine wl_load_row (o := ⟨some 182, _, _, _, _, _⟩) rfl 26 (.tmp 4) g4 26 (vlC (⟨3, [], [], a.l, []⟩ : Vl) vp v6 vs) _ rfl rfl r4e Tryz.underlying26 rfl (by kernel_rfl) ?_)
    | ((with_reducible refine wl_store_row rfl 26 (.tmp 6) (.tmp 182) g6 26 _ (vlC (⟨3, [], [], a.l, []⟩ : Vl) vp v6 vs) rfl rfl rfl r6e (by kernel_rfl) rfl onee ?_); intro we re oe))
  refine bodyPost_ret (v := .tuple #[vlV (⟨3, [], [], a.l, []⟩ : Vl) vp v6 vs, .bool true]) ?_ rfl ⟨_, _, _, rfl, vx_only hVe.out oe r6e, hXe.out.only oe r6e, trn_new BTe.out oe g6w hB⟩
  exact results_rt2 Tryz.results19 _ _ g6 26 _ _ _ rfl re Tryz.underlying26 rfl (by kernel_rfl) rfl
set_option maxRecDepth 100000 in
set_option maxHeartbeats 1000000 in
theorem do_items4 (w : World) (B gv : Nat) (sb : Nat) (us : List Nm) (vp vl vs lv : Value) (a : VA) (hV : V4 w B gv sb us) (hX : XM w B (⟨4, [], [], us, []⟩ : Vl) vp vl vs) (hk : a.k.tmod 8 = 5) (hB : B ≤ w.heap.size) (hL : SlV cS 1 w B lv a.l) (hl : a.l.length ≤ 1000) (hn : ∀ t ∈ a.l, t.length ≤ maxLen) :
    Calls Tryz.prog 19 #[ptr gv, vlV (⟨4, [], [], us, []⟩ : Vl) vp vl vs, .agg (a.cells lv).toArray] w (DoPost w B gv (⟨4, [], [], a.l.foldl putN [], []⟩ : Vl)) := by
  go_enter Tryz.func19, Tryz.ntmps19
  go_wp2_with (first
    | ((with_reducible refine wl_box (o := ⟨some 4, _, _, _, _, _⟩) rfl 26 (.tmp 1) _ (vlC (⟨4, [], [], us, []⟩ : Vl) vp vl vs) rfl rfl rfl ?_); intro g4 w1 r4 p4 l4 b1)
    | ((with_reducible refine wl_box (o := ⟨some 5, _, _, _, _, _⟩) rfl 54 (.tmp 2) _ (a.cells lv) rfl rfl rfl ?_); intro g5 w2 r5 p5 l5 b2; have r42 := r4.later b2)
    | ((with_reducible refine wl_alloc (o := ⟨some 6, _, _, _, _, _⟩) rfl 26 _ [.int .i64 0, encStr [], nilS, nilS, nilS] rfl zeroVl rfl ?_); intro g6 w3 r6 p6 l6 b3; have r53 := r5.later b3; have r43 := r42.later b3; have d0 := r53.cell (j := 0) rfl; have d1 := r53.cell (j := 1) rfl; have d2 := r53.cell (j := 2) rfl; have d4 := r53.cell (j := 4) rfl; have c0 := r43.cell (j := 0) rfl; have c3 := r43.cell (j := 3) rfl; have c4 := r43.cell (j := 4) rfl; have d3 := r53.cell (j := 3) rfl))
  have B3 := (b1.trans (b2.mono b1.size)).trans (b3.mono (b1.trans (b2.mono b1.size)).size)
  have hB3 : B ≤ w3.heap.size := Nat.le_trans hB B3.size
  have g4B : B ≤ g4 := Nat.le_trans hB p4
  have g6w : w.heap.size ≤ g6 := Nat.le_trans (b1.trans (b2.mono b1.size)).size p6
  have n46 : g4 ≠ g6 := Nat.ne_of_lt (Nat.lt_of_lt_of_le r42.lt p6)
  have n45 : g4 ≠ g5 := Nat.ne_of_lt (Nat.lt_of_lt_of_le r4.lt p5)
  have n56 : g5 ≠ g6 := Nat.ne_of_lt (Nat.lt_of_lt_of_le r5.lt p6)
  have hX3 := hX.later B3
  have hV3 := hV.later B3
  clear r4 r5 r42 b1 b2 b3 l4 l5 l6 hV hX
  refine (setItems_4 w3 B gv sb lv us a.l hV3 (hL.below (B3.mono hB)) hl hn hB3).mono ?_
  rintro e w4 ⟨rfl, ⟨sb4, hV4⟩, BT4⟩
  have r44 := BT4.1.row r43 (.inr (.inr (.inr (.inl rfl))))
  have r54 := BT4.1.row r53 (.inr (.inr (.inr (.inr rfl))))
  have r64 := BT4.1.row r6 (.inr (.inr (.inr (.inl rfl))))
  have hX4 := hX3.trn BT4.1
  have d0 := r54.cell (j := 0) rfl
  have d1 := r54.cell (j := 1) rfl
  have d2 := r54.cell (j := 2) rfl
  have d3 := r54.cell (j := 3) rfl
  have d4 := r54.cell (j := 4) rfl
  have c0 := r44.cell (j := 0) rfl
  replace BT4 := (TrnB.of B3 hB).trans BT4
  have hB4 := Nat.le_trans hB BT4.2.size
  have hw4 := BT4.1.size
  have hL4 : SlV cS 1 w4 w4.heap.size lv a.l := (hL.below BT4.2).up hB4
  go_wp2_with fail
  refine (rrising_any w4 lv a.l hL4 hl).mono ?_
  rintro e w5 ⟨v5, rfl, own5, b5⟩
  have BT5 := TrnB.of b5 hB4
  clear d0 d1 d2 d3 d4 c0
  have r45 := BT5.1.row r44 (.inr (.inr (.inr (.inl rfl))))
  have r55 := BT5.1.row r54 (.inr (.inr (.inr (.inr rfl))))
  have r65 := BT5.1.row r64 (.inr (.inr (.inr (.inl rfl))))
  have hX5 := hX4.trn BT5.1
  have d0 := r55.cell (j := 0) rfl
  have d1 := r55.cell (j := 1) rfl
  have d2 := r55.cell (j := 2) rfl
  have d3 := r55.cell (j := 3) rfl
  have d4 := r55.cell (j := 4) rfl
  have c0 := r45.cell (j := 0) rfl
  replace BT5 := BT4.trans BT5
  have hB5 := Nat.le_trans hB BT5.2.size
  have hw5 := BT5.1.size
  go_wp2_with (first
    | ((with_reducible refine wl_store rfl 23 (.tmp 161) (.tmp 160) g4 3 26 (vlC (⟨4, [], [], us, []⟩ : Vl) vp vl vs) v5 rfl (by kernel_rfl) rfl rfl r45 (by simp) (own_one own5) ?_); intro w6 r46 o6; replace r46 : Row w6 26 g4 (vlC (⟨4, [], [], a.l.foldl putN [], []⟩ : Vl) vp v5 vs) := r46; have r66 := r65.only o6 n46.symm; have hVe : VX w6 B gv (⟨4, [], [], a.l.foldl putN [], []⟩ : Vl) := vx_only (.k4 _ _ (hV4.later b5)) o6 r45; have hXe : XM w6 B (⟨4, [], [], a.l.foldl putN [], []⟩ : Vl) vp v5 vs := XM.only (x := (⟨4, [], [], a.l.foldl putN [], []⟩ : Vl)) (w := w5) ⟨hX5.p, own_low own5 hB4, hX5.s⟩ o6 r45; have BTe : TrnB B w w6 := trn_new BT5 o6 p4 hB; have r4e := r46; have r6e := r66; have onee := hXe.one; replace hVe := hide hVe; replace hXe := hide hXe; replace BTe := hide BTe)
    | (with_reducible refine wl_load_row (o := ⟨some 182, _, _, _, _, _⟩) rfl 26 (.tmp 4) g4 26 (vlC (⟨4, [], [], a.l.foldl putN [], []⟩ : Vl) vp v5 vs) _ rfl rfl r4e Tryz.underlying26 rfl (by kernel_rfl) ?_)
    | ((with_reducible refine wl_store_row rfl 26 (.tmp 6) (.tmp 182) g6 26 _ (vlC (⟨4, [], [], a.l.foldl putN [], []⟩ : Vl) vp v5 vs) rfl rfl rfl r6e (by kernel_rfl) rfl onee ?_); intro we re oe))
  refine bodyPost_ret (v := .tuple #[vlV (⟨4, [], [], a.l.foldl putN [], []⟩ : Vl) vp v5 vs, .bool true]) ?_ rfl ⟨_, _, _, rfl, vx_only hVe.out oe r6e, hXe.out.only oe r6e, trn_new BTe.out oe g6w hB⟩
  exact results_rt2 Tryz.results19 _ _ g6 26 _ _ _ rfl re Tryz.underlying26 rfl (by kernel_rfl) rfl
set_option maxRecDepth 100000 in
set_option maxHeartbeats 1000000 in
theorem do_items0 (w : World) (B gv : Nat) (x : Vl) (vp vl vs lv : Value) (a : VA) (hV : VX w B gv x) (hX : XM w B x vp vl vs) (hk : a.k.tmod 8 = 5) (hB : B ≤ w.heap.size) (hx3 : x.k ≠ 3) (hx4 : x.k ≠ 4) :
    Calls Tryz.prog 19 #[ptr gv, vlV x vp vl vs, .agg (a.cells lv).toArray] w (DoPost w B gv x) := by
  go_enter Tryz.func19, Tryz.ntmps19
  go_wp2_with (first
    | ((with_reducible refine wl_box (o := ⟨some 4, _, _, _, _, _⟩) rfl 26 (.tmp 1) _ (vlC x vp vl vs) rfl rfl rfl ?_); intro g4 w1 r4 p4 l4 b1)
    | ((with_reducible refine wl_box (o := ⟨some 5, _, _, _, _, _⟩) rfl 54 (.tmp 2) _ (a.cells lv) rfl rfl rfl ?_); intro g5 w2 r5 p5 l5 b2; have r42 := r4.later b2)
    | ((with_reducible refine wl_alloc (o := ⟨some 6, _, _, _, _, _⟩) rfl 26 _ [.int .i64 0, encStr [], nilS, nilS, nilS] rfl zeroVl rfl ?_); intro g6 w3 r6 p6 l6 b3; have r53 := r5.later b3; have r43 := r42.later b3; have d0 := r53.cell (j := 0) rfl; have d1 := r53.cell (j := 1) rfl; have d2 := r53.cell (j := 2) rfl; have d4 := r53.cell (j := 4) rfl; have c0 := r43.cell (j := 0) rfl; have c3 := r43.cell (j := 3) rfl; have c4 := r43.cell (j := 4) rfl; have d3 := r53.cell (j := 3) rfl))
  have B3 := (b1.trans (b2.mono b1.size)).trans (b3.mono (b1.trans (b2.mono b1.size)).size)
  have hB3 : B ≤ w3.heap.size := Nat.le_trans hB B3.size
  have g4B : B ≤ g4 := Nat.le_trans hB p4
  have g6w : w.heap.size ≤ g6 := Nat.le_trans (b1.trans (b2.mono b1.size)).size p6
  have n46 : g4 ≠ g6 := Nat.ne_of_lt (Nat.lt_of_lt_of_le r42.lt p6)
  have n45 : g4 ≠ g5 := Nat.ne_of_lt (Nat.lt_of_lt_of_le r4.lt p5)
  have n56 : g5 ≠ g6 := Nat.ne_of_lt (Nat.lt_of_lt_of_le r5.lt p6)
  have hX3 := hX.later B3
  have hV3 := hV.later B3
  clear r4 r5 r42 b1 b2 b3 l4 l5 l6 hV hX
  obtain ⟨hm, lw, sm, zp, row, hm2, sm4, zp5⟩ := hV3.row
  replace hV3 := hide hV3
  have e3 : decide (x.k = 3) = false := decide_eq_false hx3
  have f3 : (x.k == 3) = false := beq_eq_false_iff_ne.2 hx3
  have e4 : decide (x.k = 4) = false := decide_eq_false hx4
  have f4 : (x.k == 4) = false := beq_eq_false_iff_ne.2 hx4
  refine (setItems_no w3 (ptr gv) x.k x.t hm lw sm zp lv (.inr ⟨gv, rfl, row⟩) hx3 hx4).mono ?_
  rintro e w4 ⟨rfl, b4⟩
  have BT4 := TrnB.of b4 hB3
  have r44 := BT4.1.row r43 (.inr (.inr (.inr (.inl rfl))))
  have r54 := BT4.1.row r53 (.inr (.inr (.inr (.inr rfl))))
  have r64 := BT4.1.row r6 (.inr (.inr (.inr (.inl rfl))))
  have hX4 := hX3.trn BT4.1
  have d0 := r54.cell (j := 0) rfl
  have d1 := r54.cell (j := 1) rfl
  have d2 := r54.cell (j := 2) rfl
  have d4 := r54.cell (j := 4) rfl
  have c0 := r44.cell (j := 0) rfl
  replace BT4 := (TrnB.of B3 hB).trans BT4
  have g4w : w.heap.size ≤ g4 := p4
  have hVe : VX w4 B gv x := hV3.out.later b4
  have hXe : XM w4 B x vp vl vs := hX4
  have BTe : TrnB B w w4 := BT4
  have r4e := r44
  have r6e := r64
  have onee := hXe.one
  replace hVe := hide hVe
  replace hXe := hide hXe
  replace BTe := hide BTe
  go_wp2_with (first
    | (with_reducible refine wl_load_row (o := ⟨some 182, _, _, _, _, _⟩) rfl 26 (.tmp 4) g4 26 (vlC x vp vl vs) _ rfl rfl r4e Tryz.underlying26 rfl (by kernel_rfl) ?_)
    | ((with_reducible refine wl_store_row rfl 26 (.tmp 6) (.tmp 182) g6 26 _ (vlC x vp vl vs) rfl rfl rfl r6e (by kernel_rfl) rfl onee ?_); intro we re oe))
  refine bodyPost_ret (v := .tuple #[vlV x vp vl vs, .bool true]) ?_ rfl ⟨_, _, _, rfl, vx_only hVe.out oe r6e, hXe.out.only oe r6e, trn_new BTe.out oe g6w hB⟩
  exact results_rt2 Tryz.results19 _ _ g6 26 _ _ _ rfl re Tryz.underlying26 rfl (by kernel_rfl) rfl
end Go.Proofs.YtpbkejmffddelaaGreat

/-
  The law's 'do': CutField. Own work.
-/
namespace Go.Proofs.YtpbkejmffddelaaGreat
open Go.RowKit Go.Shelf Go.Maps
/-- What is between where one call turns the value: by its bit. -/
def JT (B : Nat) (w0 : World) (D0 D1 : World → Prop) (bs : List Bool) (_vs : List Value) (w : World) : Prop :=
  TrnB B w0 w ∧ (bs.getD 0 false = false → D0 w) ∧ (bs.getD 0 false = true → D1 w)
section
variable {B : Nat} {w0 w w' : World} {D0 D1 : World → Prop} {bs bs' : List Bool} {vs vs' : List Value}
theorem TrnB.rfl' (B : Nat) (w : World) : TrnB B w w.drew := ⟨⟨rfl, rfl, rfl, Nat.le_refl _, fun _ _ _ _ _ _ => rfl⟩, ⟨rfl, rfl, rfl, Nat.le_refl _, fun _ _ => rfl⟩⟩
theorem JT.start (h0 : D0 w.drew) (hb : bs.getD 0 false = false) : JT B w D0 D1 bs vs w.drew := ⟨.rfl' B w, fun _ => h0, fun h => absurd (hb.symm.trans h) (by decide)⟩
theorem JT.turned (h : JT B w0 D0 D1 bs vs w) (t : TrnB B w w') (d : D1 w') (c : bs'.getD 0 false = true) : JT B w0 D0 D1 bs' vs' w' := ⟨h.1.trans t, fun h => absurd (c.symm.trans h) (by decide), fun _ => d⟩
theorem JT.kept (h : JT B w0 D0 D1 bs vs w) (b : Below w.heap.size w w') (hB : B ≤ w0.heap.size) (m0 : D0 w → D0 w') (m1 : D1 w → D1 w') (e : bs'.getD 0 false = bs.getD 0 false) : JT B w0 D0 D1 bs' vs' w' :=
  ⟨h.1.trans (TrnB.of b (Nat.le_trans hB h.1.1.size)), fun h0 => m0 (h.2.1 (e.symm.trans h0)), fun h1 => m1 (h.2.2 (e.symm.trans h1))⟩
end
theorem eqBool (c : Bool) (w : World) : (Op.equal 4 (.bool c) (.bool c)).run Tryz.prog w = .ok true w := by cases c <;> kernel_rfl
/-- A place that is told, or is not. -/
def RfV (c : Bool) (v : Value) : Prop := ∃ r, v = .int .i64 r ∧ decide (0 ≤ r) = c
theorem FieldR.geq {ps : List Pr} {f : Nm} {r : Int} (h : FieldR ps f r) : decide (0 ≤ r) = (prAt ps f).isSome := by
  rcases h with ⟨rfl, h⟩ | ⟨i, q, rfl, _, h⟩
  · rw [h]; rfl
  · rw [h]; simp
theorem Held.of {w : World} {gv : Nat} {k : Int} {t : Nm} {hm sm : Option Nat} {lv zp : Value} (h : VRow w gv k t hm lv sm zp) : Held w (ptr gv) k t hm lv sm zp := .inr ⟨gv, rfl, h⟩
def SCt2 (gv g4 g5 : Nat) (a : VA) (c : Bool) (ps : List Pr) (vp vl vs : Value) (opn : Nat) (v : Value) : Prop :=
  match opn with
  | 0 => v = ptr gv
  | 1 | 9 => v = .pointer (some ⟨g5, 1, none⟩)
  | 2 | 10 => v = encStr a.a
  | 3 | 12 | 13 => v = .bool c
  | 4 => v = .pointer (some ⟨g4, 0, none⟩)
  | 5 => v = .int .i64 2
  | 6 | 7 | 14 | 15 => v = .bool true
  | 8 => v = .agg (vlC (⟨2, [], ps, [], []⟩ : Vl) vp vl vs).toArray
  | 11 => RfV c v
  | _ => True

set_option maxRecDepth 100000 in
set_option maxHeartbeats 1000000 in
theorem do_cut2 (w : World) (B gv : Nat) (mb : Nat) (ps : List Pr) (vp vl vs lv : Value) (a : VA) (hV : V2 w B gv mb ps) (hX : XM w B (⟨2, [], ps, [], []⟩ : Vl) vp vl vs) (hk : a.k.tmod 8 = 2) (hB : B ≤ w.heap.size) (hf : a.a.length ≤ maxLen) (hl : ps.length ≤ 999999) :
    Calls Tryz.prog 19 #[ptr gv, vlV (⟨2, [], ps, [], []⟩ : Vl) vp vl vs, .agg (a.cells lv).toArray] w (DoPost w B gv (⟨2, [], cutF ps a.a, [], []⟩ : Vl)) := by
  go_enter Tryz.func19, Tryz.ntmps19
  go_wp2_with (first
    | ((with_reducible refine wl_box (o := ⟨some 4, _, _, _, _, _⟩) rfl 26 (.tmp 1) _ (vlC (⟨2, [], ps, [], []⟩ : Vl) vp vl vs) rfl rfl rfl ?_); intro g4 w1 r4 p4 l4 b1)
    | ((with_reducible refine wl_box (o := ⟨some 5, _, _, _, _, _⟩) rfl 54 (.tmp 2) _ (a.cells lv) rfl rfl rfl ?_); intro g5 w2 r5 p5 l5 b2; have r42 := r4.later b2)
    | ((with_reducible refine wl_alloc (o := ⟨some 6, _, _, _, _, _⟩) rfl 26 _ [.int .i64 0, encStr [], nilS, nilS, nilS] rfl zeroVl rfl ?_); intro g6 w3 r6 p6 l6 b3; have r53 := r5.later b3; have r43 := r42.later b3; have d0 := r53.cell (j := 0) rfl; have d1 := r53.cell (j := 1) rfl; have d2 := r53.cell (j := 2) rfl; have d4 := r53.cell (j := 4) rfl; have c0 := r43.cell (j := 0) rfl; have c3 := r43.cell (j := 3) rfl; have c4 := r43.cell (j := 4) rfl; have d3 := r53.cell (j := 3) rfl))
  have B3 := (b1.trans (b2.mono b1.size)).trans (b3.mono (b1.trans (b2.mono b1.size)).size)
  have hB3 : B ≤ w3.heap.size := Nat.le_trans hB B3.size
  have g4B : B ≤ g4 := Nat.le_trans hB p4
  have g6w : w.heap.size ≤ g6 := Nat.le_trans (b1.trans (b2.mono b1.size)).size p6
  have n46 : g4 ≠ g6 := Nat.ne_of_lt (Nat.lt_of_lt_of_le r42.lt p6)
  have n45 : g4 ≠ g5 := Nat.ne_of_lt (Nat.lt_of_lt_of_le r4.lt p5)
  have n56 : g5 ≠ g6 := Nat.ne_of_lt (Nat.lt_of_lt_of_le r5.lt p6)
  have hX3 := hX.later B3
  have hV3 := hV.later B3
  clear r4 r5 r42 b1 b2 b3 l4 l5 l6 hV hX
  obtain ⟨c, hc⟩ : ∃ c, (prAt ps a.a).isSome = c := ⟨_, rfl⟩
  have HC : ∀ wz : World, V2 wz B gv mb ps → B ≤ wz.heap.size → Calls Tryz.prog 30 #[ptr gv, encStr a.a] wz fun e w' => e = .returned (.bool c) ∧ V2 w' B gv mb (cutF ps a.a) ∧ TrnB B wz w' := fun wz h hz => by rw [← hc]; exact cutField_2 wz B gv mb ps a.a h hf hz
  have HR : ∀ wz : World, TrnB B w3 wz → Calls Tryz.prog 68 #[vlV (⟨2, [], ps, [], []⟩ : Vl) vp vl vs, encStr a.a] wz fun e w' => (∃ r, e = .returned (.int .i64 r) ∧ decide (0 ≤ r) = c) ∧ Below wz.heap.size wz w' := fun wz h => by
    refine (rfield_any wz (⟨2, [], ps, [], []⟩ : Vl) vp vl vs a.a (OwnP.slv (hX3.trn h.1).p) (by show ps.length ≤ _; omega)).mono ?_
    rintro e w' ⟨⟨r, rfl, hr⟩, hb⟩
    exact ⟨⟨r, rfl, by rw [← hc]; exact hr.geq⟩, hb⟩
  replace HC := hide HC
  replace HR := hide HR
  clear d0 d1 d2 d3 d4 c0 c3 c4
  rename_i K6 hK6
  refine wp_region_valsS [3, 11] (SCt2 gv g4 g5 a c ps vp vl vs) (JT B w3 (fun w => V2 w B gv mb ps) (fun w => V2 w B gv mb (cutF ps a.a))) (by kernel_rfl) (by kernel_rfl) (by kernel_rfl) (by kernel_rfl) (JT.start (hV3.later (Below.refl _ _).drew) rfl) ?obs ?he
  case obs =>
    refine ⟨?_, ?_, ?_, ?_, ?_, ?_, ?_, ?_, ?_, ?_, ?_, ?_, ?_, ?_, ?_, ?_, trivial⟩
    · refine .inl ⟨.inl rfl, ?_⟩
      exact .inl ⟨by kernel_rfl, fun L a1 w1 n h => ⟨_, rfl, run_move (.tmp 0) rfl (h.var n 0 (by kernel_rfl))⟩⟩
    · refine .inl ⟨.inl rfl, ?_⟩
      refine .inl ⟨by kernel_rfl, fun L a1 w1 n h => ⟨.pointer (some ⟨g5, 1, none⟩), rfl, ?_⟩⟩
      have e0 : a1.eval (.tmp 5) = _ := h.var n 5 (by kernel_rfl)
      unfold execOp
      simp only [e0]
      go_simp
    · refine .inl ⟨.inl rfl, ?_⟩
      exact .inl ⟨by kernel_rfl, fun L a1 w1 n h => ⟨_, rfl, run_loadA 9 (.tmp 69) ⟨g5, 1, none⟩ rfl Tryz.isAgg9 (h.dep n 1 69 (by kernel_rfl) rfl) (((h.inv.1.1.row r53 (.inr (.inr (.inr (.inr rfl)))))).cell (j := 1) (v := encStr a.a) rfl)⟩⟩
    · refine .inl ⟨.inl rfl, ?_⟩
      refine .inr fun L a1 w1 n h K hK => ?_
      have e0 : a1.eval (.tmp 68) = ptr gv := h.dep n 0 68 (by kernel_rfl) rfl
      have e1 : a1.eval (.tmp 70) = encStr a.a := h.dep n 2 70 (by kernel_rfl) rfl
      refine st_call 30 _ _ #[ptr gv, encStr a.a] rfl Tryz.call30 ?_ (HC.out w1 (h.inv.2.1 ((bits_at rfl).trans n.not_yet)) (Nat.le_trans hB3 h.inv.1.1.size)) ?_
      · simp only [List.map_toArray, List.map_cons, List.map_nil, e0, e1]
      · rintro e w3 ⟨rfl, hV9, T9⟩
        exact ⟨_, rfl, hK _ w3 rfl (JT.turned h.inv T9 hV9 rfl)⟩
    · refine .inl ⟨.inl rfl, ?_⟩
      refine .inl ⟨by kernel_rfl, fun L a1 w1 n h => ⟨.pointer (some ⟨g4, 0, none⟩), rfl, ?_⟩⟩
      have e0 : a1.eval (.tmp 4) = _ := h.var n 4 (by kernel_rfl)
      unfold execOp
      simp only [e0]
      go_simp
    · refine .inl ⟨.inl rfl, ?_⟩
      exact .inl ⟨by kernel_rfl, fun L a1 w1 n h => ⟨_, rfl, run_loadA 3 (.tmp 72) ⟨g4, 0, none⟩ rfl Tryz.isAgg3 (h.dep n 4 72 (by kernel_rfl) rfl) (((h.inv.1.1.row r43 (.inr (.inr (.inr (.inl rfl)))))).cell (j := 0) (v := .int .i64 2) rfl)⟩⟩
    · refine .inl ⟨.inl rfl, ?_⟩
      exact .inl ⟨by kernel_rfl, fun L a1 w1 n h => ⟨_, rfl, run_eqlI (.tmp 73) (.const (.int .i64 2)) rfl (h.dep n 5 73 (by kernel_rfl) rfl) rfl rfl⟩⟩
    · refine .inl ⟨.inl rfl, ?_⟩
      exact .inl ⟨by kernel_rfl, fun L a1 w1 n h => ⟨_, rfl, run_move (.tmp 74) rfl (h.dep n 6 74 (by kernel_rfl) rfl)⟩⟩
    · refine .inl ⟨.inr ⟨7, true, 75, rfl, by kernel_rfl, rfl, by simp, fun v h => h⟩, ?_⟩
      exact .inl ⟨by kernel_rfl, fun L a1 w1 n h => ⟨_, rfl, run_loadRow 26 (.tmp 4) g4 26 _ _ rfl (h.var n 4 (by kernel_rfl)) (h.inv.1.1.row r43 (.inr (.inr (.inr (.inl rfl))))) Tryz.underlying26 rfl (by kernel_rfl)⟩⟩
    · refine .inl ⟨.inr ⟨7, true, 75, rfl, by kernel_rfl, rfl, by simp, fun v h => h⟩, ?_⟩
      refine .inl ⟨by kernel_rfl, fun L a1 w1 n h => ⟨.pointer (some ⟨g5, 1, none⟩), rfl, ?_⟩⟩
      have e0 : a1.eval (.tmp 5) = _ := h.var n 5 (by kernel_rfl)
      unfold execOp
      simp only [e0]
      go_simp
    · refine .inl ⟨.inr ⟨7, true, 75, rfl, by kernel_rfl, rfl, by simp, fun v h => h⟩, ?_⟩
      exact .inl ⟨by kernel_rfl, fun L a1 w1 n h => ⟨_, rfl, run_loadA 9 (.tmp 77) ⟨g5, 1, none⟩ rfl Tryz.isAgg9 (h.dep n 9 77 (by kernel_rfl) rfl) (((h.inv.1.1.row r53 (.inr (.inr (.inr (.inr rfl)))))).cell (j := 1) (v := encStr a.a) rfl)⟩⟩
    · refine .inl ⟨.inr ⟨7, true, 75, rfl, by kernel_rfl, rfl, by simp, fun v h => h⟩, ?_⟩
      refine .inr fun L a1 w1 n h K hK => ?_
      have e0 : a1.eval (.tmp 76) = vlV (⟨2, [], ps, [], []⟩ : Vl) vp vl vs := h.dep n 8 76 (by kernel_rfl) rfl
      have e1 : a1.eval (.tmp 78) = encStr a.a := h.dep n 10 78 (by kernel_rfl) rfl
      refine st_call 68 _ _ #[vlV (⟨2, [], ps, [], []⟩ : Vl) vp vl vs, encStr a.a] rfl Tryz.call68 ?_ (HR.out w1 h.inv.1) ?_
      · simp only [List.map_toArray, List.map_cons, List.map_nil, e0, e1]
      · rintro e w3 ⟨⟨r9, rfl, hr9⟩, b9⟩
        exact ⟨_, rfl, hK _ w3 ⟨r9, rfl, hr9⟩ (JT.kept h.inv b9 hB3 (fun d => d.later b9) (fun d => d.later b9) (bits_at rfl).symm)⟩
    · refine .inl ⟨.inr ⟨7, true, 75, rfl, by kernel_rfl, rfl, by simp, fun v h => h⟩, ?_⟩
      refine .inl ⟨by kernel_rfl, fun L a1 w1 n h => ?_⟩
      obtain ⟨r9, hv9, hr9⟩ := (h.dep n 11 79 (by kernel_rfl) rfl)
      exact ⟨_, rfl, run_geqI (.tmp 79) (.const (.int .i64 0)) rfl hv9 rfl hr9⟩
    · refine .inl ⟨.inl rfl, ?_⟩
      exact .inl ⟨by kernel_rfl, fun L a1 w1 n h => ⟨_, rfl, run_pickT (.tmp 75) _ _ rfl (h.dep n 7 75 (by kernel_rfl) rfl) (h.dep n 12 80 (by kernel_rfl) rfl)⟩⟩
    · refine .inl ⟨.inl rfl, ?_⟩
      exact .inl ⟨by kernel_rfl, fun L a1 w1 n h => ⟨_, rfl, run_eqlB (.tmp 71) (.tmp 81) _ _ rfl (h.dep n 3 71 (by kernel_rfl) rfl) (h.dep n 13 81 (by kernel_rfl) rfl) (eqBool c)⟩⟩
    · refine .inl ⟨.inl rfl, ?_⟩
      exact .inl ⟨by kernel_rfl, fun L a1 w1 n h => ⟨_, rfl, run_assign (.tmp 82) rfl (h.dep n 14 82 (by kernel_rfl) rfl)⟩⟩

  case he =>
    intro V w5 hV2 hJ
    have h15 : V 15 = .bool true := hV2 15 8 rfl
    have BT5 := hJ.1
    have hV5 := hJ.2.2 rfl
    clear hV2 hJ
    simp only [putOps, List.setIfInBounds_toArray, List.set_cons_succ, List.set_cons_zero, Nat.reduceAdd]
    rw [h15]
    refine hK6 _ _ ?_
    have r45 := BT5.1.row r43 (.inr (.inr (.inr (.inl rfl))))
    have r55 := BT5.1.row r53 (.inr (.inr (.inr (.inr rfl))))
    have r65 := BT5.1.row r6 (.inr (.inr (.inr (.inl rfl))))
    have hX5 := hX3.trn BT5.1
    have d0 := r55.cell (j := 0) rfl
    have d1 := r55.cell (j := 1) rfl
    have d2 := r55.cell (j := 2) rfl
    have d3 := r55.cell (j := 3) rfl
    have d4 := r55.cell (j := 4) rfl
    have c0 := r45.cell (j := 0) rfl
    replace BT5 := (TrnB.of B3 hB).trans BT5
    have hB5 := Nat.le_trans hB BT5.2.size
    have hw5 := BT5.1.size
    generalize V 0 = q0
    generalize V 1 = q1
    generalize V 2 = q2
    generalize V 3 = q3
    generalize V 4 = q4
    generalize V 5 = q5
    generalize V 6 = q6
    generalize V 7 = q7
    generalize V 8 = q8
    generalize V 9 = q9
    generalize V 10 = q10
    generalize V 11 = q11
    generalize V 12 = q12
    generalize V 13 = q13
    generalize V 14 = q14
    clear h15 HC HR
    go_wp2_with (first
      | (with_reducible refine wl_load_row (o := ⟨some 83, _, _, _, _, _⟩) rfl 26 (.tmp 4) g4 26 (vlC (⟨2, [], ps, [], []⟩ : Vl) vp vl vs) _ rfl rfl r45 Tryz.underlying26 rfl (by kernel_rfl) ?_))
    refine (rcutF_any w5 (⟨2, [], ps, [], []⟩ : Vl) vp vl vs a.a (OwnP.slv hX5.p) hX5.one (by show ps.length ≤ _; omega)).mono ?_
    rintro e w6 ⟨v6, rfl, own6, b6⟩
    have BT6 := TrnB.of b6 hB5
    clear d0 d1 d2 d3 d4 c0
    have r46 := BT6.1.row r45 (.inr (.inr (.inr (.inl rfl))))
    have r56 := BT6.1.row r55 (.inr (.inr (.inr (.inr rfl))))
    have r66 := BT6.1.row r65 (.inr (.inr (.inr (.inl rfl))))
    have hX6 := hX5.trn BT6.1
    have d0 := r56.cell (j := 0) rfl
    have d1 := r56.cell (j := 1) rfl
    have d2 := r56.cell (j := 2) rfl
    have d3 := r56.cell (j := 3) rfl
    have d4 := r56.cell (j := 4) rfl
    have c0 := r46.cell (j := 0) rfl
    replace BT6 := BT5.trans BT6
    have hB6 := Nat.le_trans hB BT6.2.size
    have hw6 := BT6.1.size
    have hV6 := hV5.later b6
    have one5 : ∀ u ∈ vlC (⟨2, [], cutF ps a.a, [], []⟩ : Vl) v6 vl vs, u.oneCell' = true := one_vl (x := (⟨2, [], cutF ps a.a, [], []⟩ : Vl)) (vp := vp) (vl := vl) (vs := vs) (own_one own6) (own_one hX6.l) (own_one hX6.s)
    go_wp2_with (first
      | ((with_reducible refine wl_store_row rfl 26 (.tmp 4) (.tmp 86) g4 26 (vlC (⟨2, [], ps, [], []⟩ : Vl) vp vl vs) (vlC (⟨2, [], cutF ps a.a, [], []⟩ : Vl) v6 vl vs) rfl rfl rfl r46 (by kernel_rfl) rfl one5 ?_); intro w7 r47 o7; have r67 := r66.only o7 n46.symm; have r57 := r56.only o7 n45.symm; clear d0 d1 d2 d3 d4 c0; have d0 := r57.cell (j := 0) rfl; have d1 := r57.cell (j := 1) rfl; have d2 := r57.cell (j := 2) rfl; have d3 := r57.cell (j := 3) rfl; have d4 := r57.cell (j := 4) rfl; have c0 := r47.cell (j := 0) rfl; have hVe : VX w7 B gv (⟨2, [], cutF ps a.a, [], []⟩ : Vl) := vx_only (.k2 _ _ hV6) o7 r46; have hXe : XM w7 B (⟨2, [], cutF ps a.a, [], []⟩ : Vl) v6 vl vs := XM.only (x := (⟨2, [], cutF ps a.a, [], []⟩ : Vl)) (w := w6) ⟨own_low own6 hB5, hX6.l, hX6.s⟩ o7 r46; have BTe : TrnB B w w7 := trn_new BT6 o7 p4 hB; have r4e := r47; have r6e := r67; have onee := hXe.one; replace hVe := hide hVe; replace hXe := hide hXe; replace BTe := hide BTe)
      | (with_reducible refine wl_load_row (o := ⟨some 182, _, _, _, _, _⟩) rfl 26 (.tmp 4) g4 26 (vlC (⟨2, [], cutF ps a.a, [], []⟩ : Vl) v6 vl vs) _ rfl rfl r4e Tryz.underlying26 rfl (by kernel_rfl) ?_)
      | ((with_reducible refine wl_store_row rfl 26 (.tmp 6) (.tmp 182) g6 26 _ (vlC (⟨2, [], cutF ps a.a, [], []⟩ : Vl) v6 vl vs) rfl rfl rfl r6e (by kernel_rfl) rfl onee ?_); intro we re oe))
    refine bodyPost_ret (v := .tuple #[vlV (⟨2, [], cutF ps a.a, [], []⟩ : Vl) v6 vl vs, .bool true]) ?_ rfl ⟨_, _, _, rfl, vx_only hVe.out oe r6e, hXe.out.only oe r6e, trn_new BTe.out oe g6w hB⟩
    exact results_rt2 Tryz.results19 _ _ g6 26 _ _ _ rfl re Tryz.underlying26 rfl (by kernel_rfl) rfl
end Go.Proofs.YtpbkejmffddelaaGreat

/-
  The law's 'do': CutField, Cut. Own work.
-/
namespace Go.Proofs.YtpbkejmffddelaaGreat
open Go.RowKit Go.Shelf Go.Maps
def SCf2 (gv g4 g5 : Nat) (a : VA) (x : Vl) (opn : Nat) (v : Value) : Prop :=
  match opn with
  | 0 => v = ptr gv
  | 1 => v = .pointer (some ⟨g5, 1, none⟩)
  | 2 => v = encStr a.a
  | 3 | 6 | 7 | 13 => v = .bool false
  | 4 => v = .pointer (some ⟨g4, 0, none⟩)
  | 5 => v = .int .i64 x.k
  | 8 | 9 | 10 | 11 | 12 => v = undef
  | 14 | 15 => v = .bool true
  | _ => True
def SCt4 (gv g4 g5 : Nat) (a : VA) (c : Bool) (us : List Nm) (vp vl vs : Value) (opn : Nat) (v : Value) : Prop :=
  match opn with
  | 0 => v = ptr gv
  | 1 | 10 => v = .pointer (some ⟨g5, 1, none⟩)
  | 2 | 11 => v = encStr a.a
  | 3 | 12 | 13 => v = .bool c
  | 4 => v = .pointer (some ⟨g4, 0, none⟩)
  | 5 => v = .int .i64 4
  | 6 | 7 | 14 | 15 => v = .bool true
  | 8 => v = .pointer (some ⟨g4, 3, none⟩)
  | 9 => v = vl
  | _ => True
def SCf4 (gv g4 g5 : Nat) (a : VA) (x : Vl) (opn : Nat) (v : Value) : Prop :=
  match opn with
  | 0 => v = ptr gv
  | 1 => v = .pointer (some ⟨g5, 1, none⟩)
  | 2 => v = encStr a.a
  | 3 | 6 | 7 | 13 => v = .bool false
  | 4 => v = .pointer (some ⟨g4, 0, none⟩)
  | 5 => v = .int .i64 x.k
  | 8 | 9 | 10 | 11 | 12 => v = undef
  | 14 | 15 => v = .bool true
  | _ => True

set_option maxRecDepth 100000 in
set_option maxHeartbeats 1000000 in
theorem do_cutF0 (w : World) (B gv : Nat) (x : Vl) (vp vl vs lv : Value) (a : VA) (hV : VX w B gv x) (hX : XM w B x vp vl vs) (hk : a.k.tmod 8 = 2) (hB : B ≤ w.heap.size) (hf : a.a.length ≤ maxLen) (hx2 : x.k ≠ 2) :
    Calls Tryz.prog 19 #[ptr gv, vlV x vp vl vs, .agg (a.cells lv).toArray] w (DoPost w B gv (⟨x.k, x.t, cutF x.ps a.a, x.ls, x.ss⟩ : Vl)) := by
  go_enter Tryz.func19, Tryz.ntmps19
  go_wp2_with (first
    | ((with_reducible refine wl_box (o := ⟨some 4, _, _, _, _, _⟩) rfl 26 (.tmp 1) _ (vlC x vp vl vs) rfl rfl rfl ?_); intro g4 w1 r4 p4 l4 b1)
    | ((with_reducible refine wl_box (o := ⟨some 5, _, _, _, _, _⟩) rfl 54 (.tmp 2) _ (a.cells lv) rfl rfl rfl ?_); intro g5 w2 r5 p5 l5 b2; have r42 := r4.later b2)
    | ((with_reducible refine wl_alloc (o := ⟨some 6, _, _, _, _, _⟩) rfl 26 _ [.int .i64 0, encStr [], nilS, nilS, nilS] rfl zeroVl rfl ?_); intro g6 w3 r6 p6 l6 b3; have r53 := r5.later b3; have r43 := r42.later b3; have d0 := r53.cell (j := 0) rfl; have d1 := r53.cell (j := 1) rfl; have d2 := r53.cell (j := 2) rfl; have d4 := r53.cell (j := 4) rfl; have c0 := r43.cell (j := 0) rfl; have c3 := r43.cell (j := 3) rfl; have c4 := r43.cell (j := 4) rfl; have d3 := r53.cell (j := 3) rfl))
  have B3 := (b1.trans (b2.mono b1.size)).trans (b3.mono (b1.trans (b2.mono b1.size)).size)
  have hB3 : B ≤ w3.heap.size := Nat.le_trans hB B3.size
  have g4B : B ≤ g4 := Nat.le_trans hB p4
  have g6w : w.heap.size ≤ g6 := Nat.le_trans (b1.trans (b2.mono b1.size)).size p6
  have n46 : g4 ≠ g6 := Nat.ne_of_lt (Nat.lt_of_lt_of_le r42.lt p6)
  have n45 : g4 ≠ g5 := Nat.ne_of_lt (Nat.lt_of_lt_of_le r4.lt p5)
  have n56 : g5 ≠ g6 := Nat.ne_of_lt (Nat.lt_of_lt_of_le r5.lt p6)
  have hX3 := hX.later B3
  have hV3 := hV.later B3
  clear r4 r5 r42 b1 b2 b3 l4 l5 l6 hV hX
  have hk2 := hide (show decide (x.k = 2) = false from decide_eq_false hx2)
  have h0 : x.ps = [] := hV3.ps0 hx2
  have hy : (⟨x.k, x.t, cutF x.ps a.a, x.ls, x.ss⟩ : Vl) = x := by
    cases x
    simp only at h0
    subst h0
    rfl
  have HC : ∀ wz : World, VX wz B gv x → B ≤ wz.heap.size → Calls Tryz.prog 30 #[ptr gv, encStr a.a] wz fun e w' => e = .returned (.bool false) ∧ VX w' B gv x ∧ TrnB B wz w' := fun wz h hz => by
    obtain ⟨hm, lw, sm, zp, row, hm2, sm4, zp5⟩ := h.row
    obtain rfl := hm2 hx2
    exact (cutField_nil (w := wz) (v := ptr gv) (k := x.k) (t := x.t) (lv := lw) (sm := sm) (zp := zp) a.a hf (.of row)).mono fun e w' ⟨he, hb⟩ => ⟨he, h.later hb, TrnB.of hb hz⟩
  replace HC := hide HC
  replace h0 := hide h0
  replace hy := hide hy
  clear d0 d1 d2 d3 d4 c0 c3 c4
  rename_i K6 hK6
  refine wp_region_valsS [3] (SCf2 gv g4 g5 a x) (JT B w3 (fun w => VX w B gv x) (fun w => VX w B gv x)) (by kernel_rfl) (by kernel_rfl) (by kernel_rfl) (by kernel_rfl) (JT.start (hV3.later (Below.refl _ _).drew) rfl) ?obs ?he
  case obs =>
    refine ⟨?_, ?_, ?_, ?_, ?_, ?_, ?_, ?_, ?_, ?_, ?_, ?_, ?_, ?_, ?_, ?_, trivial⟩
    · refine .inl ⟨.inl rfl, ?_⟩
      exact .inl ⟨by kernel_rfl, fun L a1 w1 n h => ⟨_, rfl, run_move (.tmp 0) rfl (h.var n 0 (by kernel_rfl))⟩⟩
    · refine .inl ⟨.inl rfl, ?_⟩
      refine .inl ⟨by kernel_rfl, fun L a1 w1 n h => ⟨.pointer (some ⟨g5, 1, none⟩), rfl, ?_⟩⟩
      have e0 : a1.eval (.tmp 5) = _ := h.var n 5 (by kernel_rfl)
      unfold execOp
      simp only [e0]
      go_simp
    · refine .inl ⟨.inl rfl, ?_⟩
      exact .inl ⟨by kernel_rfl, fun L a1 w1 n h => ⟨_, rfl, run_loadA 9 (.tmp 69) ⟨g5, 1, none⟩ rfl Tryz.isAgg9 (h.dep n 1 69 (by kernel_rfl) rfl) (((h.inv.1.1.row r53 (.inr (.inr (.inr (.inr rfl)))))).cell (j := 1) (v := encStr a.a) rfl)⟩⟩
    · refine .inl ⟨.inl rfl, ?_⟩
      refine .inr fun L a1 w1 n h K hK => ?_
      have e0 : a1.eval (.tmp 68) = ptr gv := h.dep n 0 68 (by kernel_rfl) rfl
      have e1 : a1.eval (.tmp 70) = encStr a.a := h.dep n 2 70 (by kernel_rfl) rfl
      refine st_call 30 _ _ #[ptr gv, encStr a.a] rfl Tryz.call30 ?_ (HC.out w1 (h.inv.2.1 ((bits_at rfl).trans n.not_yet)) (Nat.le_trans hB3 h.inv.1.1.size)) ?_
      · simp only [List.map_toArray, List.map_cons, List.map_nil, e0, e1]
      · rintro e w3 ⟨rfl, hV9, T9⟩
        exact ⟨_, rfl, hK _ w3 rfl (JT.turned h.inv T9 hV9 rfl)⟩
    · refine .inl ⟨.inl rfl, ?_⟩
      refine .inl ⟨by kernel_rfl, fun L a1 w1 n h => ⟨.pointer (some ⟨g4, 0, none⟩), rfl, ?_⟩⟩
      have e0 : a1.eval (.tmp 4) = _ := h.var n 4 (by kernel_rfl)
      unfold execOp
      simp only [e0]
      go_simp
    · refine .inl ⟨.inl rfl, ?_⟩
      exact .inl ⟨by kernel_rfl, fun L a1 w1 n h => ⟨_, rfl, run_loadA 3 (.tmp 72) ⟨g4, 0, none⟩ rfl Tryz.isAgg3 (h.dep n 4 72 (by kernel_rfl) rfl) (((h.inv.1.1.row r43 (.inr (.inr (.inr (.inl rfl)))))).cell (j := 0) (v := .int .i64 x.k) rfl)⟩⟩
    · refine .inl ⟨.inl rfl, ?_⟩
      exact .inl ⟨by kernel_rfl, fun L a1 w1 n h => ⟨_, rfl, run_eqlI (.tmp 73) (.const (.int .i64 2)) rfl (h.dep n 5 73 (by kernel_rfl) rfl) rfl hk2.out⟩⟩
    · refine .inl ⟨.inl rfl, ?_⟩
      exact .inl ⟨by kernel_rfl, fun L a1 w1 n h => ⟨_, rfl, run_move (.tmp 74) rfl (h.dep n 6 74 (by kernel_rfl) rfl)⟩⟩
    · exact .inr ⟨⟨7, true, 75, rfl, by kernel_rfl, rfl, by simp, fun v h => by rw [show v = .bool false from h]; first | exact ne_tf | exact ne_ft | exact ne_undef _⟩, by kernel_rfl, rfl⟩
    · exact .inr ⟨⟨7, true, 75, rfl, by kernel_rfl, rfl, by simp, fun v h => by rw [show v = .bool false from h]; first | exact ne_tf | exact ne_ft | exact ne_undef _⟩, by kernel_rfl, rfl⟩
    · exact .inr ⟨⟨7, true, 75, rfl, by kernel_rfl, rfl, by simp, fun v h => by rw [show v = .bool false from h]; first | exact ne_tf | exact ne_ft | exact ne_undef _⟩, by kernel_rfl, rfl⟩
    · exact .inr ⟨⟨7, true, 75, rfl, by kernel_rfl, rfl, by simp, fun v h => by rw [show v = .bool false from h]; first | exact ne_tf | exact ne_ft | exact ne_undef _⟩, by kernel_rfl, rfl⟩
    · exact .inr ⟨⟨7, true, 75, rfl, by kernel_rfl, rfl, by simp, fun v h => by rw [show v = .bool false from h]; first | exact ne_tf | exact ne_ft | exact ne_undef _⟩, by kernel_rfl, rfl⟩
    · refine .inl ⟨.inl rfl, ?_⟩
      exact .inl ⟨by kernel_rfl, fun L a1 w1 n h => ⟨_, rfl, run_pickF (.tmp 75) _ _ rfl (h.dep n 7 75 (by kernel_rfl) rfl) rfl⟩⟩
    · refine .inl ⟨.inl rfl, ?_⟩
      exact .inl ⟨by kernel_rfl, fun L a1 w1 n h => ⟨_, rfl, run_eqlB (.tmp 71) (.tmp 81) _ _ rfl (h.dep n 3 71 (by kernel_rfl) rfl) (h.dep n 13 81 (by kernel_rfl) rfl) (eqBool false)⟩⟩
    · refine .inl ⟨.inl rfl, ?_⟩
      exact .inl ⟨by kernel_rfl, fun L a1 w1 n h => ⟨_, rfl, run_assign (.tmp 82) rfl (h.dep n 14 82 (by kernel_rfl) rfl)⟩⟩

  case he =>
    intro V w5 hV2 hJ
    have h15 : V 15 = .bool true := hV2 15 8 rfl
    have BT5 := hJ.1
    have hV5 := hJ.2.2 rfl
    clear hV2 hJ
    simp only [putOps, List.setIfInBounds_toArray, List.set_cons_succ, List.set_cons_zero, Nat.reduceAdd]
    rw [h15]
    refine hK6 _ _ ?_
    have r45 := BT5.1.row r43 (.inr (.inr (.inr (.inl rfl))))
    have r55 := BT5.1.row r53 (.inr (.inr (.inr (.inr rfl))))
    have r65 := BT5.1.row r6 (.inr (.inr (.inr (.inl rfl))))
    have hX5 := hX3.trn BT5.1
    have d0 := r55.cell (j := 0) rfl
    have d1 := r55.cell (j := 1) rfl
    have d2 := r55.cell (j := 2) rfl
    have d3 := r55.cell (j := 3) rfl
    have d4 := r55.cell (j := 4) rfl
    have c0 := r45.cell (j := 0) rfl
    replace BT5 := (TrnB.of B3 hB).trans BT5
    have hB5 := Nat.le_trans hB BT5.2.size
    have hw5 := BT5.1.size
    generalize V 0 = q0
    generalize V 1 = q1
    generalize V 2 = q2
    generalize V 3 = q3
    generalize V 4 = q4
    generalize V 5 = q5
    generalize V 6 = q6
    generalize V 7 = q7
    generalize V 8 = q8
    generalize V 9 = q9
    generalize V 10 = q10
    generalize V 11 = q11
    generalize V 12 = q12
    generalize V 13 = q13
    generalize V 14 = q14
    clear h15 HC
    go_wp2_with (first
      | (with_reducible refine wl_load_row (o := ⟨some 83, _, _, _, _, _⟩) rfl 26 (.tmp 4) g4 26 (vlC x vp vl vs) _ rfl rfl r45 Tryz.underlying26 rfl (by kernel_rfl) ?_))
    refine (rcutF_any w5 x vp vl vs a.a (OwnP.slv hX5.p) hX5.one (by rw [h0.out]; exact Nat.zero_le _)).mono ?_
    rintro e w6 ⟨v6, rfl, own6, b6⟩
    have BT6 := TrnB.of b6 hB5
    clear d0 d1 d2 d3 d4 c0
    have r46 := BT6.1.row r45 (.inr (.inr (.inr (.inl rfl))))
    have r56 := BT6.1.row r55 (.inr (.inr (.inr (.inr rfl))))
    have r66 := BT6.1.row r65 (.inr (.inr (.inr (.inl rfl))))
    have hX6 := hX5.trn BT6.1
    have d0 := r56.cell (j := 0) rfl
    have d1 := r56.cell (j := 1) rfl
    have d2 := r56.cell (j := 2) rfl
    have d3 := r56.cell (j := 3) rfl
    have d4 := r56.cell (j := 4) rfl
    have c0 := r46.cell (j := 0) rfl
    replace BT6 := BT5.trans BT6
    have hB6 := Nat.le_trans hB BT6.2.size
    have hw6 := BT6.1.size
    have hV6 := hV5.later b6
    have one5 : ∀ u ∈ vlC (⟨x.k, x.t, cutF x.ps a.a, x.ls, x.ss⟩ : Vl) v6 vl vs, u.oneCell' = true := one_vl (x := (⟨x.k, x.t, cutF x.ps a.a, x.ls, x.ss⟩ : Vl)) (vp := vp) (vl := vl) (vs := vs) (own_one own6) (own_one hX6.l) (own_one hX6.s)
    go_wp2_with (first
      | ((with_reducible refine wl_store_row rfl 26 (.tmp 4) (.tmp 86) g4 26 (vlC x vp vl vs) (vlC (⟨x.k, x.t, cutF x.ps a.a, x.ls, x.ss⟩ : Vl) v6 vl vs) rfl rfl rfl r46 (by kernel_rfl) (by kernel_rfl) one5 ?_); intro w7 r47 o7; have r67 := r66.only o7 n46.symm; have r57 := r56.only o7 n45.symm; clear d0 d1 d2 d3 d4 c0; have d0 := r57.cell (j := 0) rfl; have d1 := r57.cell (j := 1) rfl; have d2 := r57.cell (j := 2) rfl; have d3 := r57.cell (j := 3) rfl; have d4 := r57.cell (j := 4) rfl; have c0 := r47.cell (j := 0) rfl; have hVe : VX w7 B gv (⟨x.k, x.t, cutF x.ps a.a, x.ls, x.ss⟩ : Vl) := Eq.mpr (congrArg (VX w7 B gv) hy.out) (vx_only hV6 o7 r46); have hXe : XM w7 B (⟨x.k, x.t, cutF x.ps a.a, x.ls, x.ss⟩ : Vl) v6 vl vs := XM.only (x := (⟨x.k, x.t, cutF x.ps a.a, x.ls, x.ss⟩ : Vl)) (w := w6) ⟨own_low own6 hB5, hX6.l, hX6.s⟩ o7 r46; have BTe : TrnB B w w7 := trn_new BT6 o7 p4 hB; have r4e := r47; have r6e := r67; have onee := hXe.one; replace hVe := hide hVe; replace hXe := hide hXe; replace BTe := hide BTe)
      | (with_reducible refine wl_load_row (o := ⟨some 182, _, _, _, _, _⟩) rfl 26 (.tmp 4) g4 26 (vlC (⟨x.k, x.t, cutF x.ps a.a, x.ls, x.ss⟩ : Vl) v6 vl vs) _ rfl rfl r4e Tryz.underlying26 rfl (by kernel_rfl) ?_)
      | ((with_reducible refine wl_store_row rfl 26 (.tmp 6) (.tmp 182) g6 26 _ (vlC (⟨x.k, x.t, cutF x.ps a.a, x.ls, x.ss⟩ : Vl) v6 vl vs) rfl rfl rfl r6e (by kernel_rfl) rfl onee ?_); intro we re oe))
    refine bodyPost_ret (v := .tuple #[vlV (⟨x.k, x.t, cutF x.ps a.a, x.ls, x.ss⟩ : Vl) v6 vl vs, .bool true]) ?_ rfl ⟨_, _, _, rfl, vx_only hVe.out oe r6e, hXe.out.only oe r6e, trn_new BTe.out oe g6w hB⟩
    exact results_rt2 Tryz.results19 _ _ g6 26 _ _ _ rfl re Tryz.underlying26 rfl (by kernel_rfl) rfl
set_option maxRecDepth 100000 in
set_option maxHeartbeats 1000000 in
theorem do_cut4 (w : World) (B gv : Nat) (sb : Nat) (us : List Nm) (vp vl vs lv : Value) (a : VA) (hV : V4 w B gv sb us) (hX : XM w B (⟨4, [], [], us, []⟩ : Vl) vp vl vs) (hk : a.k.tmod 8 = 4) (hB : B ≤ w.heap.size) (hf : a.a.length ≤ maxLen) (hl : us.length ≤ 999999) :
    Calls Tryz.prog 19 #[ptr gv, vlV (⟨4, [], [], us, []⟩ : Vl) vp vl vs, .agg (a.cells lv).toArray] w (DoPost w B gv (⟨4, [], [], cutN us a.a, []⟩ : Vl)) := by
  go_enter Tryz.func19, Tryz.ntmps19
  go_wp2_with (first
    | ((with_reducible refine wl_box (o := ⟨some 4, _, _, _, _, _⟩) rfl 26 (.tmp 1) _ (vlC (⟨4, [], [], us, []⟩ : Vl) vp vl vs) rfl rfl rfl ?_); intro g4 w1 r4 p4 l4 b1)
    | ((with_reducible refine wl_box (o := ⟨some 5, _, _, _, _, _⟩) rfl 54 (.tmp 2) _ (a.cells lv) rfl rfl rfl ?_); intro g5 w2 r5 p5 l5 b2; have r42 := r4.later b2)
    | ((with_reducible refine wl_alloc (o := ⟨some 6, _, _, _, _, _⟩) rfl 26 _ [.int .i64 0, encStr [], nilS, nilS, nilS] rfl zeroVl rfl ?_); intro g6 w3 r6 p6 l6 b3; have r53 := r5.later b3; have r43 := r42.later b3; have d0 := r53.cell (j := 0) rfl; have d1 := r53.cell (j := 1) rfl; have d2 := r53.cell (j := 2) rfl; have d4 := r53.cell (j := 4) rfl; have c0 := r43.cell (j := 0) rfl; have c3 := r43.cell (j := 3) rfl; have c4 := r43.cell (j := 4) rfl; have d3 := r53.cell (j := 3) rfl))
  have B3 := (b1.trans (b2.mono b1.size)).trans (b3.mono (b1.trans (b2.mono b1.size)).size)
  have hB3 : B ≤ w3.heap.size := Nat.le_trans hB B3.size
  have g4B : B ≤ g4 := Nat.le_trans hB p4
  have g6w : w.heap.size ≤ g6 := Nat.le_trans (b1.trans (b2.mono b1.size)).size p6
  have n46 : g4 ≠ g6 := Nat.ne_of_lt (Nat.lt_of_lt_of_le r42.lt p6)
  have n45 : g4 ≠ g5 := Nat.ne_of_lt (Nat.lt_of_lt_of_le r4.lt p5)
  have n56 : g5 ≠ g6 := Nat.ne_of_lt (Nat.lt_of_lt_of_le r5.lt p6)
  have hX3 := hX.later B3
  have hV3 := hV.later B3
  clear r4 r5 r42 b1 b2 b3 l4 l5 l6 hV hX
  obtain ⟨c, hc⟩ : ∃ c, decide (a.a ∈ us) = c := ⟨_, rfl⟩
  have HC : ∀ wz : World, V4 wz B gv sb us → B ≤ wz.heap.size → Calls Tryz.prog 32 #[ptr gv, encStr a.a] wz fun e w' => e = .returned (.bool c) ∧ V4 w' B gv sb (cutN us a.a) ∧ TrnB B wz w' := fun wz h hz => by rw [← hc]; exact cut_4 wz B gv sb us a.a h hf hz
  have HR : ∀ wz : World, TrnB B w3 wz → Calls Tryz.prog 71 #[vl, encStr a.a] wz fun e w' => e = .returned (.bool c) ∧ Below wz.heap.size wz w' := fun wz h => by rw [← hc]; exact rhas_any wz vl us a.a (OwnW.slv (hX3.trn h.1).l) (by omega)
  replace HC := hide HC
  replace HR := hide HR
  clear d0 d1 d2 d3 d4 c0 c3 c4
  rename_i K6 hK6
  refine wp_region_valsS [3, 12] (SCt4 gv g4 g5 a c us vp vl vs) (JT B w3 (fun w => V4 w B gv sb us) (fun w => V4 w B gv sb (cutN us a.a))) (by kernel_rfl) (by kernel_rfl) (by kernel_rfl) (by kernel_rfl) (JT.start (hV3.later (Below.refl _ _).drew) rfl) ?obs ?he
  case obs =>
    refine ⟨?_, ?_, ?_, ?_, ?_, ?_, ?_, ?_, ?_, ?_, ?_, ?_, ?_, ?_, ?_, ?_, trivial⟩
    · refine .inl ⟨.inl rfl, ?_⟩
      exact .inl ⟨by kernel_rfl, fun L a1 w1 n h => ⟨_, rfl, run_move (.tmp 0) rfl (h.var n 0 (by kernel_rfl))⟩⟩
    · refine .inl ⟨.inl rfl, ?_⟩
      refine .inl ⟨by kernel_rfl, fun L a1 w1 n h => ⟨.pointer (some ⟨g5, 1, none⟩), rfl, ?_⟩⟩
      have e0 : a1.eval (.tmp 5) = _ := h.var n 5 (by kernel_rfl)
      unfold execOp
      simp only [e0]
      go_simp
    · refine .inl ⟨.inl rfl, ?_⟩
      exact .inl ⟨by kernel_rfl, fun L a1 w1 n h => ⟨_, rfl, run_loadA 9 (.tmp 118) ⟨g5, 1, none⟩ rfl Tryz.isAgg9 (h.dep n 1 118 (by kernel_rfl) rfl) (((h.inv.1.1.row r53 (.inr (.inr (.inr (.inr rfl)))))).cell (j := 1) (v := encStr a.a) rfl)⟩⟩
    · refine .inl ⟨.inl rfl, ?_⟩
      refine .inr fun L a1 w1 n h K hK => ?_
      have e0 : a1.eval (.tmp 117) = ptr gv := h.dep n 0 117 (by kernel_rfl) rfl
      have e1 : a1.eval (.tmp 119) = encStr a.a := h.dep n 2 119 (by kernel_rfl) rfl
      refine st_call 32 _ _ #[ptr gv, encStr a.a] rfl Tryz.call32 ?_ (HC.out w1 (h.inv.2.1 ((bits_at rfl).trans n.not_yet)) (Nat.le_trans hB3 h.inv.1.1.size)) ?_
      · simp only [List.map_toArray, List.map_cons, List.map_nil, e0, e1]
      · rintro e w3 ⟨rfl, hV9, T9⟩
        exact ⟨_, rfl, hK _ w3 rfl (JT.turned h.inv T9 hV9 rfl)⟩
    · refine .inl ⟨.inl rfl, ?_⟩
      refine .inl ⟨by kernel_rfl, fun L a1 w1 n h => ⟨.pointer (some ⟨g4, 0, none⟩), rfl, ?_⟩⟩
      have e0 : a1.eval (.tmp 4) = _ := h.var n 4 (by kernel_rfl)
      unfold execOp
      simp only [e0]
      go_simp
    · refine .inl ⟨.inl rfl, ?_⟩
      exact .inl ⟨by kernel_rfl, fun L a1 w1 n h => ⟨_, rfl, run_loadA 3 (.tmp 121) ⟨g4, 0, none⟩ rfl Tryz.isAgg3 (h.dep n 4 121 (by kernel_rfl) rfl) (((h.inv.1.1.row r43 (.inr (.inr (.inr (.inl rfl)))))).cell (j := 0) (v := .int .i64 4) rfl)⟩⟩
    · refine .inl ⟨.inl rfl, ?_⟩
      exact .inl ⟨by kernel_rfl, fun L a1 w1 n h => ⟨_, rfl, run_eqlI (.tmp 122) (.const (.int .i64 4)) rfl (h.dep n 5 122 (by kernel_rfl) rfl) rfl rfl⟩⟩
    · refine .inl ⟨.inl rfl, ?_⟩
      exact .inl ⟨by kernel_rfl, fun L a1 w1 n h => ⟨_, rfl, run_move (.tmp 123) rfl (h.dep n 6 123 (by kernel_rfl) rfl)⟩⟩
    · refine .inl ⟨.inr ⟨7, true, 124, rfl, by kernel_rfl, rfl, by simp, fun v h => h⟩, ?_⟩
      refine .inl ⟨by kernel_rfl, fun L a1 w1 n h => ⟨.pointer (some ⟨g4, 3, none⟩), rfl, ?_⟩⟩
      have e0 : a1.eval (.tmp 4) = _ := h.var n 4 (by kernel_rfl)
      unfold execOp
      simp only [e0]
      go_simp
    · refine .inl ⟨.inr ⟨7, true, 124, rfl, by kernel_rfl, rfl, by simp, fun v h => h⟩, ?_⟩
      exact .inl ⟨by kernel_rfl, fun L a1 w1 n h => ⟨_, rfl, run_loadA 23 (.tmp 125) ⟨g4, 3, none⟩ rfl Tryz.isAgg23 (h.dep n 8 125 (by kernel_rfl) rfl) (((h.inv.1.1.row r43 (.inr (.inr (.inr (.inl rfl)))))).cell (j := 3) (v := vl) rfl)⟩⟩
    · refine .inl ⟨.inr ⟨7, true, 124, rfl, by kernel_rfl, rfl, by simp, fun v h => h⟩, ?_⟩
      refine .inl ⟨by kernel_rfl, fun L a1 w1 n h => ⟨.pointer (some ⟨g5, 1, none⟩), rfl, ?_⟩⟩
      have e0 : a1.eval (.tmp 5) = _ := h.var n 5 (by kernel_rfl)
      unfold execOp
      simp only [e0]
      go_simp
    · refine .inl ⟨.inr ⟨7, true, 124, rfl, by kernel_rfl, rfl, by simp, fun v h => h⟩, ?_⟩
      exact .inl ⟨by kernel_rfl, fun L a1 w1 n h => ⟨_, rfl, run_loadA 9 (.tmp 127) ⟨g5, 1, none⟩ rfl Tryz.isAgg9 (h.dep n 10 127 (by kernel_rfl) rfl) (((h.inv.1.1.row r53 (.inr (.inr (.inr (.inr rfl)))))).cell (j := 1) (v := encStr a.a) rfl)⟩⟩
    · refine .inl ⟨.inr ⟨7, true, 124, rfl, by kernel_rfl, rfl, by simp, fun v h => h⟩, ?_⟩
      refine .inr fun L a1 w1 n h K hK => ?_
      have e0 : a1.eval (.tmp 126) = vl := h.dep n 9 126 (by kernel_rfl) rfl
      have e1 : a1.eval (.tmp 128) = encStr a.a := h.dep n 11 128 (by kernel_rfl) rfl
      refine st_call 71 _ _ #[vl, encStr a.a] rfl Tryz.call71 ?_ (HR.out w1 h.inv.1) ?_
      · simp only [List.map_toArray, List.map_cons, List.map_nil, e0, e1]
      · rintro e w3 ⟨rfl, b9⟩
        exact ⟨_, rfl, hK _ w3 rfl (JT.kept h.inv b9 hB3 (fun d => d.later b9) (fun d => d.later b9) (bits_at rfl).symm)⟩
    · refine .inl ⟨.inl rfl, ?_⟩
      exact .inl ⟨by kernel_rfl, fun L a1 w1 n h => ⟨_, rfl, run_pickT (.tmp 124) _ _ rfl (h.dep n 7 124 (by kernel_rfl) rfl) (h.dep n 12 129 (by kernel_rfl) rfl)⟩⟩
    · refine .inl ⟨.inl rfl, ?_⟩
      exact .inl ⟨by kernel_rfl, fun L a1 w1 n h => ⟨_, rfl, run_eqlB (.tmp 120) (.tmp 130) _ _ rfl (h.dep n 3 120 (by kernel_rfl) rfl) (h.dep n 13 130 (by kernel_rfl) rfl) (eqBool c)⟩⟩
    · refine .inl ⟨.inl rfl, ?_⟩
      exact .inl ⟨by kernel_rfl, fun L a1 w1 n h => ⟨_, rfl, run_assign (.tmp 131) rfl (h.dep n 14 131 (by kernel_rfl) rfl)⟩⟩

  case he =>
    intro V w5 hV2 hJ
    have h15 : V 15 = .bool true := hV2 15 8 rfl
    have BT5 := hJ.1
    have hV5 := hJ.2.2 rfl
    clear hV2 hJ
    simp only [putOps, List.setIfInBounds_toArray, List.set_cons_succ, List.set_cons_zero, Nat.reduceAdd]
    rw [h15]
    refine hK6 _ _ ?_
    have r45 := BT5.1.row r43 (.inr (.inr (.inr (.inl rfl))))
    have r55 := BT5.1.row r53 (.inr (.inr (.inr (.inr rfl))))
    have r65 := BT5.1.row r6 (.inr (.inr (.inr (.inl rfl))))
    have hX5 := hX3.trn BT5.1
    have d0 := r55.cell (j := 0) rfl
    have d1 := r55.cell (j := 1) rfl
    have d2 := r55.cell (j := 2) rfl
    have d3 := r55.cell (j := 3) rfl
    have d4 := r55.cell (j := 4) rfl
    have c0 := r45.cell (j := 0) rfl
    replace BT5 := (TrnB.of B3 hB).trans BT5
    have hB5 := Nat.le_trans hB BT5.2.size
    have hw5 := BT5.1.size
    have c3 := r45.cell (j := 3) rfl
    generalize V 0 = q0
    generalize V 1 = q1
    generalize V 2 = q2
    generalize V 3 = q3
    generalize V 4 = q4
    generalize V 5 = q5
    generalize V 6 = q6
    generalize V 7 = q7
    generalize V 8 = q8
    generalize V 9 = q9
    generalize V 10 = q10
    generalize V 11 = q11
    generalize V 12 = q12
    generalize V 13 = q13
    generalize V 14 = q14
    clear h15 HC HR
    go_wp2_with fail
    refine (rcut_any w5 vl us a.a (OwnW.slv hX5.l) (by omega)).mono ?_
    rintro e w6 ⟨v6, rfl, own6, b6⟩
    have BT6 := TrnB.of b6 hB5
    clear d0 d1 d2 d3 d4 c0
    have r46 := BT6.1.row r45 (.inr (.inr (.inr (.inl rfl))))
    have r56 := BT6.1.row r55 (.inr (.inr (.inr (.inr rfl))))
    have r66 := BT6.1.row r65 (.inr (.inr (.inr (.inl rfl))))
    have hX6 := hX5.trn BT6.1
    have d0 := r56.cell (j := 0) rfl
    have d1 := r56.cell (j := 1) rfl
    have d2 := r56.cell (j := 2) rfl
    have d3 := r56.cell (j := 3) rfl
    have d4 := r56.cell (j := 4) rfl
    have c0 := r46.cell (j := 0) rfl
    replace BT6 := BT5.trans BT6
    have hB6 := Nat.le_trans hB BT6.2.size
    have hw6 := BT6.1.size
    have hV6 := hV5.later b6
    go_wp2_with (first
      | ((with_reducible refine wl_store rfl 23 (.tmp 140) (.tmp 139) g4 3 26 (vlC (⟨4, [], [], us, []⟩ : Vl) vp vl vs) v6 rfl (by kernel_rfl) rfl rfl r46 (by simp) (own_one own6) ?_); intro w7 r47 o7; replace r47 : Row w7 26 g4 (vlC (⟨4, [], [], cutN us a.a, []⟩ : Vl) vp v6 vs) := r47; have r67 := r66.only o7 n46.symm; have hVe : VX w7 B gv (⟨4, [], [], cutN us a.a, []⟩ : Vl) := vx_only (.k4 _ _ hV6) o7 r46; have hXe : XM w7 B (⟨4, [], [], cutN us a.a, []⟩ : Vl) vp v6 vs := XM.only (x := (⟨4, [], [], cutN us a.a, []⟩ : Vl)) (w := w6) ⟨hX6.p, own_low own6 hB5, hX6.s⟩ o7 r46; have BTe : TrnB B w w7 := trn_new BT6 o7 p4 hB; have r4e := r47; have r6e := r67; have onee := hXe.one; replace hVe := hide hVe; replace hXe := hide hXe; replace BTe := hide BTe)
      | (with_reducible refine wl_load_row (o := ⟨some 182, _, _, _, _, _⟩) rfl 26 (.tmp 4) g4 26 (vlC (⟨4, [], [], cutN us a.a, []⟩ : Vl) vp v6 vs) _ rfl rfl r4e Tryz.underlying26 rfl (by kernel_rfl) ?_)
      | ((with_reducible refine wl_store_row rfl 26 (.tmp 6) (.tmp 182) g6 26 _ (vlC (⟨4, [], [], cutN us a.a, []⟩ : Vl) vp v6 vs) rfl rfl rfl r6e (by kernel_rfl) rfl onee ?_); intro we re oe))
    refine bodyPost_ret (v := .tuple #[vlV (⟨4, [], [], cutN us a.a, []⟩ : Vl) vp v6 vs, .bool true]) ?_ rfl ⟨_, _, _, rfl, vx_only hVe.out oe r6e, hXe.out.only oe r6e, trn_new BTe.out oe g6w hB⟩
    exact results_rt2 Tryz.results19 _ _ g6 26 _ _ _ rfl re Tryz.underlying26 rfl (by kernel_rfl) rfl
set_option maxRecDepth 100000 in
set_option maxHeartbeats 1000000 in
theorem do_cutN0 (w : World) (B gv : Nat) (x : Vl) (vp vl vs lv : Value) (a : VA) (hV : VX w B gv x) (hX : XM w B x vp vl vs) (hk : a.k.tmod 8 = 4) (hB : B ≤ w.heap.size) (hf : a.a.length ≤ maxLen) (hx4 : x.k ≠ 4) :
    Calls Tryz.prog 19 #[ptr gv, vlV x vp vl vs, .agg (a.cells lv).toArray] w (DoPost w B gv x) := by
  go_enter Tryz.func19, Tryz.ntmps19
  go_wp2_with (first
    | ((with_reducible refine wl_box (o := ⟨some 4, _, _, _, _, _⟩) rfl 26 (.tmp 1) _ (vlC x vp vl vs) rfl rfl rfl ?_); intro g4 w1 r4 p4 l4 b1)
    | ((with_reducible refine wl_box (o := ⟨some 5, _, _, _, _, _⟩) rfl 54 (.tmp 2) _ (a.cells lv) rfl rfl rfl ?_); intro g5 w2 r5 p5 l5 b2; have r42 := r4.later b2)
    | ((with_reducible refine wl_alloc (o := ⟨some 6, _, _, _, _, _⟩) rfl 26 _ [.int .i64 0, encStr [], nilS, nilS, nilS] rfl zeroVl rfl ?_); intro g6 w3 r6 p6 l6 b3; have r53 := r5.later b3; have r43 := r42.later b3; have d0 := r53.cell (j := 0) rfl; have d1 := r53.cell (j := 1) rfl; have d2 := r53.cell (j := 2) rfl; have d4 := r53.cell (j := 4) rfl; have c0 := r43.cell (j := 0) rfl; have c3 := r43.cell (j := 3) rfl; have c4 := r43.cell (j := 4) rfl; have d3 := r53.cell (j := 3) rfl))
  have B3 := (b1.trans (b2.mono b1.size)).trans (b3.mono (b1.trans (b2.mono b1.size)).size)
  have hB3 : B ≤ w3.heap.size := Nat.le_trans hB B3.size
  have g4B : B ≤ g4 := Nat.le_trans hB p4
  have g6w : w.heap.size ≤ g6 := Nat.le_trans (b1.trans (b2.mono b1.size)).size p6
  have n46 : g4 ≠ g6 := Nat.ne_of_lt (Nat.lt_of_lt_of_le r42.lt p6)
  have n45 : g4 ≠ g5 := Nat.ne_of_lt (Nat.lt_of_lt_of_le r4.lt p5)
  have n56 : g5 ≠ g6 := Nat.ne_of_lt (Nat.lt_of_lt_of_le r5.lt p6)
  have hX3 := hX.later B3
  have hV3 := hV.later B3
  clear r4 r5 r42 b1 b2 b3 l4 l5 l6 hV hX
  have hk4 := hide (show decide (x.k = 4) = false from decide_eq_false hx4)
  have e4 : decide (x.k = 4) = false := decide_eq_false hx4
  have f4 : (x.k == 4) = false := beq_eq_false_iff_ne.2 hx4
  have HC : ∀ wz : World, VX wz B gv x → B ≤ wz.heap.size → Calls Tryz.prog 32 #[ptr gv, encStr a.a] wz fun e w' => e = .returned (.bool false) ∧ VX w' B gv x ∧ TrnB B wz w' := fun wz h hz => by
    obtain ⟨hm, lw, sm, zp, row, hm2, sm4, zp5⟩ := h.row
    obtain rfl := sm4 hx4
    exact (cut_nil (w := wz) (v := ptr gv) (k := x.k) (t := x.t) (hm := hm) (lv := lw) (zp := zp) a.a hf (.of row)).mono fun e w' ⟨he, hb⟩ => ⟨he, h.later hb, TrnB.of hb hz⟩
  replace HC := hide HC
  clear d0 d1 d2 d3 d4 c0 c3 c4
  rename_i K6 hK6
  refine wp_region_valsS [3] (SCf4 gv g4 g5 a x) (JT B w3 (fun w => VX w B gv x) (fun w => VX w B gv x)) (by kernel_rfl) (by kernel_rfl) (by kernel_rfl) (by kernel_rfl) (JT.start (hV3.later (Below.refl _ _).drew) rfl) ?obs ?he
  case obs =>
    refine ⟨?_, ?_, ?_, ?_, ?_, ?_, ?_, ?_, ?_, ?_, ?_, ?_, ?_, ?_, ?_, ?_, trivial⟩
    · refine .inl ⟨.inl rfl, ?_⟩
      exact .inl ⟨by kernel_rfl, fun L a1 w1 n h => ⟨_, rfl, run_move (.tmp 0) rfl (h.var n 0 (by kernel_rfl))⟩⟩
    · refine .inl ⟨.inl rfl, ?_⟩
      refine .inl ⟨by kernel_rfl, fun L a1 w1 n h => ⟨.pointer (some ⟨g5, 1, none⟩), rfl, ?_⟩⟩
      have e0 : a1.eval (.tmp 5) = _ := h.var n 5 (by kernel_rfl)
      unfold execOp
      simp only [e0]
      go_simp
    · refine .inl ⟨.inl rfl, ?_⟩
      exact .inl ⟨by kernel_rfl, fun L a1 w1 n h => ⟨_, rfl, run_loadA 9 (.tmp 118) ⟨g5, 1, none⟩ rfl Tryz.isAgg9 (h.dep n 1 118 (by kernel_rfl) rfl) (((h.inv.1.1.row r53 (.inr (.inr (.inr (.inr rfl)))))).cell (j := 1) (v := encStr a.a) rfl)⟩⟩
    · refine .inl ⟨.inl rfl, ?_⟩
      refine .inr fun L a1 w1 n h K hK => ?_
      have e0 : a1.eval (.tmp 117) = ptr gv := h.dep n 0 117 (by kernel_rfl) rfl
      have e1 : a1.eval (.tmp 119) = encStr a.a := h.dep n 2 119 (by kernel_rfl) rfl
      refine st_call 32 _ _ #[ptr gv, encStr a.a] rfl Tryz.call32 ?_ (HC.out w1 (h.inv.2.1 ((bits_at rfl).trans n.not_yet)) (Nat.le_trans hB3 h.inv.1.1.size)) ?_
      · simp only [List.map_toArray, List.map_cons, List.map_nil, e0, e1]
      · rintro e w3 ⟨rfl, hV9, T9⟩
        exact ⟨_, rfl, hK _ w3 rfl (JT.turned h.inv T9 hV9 rfl)⟩
    · refine .inl ⟨.inl rfl, ?_⟩
      refine .inl ⟨by kernel_rfl, fun L a1 w1 n h => ⟨.pointer (some ⟨g4, 0, none⟩), rfl, ?_⟩⟩
      have e0 : a1.eval (.tmp 4) = _ := h.var n 4 (by kernel_rfl)
      unfold execOp
      simp only [e0]
      go_simp
    · refine .inl ⟨.inl rfl, ?_⟩
      exact .inl ⟨by kernel_rfl, fun L a1 w1 n h => ⟨_, rfl, run_loadA 3 (.tmp 121) ⟨g4, 0, none⟩ rfl Tryz.isAgg3 (h.dep n 4 121 (by kernel_rfl) rfl) (((h.inv.1.1.row r43 (.inr (.inr (.inr (.inl rfl)))))).cell (j := 0) (v := .int .i64 x.k) rfl)⟩⟩
    · refine .inl ⟨.inl rfl, ?_⟩
      exact .inl ⟨by kernel_rfl, fun L a1 w1 n h => ⟨_, rfl, run_eqlI (.tmp 122) (.const (.int .i64 4)) rfl (h.dep n 5 122 (by kernel_rfl) rfl) rfl hk4.out⟩⟩
    · refine .inl ⟨.inl rfl, ?_⟩
      exact .inl ⟨by kernel_rfl, fun L a1 w1 n h => ⟨_, rfl, run_move (.tmp 123) rfl (h.dep n 6 123 (by kernel_rfl) rfl)⟩⟩
    · exact .inr ⟨⟨7, true, 124, rfl, by kernel_rfl, rfl, by simp, fun v h => by rw [show v = .bool false from h]; first | exact ne_tf | exact ne_ft | exact ne_undef _⟩, by kernel_rfl, rfl⟩
    · exact .inr ⟨⟨7, true, 124, rfl, by kernel_rfl, rfl, by simp, fun v h => by rw [show v = .bool false from h]; first | exact ne_tf | exact ne_ft | exact ne_undef _⟩, by kernel_rfl, rfl⟩
    · exact .inr ⟨⟨7, true, 124, rfl, by kernel_rfl, rfl, by simp, fun v h => by rw [show v = .bool false from h]; first | exact ne_tf | exact ne_ft | exact ne_undef _⟩, by kernel_rfl, rfl⟩
    · exact .inr ⟨⟨7, true, 124, rfl, by kernel_rfl, rfl, by simp, fun v h => by rw [show v = .bool false from h]; first | exact ne_tf | exact ne_ft | exact ne_undef _⟩, by kernel_rfl, rfl⟩
    · exact .inr ⟨⟨7, true, 124, rfl, by kernel_rfl, rfl, by simp, fun v h => by rw [show v = .bool false from h]; first | exact ne_tf | exact ne_ft | exact ne_undef _⟩, by kernel_rfl, rfl⟩
    · refine .inl ⟨.inl rfl, ?_⟩
      exact .inl ⟨by kernel_rfl, fun L a1 w1 n h => ⟨_, rfl, run_pickF (.tmp 124) _ _ rfl (h.dep n 7 124 (by kernel_rfl) rfl) rfl⟩⟩
    · refine .inl ⟨.inl rfl, ?_⟩
      exact .inl ⟨by kernel_rfl, fun L a1 w1 n h => ⟨_, rfl, run_eqlB (.tmp 120) (.tmp 130) _ _ rfl (h.dep n 3 120 (by kernel_rfl) rfl) (h.dep n 13 130 (by kernel_rfl) rfl) (eqBool false)⟩⟩
    · refine .inl ⟨.inl rfl, ?_⟩
      exact .inl ⟨by kernel_rfl, fun L a1 w1 n h => ⟨_, rfl, run_assign (.tmp 131) rfl (h.dep n 14 131 (by kernel_rfl) rfl)⟩⟩

  case he =>
    intro V w5 hV2 hJ
    have h15 : V 15 = .bool true := hV2 15 8 rfl
    have BT5 := hJ.1
    have hV5 := hJ.2.2 rfl
    clear hV2 hJ
    simp only [putOps, List.setIfInBounds_toArray, List.set_cons_succ, List.set_cons_zero, Nat.reduceAdd]
    rw [h15]
    refine hK6 _ _ ?_
    have r45 := BT5.1.row r43 (.inr (.inr (.inr (.inl rfl))))
    have r55 := BT5.1.row r53 (.inr (.inr (.inr (.inr rfl))))
    have r65 := BT5.1.row r6 (.inr (.inr (.inr (.inl rfl))))
    have hX5 := hX3.trn BT5.1
    have d0 := r55.cell (j := 0) rfl
    have d1 := r55.cell (j := 1) rfl
    have d2 := r55.cell (j := 2) rfl
    have d3 := r55.cell (j := 3) rfl
    have d4 := r55.cell (j := 4) rfl
    have c0 := r45.cell (j := 0) rfl
    replace BT5 := (TrnB.of B3 hB).trans BT5
    have hB5 := Nat.le_trans hB BT5.2.size
    have hw5 := BT5.1.size
    generalize V 0 = q0
    generalize V 1 = q1
    generalize V 2 = q2
    generalize V 3 = q3
    generalize V 4 = q4
    generalize V 5 = q5
    generalize V 6 = q6
    generalize V 7 = q7
    generalize V 8 = q8
    generalize V 9 = q9
    generalize V 10 = q10
    generalize V 11 = q11
    generalize V 12 = q12
    generalize V 13 = q13
    generalize V 14 = q14
    clear h15 HC
    have hVe : VX w5 B gv x := hV5
    have hXe : XM w5 B x vp vl vs := hX5
    have BTe : TrnB B w w5 := BT5
    have r4e := r45
    have r6e := r65
    have onee := hXe.one
    replace hVe := hide hVe
    replace hXe := hide hXe
    replace BTe := hide BTe
    go_wp2_with (first
      | (with_reducible refine wl_load_row (o := ⟨some 182, _, _, _, _, _⟩) rfl 26 (.tmp 4) g4 26 (vlC x vp vl vs) _ rfl rfl r4e Tryz.underlying26 rfl (by kernel_rfl) ?_)
      | ((with_reducible refine wl_store_row rfl 26 (.tmp 6) (.tmp 182) g6 26 _ (vlC x vp vl vs) rfl rfl rfl r6e (by kernel_rfl) rfl onee ?_); intro we re oe))
    refine bodyPost_ret (v := .tuple #[vlV x vp vl vs, .bool true]) ?_ rfl ⟨_, _, _, rfl, vx_only hVe.out oe r6e, hXe.out.only oe r6e, trn_new BTe.out oe g6w hB⟩
    exact results_rt2 Tryz.results19 _ _ g6 26 _ _ _ rfl re Tryz.underlying26 rfl (by kernel_rfl) rfl
end Go.Proofs.YtpbkejmffddelaaGreat

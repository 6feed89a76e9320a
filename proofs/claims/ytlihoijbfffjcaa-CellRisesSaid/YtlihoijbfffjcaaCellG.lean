/-
  The cell: the laws' own 'awake'; the laws CellOrder: contracts. Own work.
-/
import Derived.Test.YtlihoijbfffjcaaCellF
namespace Go.Proofs.Ytlihoijbfffjcaa
open Go.RowKit
set_option linter.unusedVariables false
set_option linter.unusedSimpArgs false
theorem builtB11 : Try.prog.built 77 [(4, .int .i64 1), (2, .int .i64 1)] = some (bdsL 0 0 1 0 1 0 0).toArray := by kernel_rfl
theorem eqBool (b c : Bool) (w : World) : (Op.equal 4 (.bool b) (.bool c)).run Try.prog w = .ok (b == c) w := by
  cases b <;> cases c <;> kernel_rfl
set_option maxRecDepth 100000 in
set_option maxHeartbeats 2000000 in
theorem awake_any (w : World) : Calls Try.prog 44 #[] w fun e w' => e = .returned (.bool true) ∧ Below w.heap.size w w' := by
  have bb := builtB11
  have bp := builtPin
  have hN := fun P w => new_any P 0 0 1 0 1 0 0 w
  rw [show bnd 1 = 1 by simp only [bnd, mostN]; omega] at hN
  have i1 : isI (-1) := ⟨by omega, by omega⟩
  have i0 : isI 0 := ⟨by omega, by omega⟩
  have i2 : isI 1 := ⟨by omega, by omega⟩
  have v1 : refV 1 1 0 0 1 1 = 0 := by decide
  have v2 : refV 1 1 1 1 1 1 = 13 := by decide
  have v3 : refV 1 1 1 1 1 2 = 7 := by decide
  go_enter Try.func44, Try.ntmps44
  go_wp2_with fail
  refine (plug_any w).mono ?_
  rintro en w1 ⟨gP, gp, rfl, hp, hg, q1, q2, hne, b1⟩
  go_wp2_with (first
    | ((with_reducible refine wl_build rfl 77 _ rfl _ ?hv _ bb ?hk); case hv => rfl))
  refine (hN (some ⟨gP, 0, none⟩) w1).mono ?_
  rintro en w2 ⟨gc, rfl, hc, q3, b2⟩
  have lP := Row.lt hp
  have n1 : gc ≠ gp := fun e => by have := Row.lt hg; omega
  have hp := Row.later hp b2
  have hg := Row.later hg b2
  have B2 := b1.trans (b2.mono b1.size)
  have lc : w.heap.size ≤ gc := Nat.le_trans b1.size q3
  have hS : ∀ k ∈ [gc, gp], w.heap.size ≤ k := by intro k hk; simp at hk; omega
  go_wp2_with fail
  refine (birth_some w2 gc gP gp 1 1 0 0 0 true (-1) hc (by decide) hp hg i1 i0 i2 n1).mono ?_
  rintro en w3 ⟨rfl, hc, hg, b3⟩
  have nP : gP ∉ [gc, gp] := by simp; exact ⟨fun e => by omega, hne⟩
  have hp := Row.buts hp b3 nP
  have B3 := B2.trans (b3.below hS B2.size)
  go_wp2_with fail
  refine (birth_full w3 gc _ 1 1 1 0 0 hc (by decide)).mono ?_
  rintro en w4 ⟨rfl, b4⟩
  have hc := Row.later hc b4
  have hp := Row.later hp b4
  have hg := Row.later hg b4
  have B4 := B3.trans (b4.mono B3.size)
  go_wp2_with (first
    | ((with_reducible refine wl_build rfl 83 _ rfl _ ?hv2 _ (bp 1 1) ?hk2); case hv2 => rfl))
  refine (raise_some w4 gc gP gp 1 1 1 0 0 1 1 true (-1) hc v1 hp hg i1 n1).mono ?_
  rintro en w5 ⟨rfl, hc, hg, b5⟩
  have B5 := B4.trans (b5.below hS B4.size)
  go_wp2_with (first
    | ((with_reducible refine wl_build rfl 83 _ rfl _ ?hv3 _ (bp 1 1) ?hk3); case hv3 => rfl))
  refine (raise_no w5 _ 1 1 13 (by decide) (fun w6 b6 => by have := refuse_any w6 gc _ 1 1 1 1 1 1 1 (Row.later hc b6); rwa [v2] at this)).mono ?_
  rintro en w6 ⟨rfl, b6⟩
  have hc := Row.later hc b6
  have B6 := B5.trans (b6.mono B5.size)
  go_wp2_with (first
    | ((with_reducible refine wl_build rfl 83 _ rfl _ ?hv4 _ (bp 1 2) ?hk4); case hv4 => rfl))
  refine (raise_no w6 _ 1 2 7 (by decide) (fun w7 b7 => by have := refuse_any w7 gc _ 1 1 1 1 1 1 2 (Row.later hc b7); rwa [v3] at this)).mono ?_
  rintro en w7 ⟨rfl, b7⟩
  go_wp2_with fail
  go_ret
  exact ⟨rfl, B6.trans (b7.mono B6.size)⟩
theorem lessB_self (a b : Int) : lessB a b a b = false := by simp [lessB]
def SO1 (ga gb gc : Nat) (x1 x2 y1 y2 z1 z2 : Int) (ab ba : Bool) (opn : Nat) (v : Value) : Prop :=
  match opn with
  | 0 | 3 | 8 | 9 => v = .agg [.int .i64 x1, .int .i64 x2].toArray
  | 1 | 4 => v = .agg [.int .i64 y1, .int .i64 y2].toArray
  | 2 | 5 => v = .bool (lessB x1 x2 y1 y2)
  | 6 | 7 | 10 | 11 => v = .bool false
  | _ => True
def Sorder_tt (ga gb gc : Nat) (x1 x2 y1 y2 z1 z2 : Int) (ab ba : Bool) (opn : Nat) (v : Value) : Prop :=
  match opn with
  | 0 | 1 | 7 | 15 | 16 | 17 | 18 | 19 | 20 => v = .bool true
  | 2 | 5 => v = .agg [.int .i64 x1, .int .i64 x2].toArray
  | 3 | 6 => v = .agg [.int .i64 y1, .int .i64 y2].toArray
  | 4 | 8 | 9 | 14 => v = .bool false
  | 10 | 11 | 12 | 13 => v = undef
  | _ => True
def Sorder_tf (ga gb gc : Nat) (x1 x2 y1 y2 z1 z2 : Int) (ab ba : Bool) (opn : Nat) (v : Value) : Prop :=
  match opn with
  | 0 | 1 | 7 | 15 | 16 | 17 | 18 | 19 | 20 => v = .bool true
  | 2 | 5 => v = .agg [.int .i64 x1, .int .i64 x2].toArray
  | 3 | 6 => v = .agg [.int .i64 y1, .int .i64 y2].toArray
  | 4 | 8 | 9 | 14 => v = .bool false
  | 10 | 11 | 12 | 13 => v = undef
  | _ => True
def Sorder_ft (ga gb gc : Nat) (x1 x2 y1 y2 z1 z2 : Int) (ab ba : Bool) (opn : Nat) (v : Value) : Prop :=
  match opn with
  | 0 | 1 | 8 | 9 | 12 | 15 | 16 | 17 | 18 | 19 | 20 => v = .bool true
  | 2 | 5 | 11 => v = .agg [.int .i64 x1, .int .i64 x2].toArray
  | 3 | 6 | 10 => v = .agg [.int .i64 y1, .int .i64 y2].toArray
  | 4 | 7 | 13 | 14 => v = .bool false
  | _ => True
def Sorder_ff (ga gb gc : Nat) (x1 x2 y1 y2 z1 z2 : Int) (ab ba : Bool) (opn : Nat) (v : Value) : Prop :=
  match opn with
  | 0 | 1 | 4 | 8 | 9 | 13 | 14 | 15 | 16 | 17 | 18 | 19 | 20 => v = .bool true
  | 2 | 5 | 11 => v = .agg [.int .i64 x1, .int .i64 x2].toArray
  | 3 | 6 | 10 => v = .agg [.int .i64 y1, .int .i64 y2].toArray
  | 7 | 12 => v = .bool false
  | _ => True

set_option maxRecDepth 100000 in
set_option maxHeartbeats 2000000 in
theorem order_tt (x1 x2 y1 y2 z1 z2 : Int) (w : World) (hab : lessB x1 x2 y1 y2 = true) (hbc : lessB y1 y2 z1 z2 = true) (hac : lessB x1 x2 z1 z2 = true) (hq : decide (x1 = y1 ∧ x2 = y2) = false) : Calls Try.prog 11 #[pin x1 x2, pin y1 y2, pin z1 z2] w fun e w' => e = .returned (.bool true) ∧ Below w.heap.size w w' := by
  have hL1 := less_any x1 x2 y1 y2
  have hL2 := less_any y1 y2 z1 z2
  have hL3 := less_any x1 x2 z1 z2
  rw [hab] at hL1
  rw [hbc] at hL2
  rw [hac] at hL3
  go_enter Try.func11, Try.ntmps11
  go_wp2_with (first
    | (with_reducible refine wl_box (o := ⟨some 3, _, _, _, _, _⟩) rfl 83 (.tmp 0) _ [.int .i64 x1, .int .i64 x2] rfl rfl rfl ?_; intro ga wa ra pa la ba')
    | (with_reducible refine wl_box (o := ⟨some 4, _, _, _, _, _⟩) rfl 83 (.tmp 1) _ [.int .i64 y1, .int .i64 y2] rfl rfl rfl ?_; intro gb wb rb pb lb bb; have ra := Row.later ra bb)
    | (with_reducible refine wl_box (o := ⟨some 5, _, _, _, _, _⟩) rfl 83 (.tmp 2) _ [.int .i64 z1, .int .i64 z2] rfl rfl rfl ?_; intro gc wc rc pc lc bc; have ra := Row.later ra bc; have rb := Row.later rb bc))
  have bwc := (ba'.trans (bb.mono ba'.size)).trans (bc.mono (ba'.trans (bb.mono ba'.size)).size)
  rename_i K11 hK11
  refine wp_region_valsS [2, 5, 10] (SO1 ga gb gc x1 x2 y1 y2 z1 z2 true true) (JF wc [2, 5, 10] FNo) (by kernel_rfl) (by kernel_rfl) (by kernel_rfl) (by kernel_rfl) (JF.start _) ?obsSO1 ?heSO1
  case obsSO1 =>
    refine ⟨?_, ?_, ?_, ?_, ?_, ?_, ?_, ?_, ?_, ?_, ?_, ?_, trivial⟩
    · refine .inl ⟨.inl rfl, ?_⟩
      exact .inl ⟨by kernel_rfl, fun L a1 w1 n h => ⟨_, rfl, run_loadP 83 (.tmp 3) ga 0 83 [] [.int .i64 x1, .int .i64 x2] [] _ rfl (h.var n 3 (by kernel_rfl)) (Row.later ra h.inv.1) rfl Try.underlying83 rfl (szPin _ _)⟩⟩
    · refine .inl ⟨.inl rfl, ?_⟩
      exact .inl ⟨by kernel_rfl, fun L a1 w1 n h => ⟨_, rfl, run_loadP 83 (.tmp 4) gb 0 83 [] [.int .i64 y1, .int .i64 y2] [] _ rfl (h.var n 4 (by kernel_rfl)) (Row.later rb h.inv.1) rfl Try.underlying83 rfl (szPin _ _)⟩⟩
    · refine .inl ⟨.inl rfl, ?_⟩
      refine .inr fun L a1 w1 n h K hK => ?_
      have e0 : a1.eval (.tmp 8) = pin x1 x2 := h.dep n 0 8 (by kernel_rfl) rfl
      have e1 : a1.eval (.tmp 9) = pin y1 y2 := h.dep n 1 9 (by kernel_rfl) rfl
      refine JF.call (FNo_mono ) h hK 10 rfl 52 _ _ #[pin x1 x2, pin y1 y2] rfl Try.call52 ?_ (less_any x1 x2 y1 y2 w1) ?_
      · simp only [List.map_toArray, List.map_cons, List.map_nil, e0, e1]
      · rintro e w3 ⟨rfl, b9⟩
        exact ⟨_, rfl, rfl, trivial, b9⟩
    · refine .inl ⟨.inl rfl, ?_⟩
      exact .inl ⟨by kernel_rfl, fun L a1 w1 n h => ⟨_, rfl, run_loadP 83 (.tmp 3) ga 0 83 [] [.int .i64 x1, .int .i64 x2] [] _ rfl (h.var n 3 (by kernel_rfl)) (Row.later ra h.inv.1) rfl Try.underlying83 rfl (szPin _ _)⟩⟩
    · refine .inl ⟨.inl rfl, ?_⟩
      exact .inl ⟨by kernel_rfl, fun L a1 w1 n h => ⟨_, rfl, run_loadP 83 (.tmp 4) gb 0 83 [] [.int .i64 y1, .int .i64 y2] [] _ rfl (h.var n 4 (by kernel_rfl)) (Row.later rb h.inv.1) rfl Try.underlying83 rfl (szPin _ _)⟩⟩
    · refine .inl ⟨.inl rfl, ?_⟩
      refine .inr fun L a1 w1 n h K hK => ?_
      have e0 : a1.eval (.tmp 11) = pin x1 x2 := h.dep n 3 11 (by kernel_rfl) rfl
      have e1 : a1.eval (.tmp 12) = pin y1 y2 := h.dep n 4 12 (by kernel_rfl) rfl
      refine JF.call (FNo_mono ) h hK 13 rfl 54 _ _ #[pin x1 x2, pin y1 y2] rfl Try.call54 ?_ (rless_any x1 x2 y1 y2 w1) ?_
      · simp only [List.map_toArray, List.map_cons, List.map_nil, e0, e1]
      · rintro e w3 ⟨rfl, b9⟩
        exact ⟨_, rfl, rfl, trivial, b9⟩
    · refine .inl ⟨.inl rfl, ?_⟩
      exact .inl ⟨by kernel_rfl, fun L a1 w1 n h => ⟨_, rfl, run_neqB (.tmp 10) (.tmp 13) _ _ rfl (h.dep n 2 10 (by kernel_rfl) rfl) (h.dep n 5 13 (by kernel_rfl) rfl) (fun w => (eqBool _ _ w).trans (by simp))⟩⟩
    · refine .inl ⟨.inl rfl, ?_⟩
      exact .inl ⟨by kernel_rfl, fun L a1 w1 n h => ⟨_, rfl, run_move (.tmp 14) rfl (h.dep n 6 14 (by kernel_rfl) rfl)⟩⟩
    · refine .inl ⟨.inr ⟨7, false, 15, rfl, by kernel_rfl, rfl, by simp, fun v h => h⟩, ?_⟩
      exact .inl ⟨by kernel_rfl, fun L a1 w1 n h => ⟨_, rfl, run_loadP 83 (.tmp 3) ga 0 83 [] [.int .i64 x1, .int .i64 x2] [] _ rfl (h.var n 3 (by kernel_rfl)) (Row.later ra h.inv.1) rfl Try.underlying83 rfl (szPin _ _)⟩⟩
    · refine .inl ⟨.inr ⟨7, false, 15, rfl, by kernel_rfl, rfl, by simp, fun v h => h⟩, ?_⟩
      exact .inl ⟨by kernel_rfl, fun L a1 w1 n h => ⟨_, rfl, run_loadP 83 (.tmp 3) ga 0 83 [] [.int .i64 x1, .int .i64 x2] [] _ rfl (h.var n 3 (by kernel_rfl)) (Row.later ra h.inv.1) rfl Try.underlying83 rfl (szPin _ _)⟩⟩
    · refine .inl ⟨.inr ⟨7, false, 15, rfl, by kernel_rfl, rfl, by simp, fun v h => h⟩, ?_⟩
      refine .inr fun L a1 w1 n h K hK => ?_
      have e0 : a1.eval (.tmp 16) = pin x1 x2 := h.dep n 8 16 (by kernel_rfl) rfl
      have e1 : a1.eval (.tmp 17) = pin x1 x2 := h.dep n 9 17 (by kernel_rfl) rfl
      refine JF.call (FNo_mono ) h hK 18 rfl 52 _ _ #[pin x1 x2, pin x1 x2] rfl Try.call52 ?_ (less_any x1 x2 x1 x2 w1) ?_
      · simp only [List.map_toArray, List.map_cons, List.map_nil, e0, e1]
      · rintro e w3 ⟨rfl, b9⟩
        exact ⟨_, rfl, congrArg Value.bool (lessB_self _ _), trivial, b9⟩
    · refine .inl ⟨.inl rfl, ?_⟩
      exact .inl ⟨by kernel_rfl, fun L a1 w1 n h => ⟨_, rfl, run_pickF (.tmp 15) _ _ rfl (h.dep n 7 15 (by kernel_rfl) rfl) (h.dep n 10 18 (by kernel_rfl) rfl)⟩⟩
  case heSO1 =>
    intro V w5 hV2 hJ
    have hz : V 11 = .bool false := hV2 11 19 rfl
    have bw5 : Below wc.heap.size wc w5 := hJ.1
    have ra := Row.later ra bw5
    have rb := Row.later rb bw5
    have rc := Row.later rc bw5
    clear hV2 hJ
    simp only [putOps, List.setIfInBounds_toArray, List.set_cons_succ, List.set_cons_zero, Nat.reduceAdd]
    rw [hz]
    refine hK11 _ _ ?_
    clear hz
    go_wp2_with (first
      | (with_reducible refine wl_load_row rfl 83 (.tmp 3) ga 83 [.int .i64 x1, .int .i64 x2] _ rfl rfl ra Try.underlying83 rfl (szPin _ _) ?_)
      | (with_reducible refine wl_load_row rfl 83 (.tmp 4) gb 83 [.int .i64 y1, .int .i64 y2] _ rfl rfl rb Try.underlying83 rfl (szPin _ _) ?_))
    refine (hL1 w5).mono ?_
    rintro en w6 ⟨rfl, bw6⟩
    have ra := Row.later ra bw6
    have rb := Row.later rb bw6
    have rc := Row.later rc bw6
    have B6 := bwc.trans ((bw5.trans (bw6.mono bw5.size)).mono bwc.size)
    go_wp2_with (first
      | (with_reducible refine wg_load_row 4 false 24 rfl rfl rfl 83 (.tmp 4) gb 83 [.int .i64 y1, .int .i64 y2] _ rfl rfl rb Try.underlying83 rfl (szPin _ _) ?_)
      | (with_reducible refine wg_load_row 4 false 24 rfl rfl rfl 83 (.tmp 5) gc 83 [.int .i64 z1, .int .i64 z2] _ rfl rfl rc Try.underlying83 rfl (szPin _ _) ?_))
    refine (hL2 w6).mono ?_
    rintro en w7 ⟨rfl, bw7⟩
    have B7 := B6.trans (bw7.mono B6.size)
    have ra := Row.later ra bw7
    have rb := Row.later rb bw7
    have rc := Row.later rc bw7
    go_wp2_with (first
      | (with_reducible refine wg_load_row 10 false 30 rfl rfl rfl 83 (.tmp 3) ga 83 [.int .i64 x1, .int .i64 x2] _ rfl rfl ra Try.underlying83 rfl (szPin _ _) ?_)
      | (with_reducible refine wg_load_row 10 false 30 rfl rfl rfl 83 (.tmp 5) gc 83 [.int .i64 z1, .int .i64 z2] _ rfl rfl rc Try.underlying83 rfl (szPin _ _) ?_))
    refine (hL3 w7).mono ?_
    rintro en w8 ⟨rfl, bw8⟩
    have B8 := B7.trans (bw8.mono B7.size)
    have ra := Row.later ra bw8
    have rb := Row.later rb bw8
    have rc := Row.later rc bw8
    go_wp2_with fail
    rename_i K20 hK20
    refine wp_region_valsS [7, 18] (Sorder_tt ga gb gc x1 x2 y1 y2 z1 z2 true true) (JF w8 [7, 18] FNo) (by kernel_rfl) (by kernel_rfl) (by kernel_rfl) (by kernel_rfl) (JF.start _) ?obsSorder_tt ?heSorder_tt
    case obsSorder_tt =>
      refine ⟨?_, ?_, ?_, ?_, ?_, ?_, ?_, ?_, ?_, ?_, ?_, ?_, ?_, ?_, ?_, ?_, ?_, ?_, ?_, ?_, ?_, trivial⟩
      · refine .inl ⟨.inl rfl, ?_⟩
        exact .inl ⟨by kernel_rfl, fun L a1 w1 n h => ⟨_, rfl, run_move (.tmp 7) rfl (h.var n 7 (by kernel_rfl))⟩⟩
      · refine .inl ⟨.inl rfl, ?_⟩
        exact .inl ⟨by kernel_rfl, fun L a1 w1 n h => ⟨_, rfl, run_move (.tmp 35) rfl (h.dep n 0 35 (by kernel_rfl) rfl)⟩⟩
      · refine .inl ⟨.inr ⟨1, true, 36, rfl, by kernel_rfl, rfl, by simp, fun v h => h⟩, ?_⟩
        exact .inl ⟨by kernel_rfl, fun L a1 w1 n h => ⟨_, rfl, run_loadP 83 (.tmp 3) ga 0 83 [] [.int .i64 x1, .int .i64 x2] [] _ rfl (h.var n 3 (by kernel_rfl)) (Row.later ra h.inv.1) rfl Try.underlying83 rfl (szPin _ _)⟩⟩
      · refine .inl ⟨.inr ⟨1, true, 36, rfl, by kernel_rfl, rfl, by simp, fun v h => h⟩, ?_⟩
        exact .inl ⟨by kernel_rfl, fun L a1 w1 n h => ⟨_, rfl, run_loadP 83 (.tmp 4) gb 0 83 [] [.int .i64 y1, .int .i64 y2] [] _ rfl (h.var n 4 (by kernel_rfl)) (Row.later rb h.inv.1) rfl Try.underlying83 rfl (szPin _ _)⟩⟩
      · refine .inl ⟨.inr ⟨1, true, 36, rfl, by kernel_rfl, rfl, by simp, fun v h => h⟩, ?_⟩
        exact .inl ⟨by kernel_rfl, fun L a1 w1 n h => ⟨_, rfl, run_eqlS' (.tmp 37) (.tmp 38) rfl (fun w => (eqPin _ _ _ _ w).trans (by rw [hq])) (h.dep n 2 37 (by kernel_rfl) rfl) (h.dep n 3 38 (by kernel_rfl) rfl) (by kernel_rfl)⟩⟩
      · refine .inl ⟨.inr ⟨1, true, 36, rfl, by kernel_rfl, rfl, by simp, fun v h => h⟩, ?_⟩
        exact .inl ⟨by kernel_rfl, fun L a1 w1 n h => ⟨_, rfl, run_loadP 83 (.tmp 3) ga 0 83 [] [.int .i64 x1, .int .i64 x2] [] _ rfl (h.var n 3 (by kernel_rfl)) (Row.later ra h.inv.1) rfl Try.underlying83 rfl (szPin _ _)⟩⟩
      · refine .inl ⟨.inr ⟨1, true, 36, rfl, by kernel_rfl, rfl, by simp, fun v h => h⟩, ?_⟩
        exact .inl ⟨by kernel_rfl, fun L a1 w1 n h => ⟨_, rfl, run_loadP 83 (.tmp 4) gb 0 83 [] [.int .i64 y1, .int .i64 y2] [] _ rfl (h.var n 4 (by kernel_rfl)) (Row.later rb h.inv.1) rfl Try.underlying83 rfl (szPin _ _)⟩⟩
      · refine .inl ⟨.inr ⟨1, true, 36, rfl, by kernel_rfl, rfl, by simp, fun v h => h⟩, ?_⟩
        refine .inr fun L a1 w1 n h K hK => ?_
        have e0 : a1.eval (.tmp 40) = pin x1 x2 := h.dep n 5 40 (by kernel_rfl) rfl
        have e1 : a1.eval (.tmp 41) = pin y1 y2 := h.dep n 6 41 (by kernel_rfl) rfl
        refine JF.call (FNo_mono ) h hK 42 rfl 52 _ _ #[pin x1 x2, pin y1 y2] rfl Try.call52 ?_ (less_any x1 x2 y1 y2 w1) ?_
        · simp only [List.map_toArray, List.map_cons, List.map_nil, e0, e1]
        · rintro e w3 ⟨rfl, b9⟩
          exact ⟨_, rfl, congrArg Value.bool hab, trivial, b9⟩
      · refine .inl ⟨.inr ⟨1, true, 36, rfl, by kernel_rfl, rfl, by simp, fun v h => h⟩, ?_⟩
        exact .inl ⟨by kernel_rfl, fun L a1 w1 n h => ⟨_, rfl, run_notB (.tmp 42) true rfl (h.dep n 7 42 (by kernel_rfl) rfl) rfl⟩⟩
      · refine .inl ⟨.inr ⟨1, true, 36, rfl, by kernel_rfl, rfl, by simp, fun v h => h⟩, ?_⟩
        exact .inl ⟨by kernel_rfl, fun L a1 w1 n h => ⟨_, rfl, run_move (.tmp 43) rfl (h.dep n 8 43 (by kernel_rfl) rfl)⟩⟩
      · exact .inr ⟨⟨9, true, 44, rfl, by kernel_rfl, rfl, by simp, fun v h => by rw [show v = .bool false from h]; first | exact ne_tf | exact ne_ft | exact ne_undef _⟩, by kernel_rfl, rfl⟩
      · exact .inr ⟨⟨9, true, 44, rfl, by kernel_rfl, rfl, by simp, fun v h => by rw [show v = .bool false from h]; first | exact ne_tf | exact ne_ft | exact ne_undef _⟩, by kernel_rfl, rfl⟩
      · exact .inr ⟨⟨9, true, 44, rfl, by kernel_rfl, rfl, by simp, fun v h => by rw [show v = .bool false from h]; first | exact ne_tf | exact ne_ft | exact ne_undef _⟩, by kernel_rfl, rfl⟩
      · exact .inr ⟨⟨9, true, 44, rfl, by kernel_rfl, rfl, by simp, fun v h => by rw [show v = .bool false from h]; first | exact ne_tf | exact ne_ft | exact ne_undef _⟩, by kernel_rfl, rfl⟩
      · refine .inl ⟨.inr ⟨1, true, 36, rfl, by kernel_rfl, rfl, by simp, fun v h => h⟩, ?_⟩
        exact .inl ⟨by kernel_rfl, fun L a1 w1 n h => ⟨_, rfl, run_pickF (.tmp 44) _ _ rfl (h.dep n 9 44 (by kernel_rfl) rfl) rfl⟩⟩
      · refine .inl ⟨.inr ⟨1, true, 36, rfl, by kernel_rfl, rfl, by simp, fun v h => h⟩, ?_⟩
        exact .inl ⟨by kernel_rfl, fun L a1 w1 n h => ⟨_, rfl, run_eqlB (.tmp 39) (.tmp 49) _ _ rfl (h.dep n 4 39 (by kernel_rfl) rfl) (h.dep n 14 49 (by kernel_rfl) rfl) (fun w => (eqBool _ _ w).trans rfl)⟩⟩
      · refine .inl ⟨.inl rfl, ?_⟩
        exact .inl ⟨by kernel_rfl, fun L a1 w1 n h => ⟨_, rfl, run_pickT (.tmp 36) _ _ rfl (h.dep n 1 36 (by kernel_rfl) rfl) (h.dep n 15 50 (by kernel_rfl) rfl)⟩⟩
      · refine .inl ⟨.inl rfl, ?_⟩
        exact .inl ⟨by kernel_rfl, fun L a1 w1 n h => ⟨_, rfl, run_move (.tmp 51) rfl (h.dep n 16 51 (by kernel_rfl) rfl)⟩⟩
      · refine .inl ⟨.inr ⟨17, true, 52, rfl, by kernel_rfl, rfl, by simp, fun v h => h⟩, ?_⟩
        refine .inr fun L a1 w1 n h K hK => ?_
        refine JF.call (FNo_mono ) h hK 53 rfl 44 _ _ #[] rfl Try.call44 ?_ (awake_any w1) ?_
        · simp
        · rintro e w3 ⟨rfl, b9⟩
          exact ⟨_, rfl, rfl, trivial, b9⟩
      · refine .inl ⟨.inl rfl, ?_⟩
        exact .inl ⟨by kernel_rfl, fun L a1 w1 n h => ⟨_, rfl, run_pickT (.tmp 52) _ _ rfl (h.dep n 17 52 (by kernel_rfl) rfl) (h.dep n 18 53 (by kernel_rfl) rfl)⟩⟩
      · refine .inl ⟨.inl rfl, ?_⟩
        exact .inl ⟨by kernel_rfl, fun L a1 w1 n h => ⟨_, rfl, run_assign (.tmp 54) rfl (h.dep n 19 54 (by kernel_rfl) rfl)⟩⟩
    case heSorder_tt =>
      intro V w9 hV2 hJ
      have hz : V 20 = .bool true := hV2 20 6 rfl
      have bw9 : Below w8.heap.size w8 w9 := hJ.1
      have ra := Row.later ra bw9
      have rb := Row.later rb bw9
      have rc := Row.later rc bw9
      clear hV2 hJ
      simp only [putOps, List.setIfInBounds_toArray, List.set_cons_succ, List.set_cons_zero, Nat.reduceAdd]
      rw [hz]
      refine hK20 _ _ ?_
      clear hz
      go_wp2
      go_ret
      exact ⟨rfl, B8.trans (bw9.mono B8.size)⟩

set_option maxRecDepth 100000 in
set_option maxHeartbeats 2000000 in
theorem order_tf (x1 x2 y1 y2 z1 z2 : Int) (w : World) (hab : lessB x1 x2 y1 y2 = true) (hbc : lessB y1 y2 z1 z2 = false) (hq : decide (x1 = y1 ∧ x2 = y2) = false) : Calls Try.prog 11 #[pin x1 x2, pin y1 y2, pin z1 z2] w fun e w' => e = .returned (.bool true) ∧ Below w.heap.size w w' := by
  have hL1 := less_any x1 x2 y1 y2
  have hL2 := less_any y1 y2 z1 z2
  have hL3 := less_any x1 x2 z1 z2
  rw [hab] at hL1
  rw [hbc] at hL2
  go_enter Try.func11, Try.ntmps11
  go_wp2_with (first
    | (with_reducible refine wl_box (o := ⟨some 3, _, _, _, _, _⟩) rfl 83 (.tmp 0) _ [.int .i64 x1, .int .i64 x2] rfl rfl rfl ?_; intro ga wa ra pa la ba')
    | (with_reducible refine wl_box (o := ⟨some 4, _, _, _, _, _⟩) rfl 83 (.tmp 1) _ [.int .i64 y1, .int .i64 y2] rfl rfl rfl ?_; intro gb wb rb pb lb bb; have ra := Row.later ra bb)
    | (with_reducible refine wl_box (o := ⟨some 5, _, _, _, _, _⟩) rfl 83 (.tmp 2) _ [.int .i64 z1, .int .i64 z2] rfl rfl rfl ?_; intro gc wc rc pc lc bc; have ra := Row.later ra bc; have rb := Row.later rb bc))
  have bwc := (ba'.trans (bb.mono ba'.size)).trans (bc.mono (ba'.trans (bb.mono ba'.size)).size)
  rename_i K11 hK11
  refine wp_region_valsS [2, 5, 10] (SO1 ga gb gc x1 x2 y1 y2 z1 z2 true true) (JF wc [2, 5, 10] FNo) (by kernel_rfl) (by kernel_rfl) (by kernel_rfl) (by kernel_rfl) (JF.start _) ?obsSO1 ?heSO1
  case obsSO1 =>
    refine ⟨?_, ?_, ?_, ?_, ?_, ?_, ?_, ?_, ?_, ?_, ?_, ?_, trivial⟩
    · refine .inl ⟨.inl rfl, ?_⟩
      exact .inl ⟨by kernel_rfl, fun L a1 w1 n h => ⟨_, rfl, run_loadP 83 (.tmp 3) ga 0 83 [] [.int .i64 x1, .int .i64 x2] [] _ rfl (h.var n 3 (by kernel_rfl)) (Row.later ra h.inv.1) rfl Try.underlying83 rfl (szPin _ _)⟩⟩
    · refine .inl ⟨.inl rfl, ?_⟩
      exact .inl ⟨by kernel_rfl, fun L a1 w1 n h => ⟨_, rfl, run_loadP 83 (.tmp 4) gb 0 83 [] [.int .i64 y1, .int .i64 y2] [] _ rfl (h.var n 4 (by kernel_rfl)) (Row.later rb h.inv.1) rfl Try.underlying83 rfl (szPin _ _)⟩⟩
    · refine .inl ⟨.inl rfl, ?_⟩
      refine .inr fun L a1 w1 n h K hK => ?_
      have e0 : a1.eval (.tmp 8) = pin x1 x2 := h.dep n 0 8 (by kernel_rfl) rfl
      have e1 : a1.eval (.tmp 9) = pin y1 y2 := h.dep n 1 9 (by kernel_rfl) rfl
      refine JF.call (FNo_mono ) h hK 10 rfl 52 _ _ #[pin x1 x2, pin y1 y2] rfl Try.call52 ?_ (less_any x1 x2 y1 y2 w1) ?_
      · simp only [List.map_toArray, List.map_cons, List.map_nil, e0, e1]
      · rintro e w3 ⟨rfl, b9⟩
        exact ⟨_, rfl, rfl, trivial, b9⟩
    · refine .inl ⟨.inl rfl, ?_⟩
      exact .inl ⟨by kernel_rfl, fun L a1 w1 n h => ⟨_, rfl, run_loadP 83 (.tmp 3) ga 0 83 [] [.int .i64 x1, .int .i64 x2] [] _ rfl (h.var n 3 (by kernel_rfl)) (Row.later ra h.inv.1) rfl Try.underlying83 rfl (szPin _ _)⟩⟩
    · refine .inl ⟨.inl rfl, ?_⟩
      exact .inl ⟨by kernel_rfl, fun L a1 w1 n h => ⟨_, rfl, run_loadP 83 (.tmp 4) gb 0 83 [] [.int .i64 y1, .int .i64 y2] [] _ rfl (h.var n 4 (by kernel_rfl)) (Row.later rb h.inv.1) rfl Try.underlying83 rfl (szPin _ _)⟩⟩
    · refine .inl ⟨.inl rfl, ?_⟩
      refine .inr fun L a1 w1 n h K hK => ?_
      have e0 : a1.eval (.tmp 11) = pin x1 x2 := h.dep n 3 11 (by kernel_rfl) rfl
      have e1 : a1.eval (.tmp 12) = pin y1 y2 := h.dep n 4 12 (by kernel_rfl) rfl
      refine JF.call (FNo_mono ) h hK 13 rfl 54 _ _ #[pin x1 x2, pin y1 y2] rfl Try.call54 ?_ (rless_any x1 x2 y1 y2 w1) ?_
      · simp only [List.map_toArray, List.map_cons, List.map_nil, e0, e1]
      · rintro e w3 ⟨rfl, b9⟩
        exact ⟨_, rfl, rfl, trivial, b9⟩
    · refine .inl ⟨.inl rfl, ?_⟩
      exact .inl ⟨by kernel_rfl, fun L a1 w1 n h => ⟨_, rfl, run_neqB (.tmp 10) (.tmp 13) _ _ rfl (h.dep n 2 10 (by kernel_rfl) rfl) (h.dep n 5 13 (by kernel_rfl) rfl) (fun w => (eqBool _ _ w).trans (by simp))⟩⟩
    · refine .inl ⟨.inl rfl, ?_⟩
      exact .inl ⟨by kernel_rfl, fun L a1 w1 n h => ⟨_, rfl, run_move (.tmp 14) rfl (h.dep n 6 14 (by kernel_rfl) rfl)⟩⟩
    · refine .inl ⟨.inr ⟨7, false, 15, rfl, by kernel_rfl, rfl, by simp, fun v h => h⟩, ?_⟩
      exact .inl ⟨by kernel_rfl, fun L a1 w1 n h => ⟨_, rfl, run_loadP 83 (.tmp 3) ga 0 83 [] [.int .i64 x1, .int .i64 x2] [] _ rfl (h.var n 3 (by kernel_rfl)) (Row.later ra h.inv.1) rfl Try.underlying83 rfl (szPin _ _)⟩⟩
    · refine .inl ⟨.inr ⟨7, false, 15, rfl, by kernel_rfl, rfl, by simp, fun v h => h⟩, ?_⟩
      exact .inl ⟨by kernel_rfl, fun L a1 w1 n h => ⟨_, rfl, run_loadP 83 (.tmp 3) ga 0 83 [] [.int .i64 x1, .int .i64 x2] [] _ rfl (h.var n 3 (by kernel_rfl)) (Row.later ra h.inv.1) rfl Try.underlying83 rfl (szPin _ _)⟩⟩
    · refine .inl ⟨.inr ⟨7, false, 15, rfl, by kernel_rfl, rfl, by simp, fun v h => h⟩, ?_⟩
      refine .inr fun L a1 w1 n h K hK => ?_
      have e0 : a1.eval (.tmp 16) = pin x1 x2 := h.dep n 8 16 (by kernel_rfl) rfl
      have e1 : a1.eval (.tmp 17) = pin x1 x2 := h.dep n 9 17 (by kernel_rfl) rfl
      refine JF.call (FNo_mono ) h hK 18 rfl 52 _ _ #[pin x1 x2, pin x1 x2] rfl Try.call52 ?_ (less_any x1 x2 x1 x2 w1) ?_
      · simp only [List.map_toArray, List.map_cons, List.map_nil, e0, e1]
      · rintro e w3 ⟨rfl, b9⟩
        exact ⟨_, rfl, congrArg Value.bool (lessB_self _ _), trivial, b9⟩
    · refine .inl ⟨.inl rfl, ?_⟩
      exact .inl ⟨by kernel_rfl, fun L a1 w1 n h => ⟨_, rfl, run_pickF (.tmp 15) _ _ rfl (h.dep n 7 15 (by kernel_rfl) rfl) (h.dep n 10 18 (by kernel_rfl) rfl)⟩⟩
  case heSO1 =>
    intro V w5 hV2 hJ
    have hz : V 11 = .bool false := hV2 11 19 rfl
    have bw5 : Below wc.heap.size wc w5 := hJ.1
    have ra := Row.later ra bw5
    have rb := Row.later rb bw5
    have rc := Row.later rc bw5
    clear hV2 hJ
    simp only [putOps, List.setIfInBounds_toArray, List.set_cons_succ, List.set_cons_zero, Nat.reduceAdd]
    rw [hz]
    refine hK11 _ _ ?_
    clear hz
    go_wp2_with (first
      | (with_reducible refine wl_load_row rfl 83 (.tmp 3) ga 83 [.int .i64 x1, .int .i64 x2] _ rfl rfl ra Try.underlying83 rfl (szPin _ _) ?_)
      | (with_reducible refine wl_load_row rfl 83 (.tmp 4) gb 83 [.int .i64 y1, .int .i64 y2] _ rfl rfl rb Try.underlying83 rfl (szPin _ _) ?_))
    refine (hL1 w5).mono ?_
    rintro en w6 ⟨rfl, bw6⟩
    have ra := Row.later ra bw6
    have rb := Row.later rb bw6
    have rc := Row.later rc bw6
    have B6 := bwc.trans ((bw5.trans (bw6.mono bw5.size)).mono bwc.size)
    go_wp2_with (first
      | (with_reducible refine wg_load_row 4 false 24 rfl rfl rfl 83 (.tmp 4) gb 83 [.int .i64 y1, .int .i64 y2] _ rfl rfl rb Try.underlying83 rfl (szPin _ _) ?_)
      | (with_reducible refine wg_load_row 4 false 24 rfl rfl rfl 83 (.tmp 5) gc 83 [.int .i64 z1, .int .i64 z2] _ rfl rfl rc Try.underlying83 rfl (szPin _ _) ?_))
    refine (hL2 w6).mono ?_
    rintro en w7 ⟨rfl, bw7⟩
    have B7 := B6.trans (bw7.mono B6.size)
    have ra := Row.later ra bw7
    have rb := Row.later rb bw7
    have rc := Row.later rc bw7
    go_wp2_with fail
    rename_i K20 hK20
    refine wp_region_valsS [7, 18] (Sorder_tf ga gb gc x1 x2 y1 y2 z1 z2 true true) (JF w7 [7, 18] FNo) (by kernel_rfl) (by kernel_rfl) (by kernel_rfl) (by kernel_rfl) (JF.start _) ?obsSorder_tf ?heSorder_tf
    case obsSorder_tf =>
      refine ⟨?_, ?_, ?_, ?_, ?_, ?_, ?_, ?_, ?_, ?_, ?_, ?_, ?_, ?_, ?_, ?_, ?_, ?_, ?_, ?_, ?_, trivial⟩
      · refine .inl ⟨.inl rfl, ?_⟩
        exact .inl ⟨by kernel_rfl, fun L a1 w1 n h => ⟨_, rfl, run_move (.tmp 7) rfl (h.var n 7 (by kernel_rfl))⟩⟩
      · refine .inl ⟨.inl rfl, ?_⟩
        exact .inl ⟨by kernel_rfl, fun L a1 w1 n h => ⟨_, rfl, run_move (.tmp 35) rfl (h.dep n 0 35 (by kernel_rfl) rfl)⟩⟩
      · refine .inl ⟨.inr ⟨1, true, 36, rfl, by kernel_rfl, rfl, by simp, fun v h => h⟩, ?_⟩
        exact .inl ⟨by kernel_rfl, fun L a1 w1 n h => ⟨_, rfl, run_loadP 83 (.tmp 3) ga 0 83 [] [.int .i64 x1, .int .i64 x2] [] _ rfl (h.var n 3 (by kernel_rfl)) (Row.later ra h.inv.1) rfl Try.underlying83 rfl (szPin _ _)⟩⟩
      · refine .inl ⟨.inr ⟨1, true, 36, rfl, by kernel_rfl, rfl, by simp, fun v h => h⟩, ?_⟩
        exact .inl ⟨by kernel_rfl, fun L a1 w1 n h => ⟨_, rfl, run_loadP 83 (.tmp 4) gb 0 83 [] [.int .i64 y1, .int .i64 y2] [] _ rfl (h.var n 4 (by kernel_rfl)) (Row.later rb h.inv.1) rfl Try.underlying83 rfl (szPin _ _)⟩⟩
      · refine .inl ⟨.inr ⟨1, true, 36, rfl, by kernel_rfl, rfl, by simp, fun v h => h⟩, ?_⟩
        exact .inl ⟨by kernel_rfl, fun L a1 w1 n h => ⟨_, rfl, run_eqlS' (.tmp 37) (.tmp 38) rfl (fun w => (eqPin _ _ _ _ w).trans (by rw [hq])) (h.dep n 2 37 (by kernel_rfl) rfl) (h.dep n 3 38 (by kernel_rfl) rfl) (by kernel_rfl)⟩⟩
      · refine .inl ⟨.inr ⟨1, true, 36, rfl, by kernel_rfl, rfl, by simp, fun v h => h⟩, ?_⟩
        exact .inl ⟨by kernel_rfl, fun L a1 w1 n h => ⟨_, rfl, run_loadP 83 (.tmp 3) ga 0 83 [] [.int .i64 x1, .int .i64 x2] [] _ rfl (h.var n 3 (by kernel_rfl)) (Row.later ra h.inv.1) rfl Try.underlying83 rfl (szPin _ _)⟩⟩
      · refine .inl ⟨.inr ⟨1, true, 36, rfl, by kernel_rfl, rfl, by simp, fun v h => h⟩, ?_⟩
        exact .inl ⟨by kernel_rfl, fun L a1 w1 n h => ⟨_, rfl, run_loadP 83 (.tmp 4) gb 0 83 [] [.int .i64 y1, .int .i64 y2] [] _ rfl (h.var n 4 (by kernel_rfl)) (Row.later rb h.inv.1) rfl Try.underlying83 rfl (szPin _ _)⟩⟩
      · refine .inl ⟨.inr ⟨1, true, 36, rfl, by kernel_rfl, rfl, by simp, fun v h => h⟩, ?_⟩
        refine .inr fun L a1 w1 n h K hK => ?_
        have e0 : a1.eval (.tmp 40) = pin x1 x2 := h.dep n 5 40 (by kernel_rfl) rfl
        have e1 : a1.eval (.tmp 41) = pin y1 y2 := h.dep n 6 41 (by kernel_rfl) rfl
        refine JF.call (FNo_mono ) h hK 42 rfl 52 _ _ #[pin x1 x2, pin y1 y2] rfl Try.call52 ?_ (less_any x1 x2 y1 y2 w1) ?_
        · simp only [List.map_toArray, List.map_cons, List.map_nil, e0, e1]
        · rintro e w3 ⟨rfl, b9⟩
          exact ⟨_, rfl, congrArg Value.bool hab, trivial, b9⟩
      · refine .inl ⟨.inr ⟨1, true, 36, rfl, by kernel_rfl, rfl, by simp, fun v h => h⟩, ?_⟩
        exact .inl ⟨by kernel_rfl, fun L a1 w1 n h => ⟨_, rfl, run_notB (.tmp 42) true rfl (h.dep n 7 42 (by kernel_rfl) rfl) rfl⟩⟩
      · refine .inl ⟨.inr ⟨1, true, 36, rfl, by kernel_rfl, rfl, by simp, fun v h => h⟩, ?_⟩
        exact .inl ⟨by kernel_rfl, fun L a1 w1 n h => ⟨_, rfl, run_move (.tmp 43) rfl (h.dep n 8 43 (by kernel_rfl) rfl)⟩⟩
      · exact .inr ⟨⟨9, true, 44, rfl, by kernel_rfl, rfl, by simp, fun v h => by rw [show v = .bool false from h]; first | exact ne_tf | exact ne_ft | exact ne_undef _⟩, by kernel_rfl, rfl⟩
      · exact .inr ⟨⟨9, true, 44, rfl, by kernel_rfl, rfl, by simp, fun v h => by rw [show v = .bool false from h]; first | exact ne_tf | exact ne_ft | exact ne_undef _⟩, by kernel_rfl, rfl⟩
      · exact .inr ⟨⟨9, true, 44, rfl, by kernel_rfl, rfl, by simp, fun v h => by rw [show v = .bool false from h]; first | exact ne_tf | exact ne_ft | exact ne_undef _⟩, by kernel_rfl, rfl⟩
      · exact .inr ⟨⟨9, true, 44, rfl, by kernel_rfl, rfl, by simp, fun v h => by rw [show v = .bool false from h]; first | exact ne_tf | exact ne_ft | exact ne_undef _⟩, by kernel_rfl, rfl⟩
      · refine .inl ⟨.inr ⟨1, true, 36, rfl, by kernel_rfl, rfl, by simp, fun v h => h⟩, ?_⟩
        exact .inl ⟨by kernel_rfl, fun L a1 w1 n h => ⟨_, rfl, run_pickF (.tmp 44) _ _ rfl (h.dep n 9 44 (by kernel_rfl) rfl) rfl⟩⟩
      · refine .inl ⟨.inr ⟨1, true, 36, rfl, by kernel_rfl, rfl, by simp, fun v h => h⟩, ?_⟩
        exact .inl ⟨by kernel_rfl, fun L a1 w1 n h => ⟨_, rfl, run_eqlB (.tmp 39) (.tmp 49) _ _ rfl (h.dep n 4 39 (by kernel_rfl) rfl) (h.dep n 14 49 (by kernel_rfl) rfl) (fun w => (eqBool _ _ w).trans rfl)⟩⟩
      · refine .inl ⟨.inl rfl, ?_⟩
        exact .inl ⟨by kernel_rfl, fun L a1 w1 n h => ⟨_, rfl, run_pickT (.tmp 36) _ _ rfl (h.dep n 1 36 (by kernel_rfl) rfl) (h.dep n 15 50 (by kernel_rfl) rfl)⟩⟩
      · refine .inl ⟨.inl rfl, ?_⟩
        exact .inl ⟨by kernel_rfl, fun L a1 w1 n h => ⟨_, rfl, run_move (.tmp 51) rfl (h.dep n 16 51 (by kernel_rfl) rfl)⟩⟩
      · refine .inl ⟨.inr ⟨17, true, 52, rfl, by kernel_rfl, rfl, by simp, fun v h => h⟩, ?_⟩
        refine .inr fun L a1 w1 n h K hK => ?_
        refine JF.call (FNo_mono ) h hK 53 rfl 44 _ _ #[] rfl Try.call44 ?_ (awake_any w1) ?_
        · simp
        · rintro e w3 ⟨rfl, b9⟩
          exact ⟨_, rfl, rfl, trivial, b9⟩
      · refine .inl ⟨.inl rfl, ?_⟩
        exact .inl ⟨by kernel_rfl, fun L a1 w1 n h => ⟨_, rfl, run_pickT (.tmp 52) _ _ rfl (h.dep n 17 52 (by kernel_rfl) rfl) (h.dep n 18 53 (by kernel_rfl) rfl)⟩⟩
      · refine .inl ⟨.inl rfl, ?_⟩
        exact .inl ⟨by kernel_rfl, fun L a1 w1 n h => ⟨_, rfl, run_assign (.tmp 54) rfl (h.dep n 19 54 (by kernel_rfl) rfl)⟩⟩
    case heSorder_tf =>
      intro V w9 hV2 hJ
      have hz : V 20 = .bool true := hV2 20 6 rfl
      have bw9 : Below w7.heap.size w7 w9 := hJ.1
      have ra := Row.later ra bw9
      have rb := Row.later rb bw9
      have rc := Row.later rc bw9
      clear hV2 hJ
      simp only [putOps, List.setIfInBounds_toArray, List.set_cons_succ, List.set_cons_zero, Nat.reduceAdd]
      rw [hz]
      refine hK20 _ _ ?_
      clear hz
      go_wp2
      go_ret
      exact ⟨rfl, B7.trans (bw9.mono B7.size)⟩

set_option maxRecDepth 100000 in
set_option maxHeartbeats 2000000 in
theorem order_ft (x1 x2 y1 y2 z1 z2 : Int) (w : World) (hab : lessB x1 x2 y1 y2 = false) (hba : lessB y1 y2 x1 x2 = true) (hq : decide (x1 = y1 ∧ x2 = y2) = false) : Calls Try.prog 11 #[pin x1 x2, pin y1 y2, pin z1 z2] w fun e w' => e = .returned (.bool true) ∧ Below w.heap.size w w' := by
  have hL1 := less_any x1 x2 y1 y2
  have hL2 := less_any y1 y2 z1 z2
  have hL3 := less_any x1 x2 z1 z2
  rw [hab] at hL1
  go_enter Try.func11, Try.ntmps11
  go_wp2_with (first
    | (with_reducible refine wl_box (o := ⟨some 3, _, _, _, _, _⟩) rfl 83 (.tmp 0) _ [.int .i64 x1, .int .i64 x2] rfl rfl rfl ?_; intro ga wa ra pa la ba')
    | (with_reducible refine wl_box (o := ⟨some 4, _, _, _, _, _⟩) rfl 83 (.tmp 1) _ [.int .i64 y1, .int .i64 y2] rfl rfl rfl ?_; intro gb wb rb pb lb bb; have ra := Row.later ra bb)
    | (with_reducible refine wl_box (o := ⟨some 5, _, _, _, _, _⟩) rfl 83 (.tmp 2) _ [.int .i64 z1, .int .i64 z2] rfl rfl rfl ?_; intro gc wc rc pc lc bc; have ra := Row.later ra bc; have rb := Row.later rb bc))
  have bwc := (ba'.trans (bb.mono ba'.size)).trans (bc.mono (ba'.trans (bb.mono ba'.size)).size)
  rename_i K11 hK11
  refine wp_region_valsS [2, 5, 10] (SO1 ga gb gc x1 x2 y1 y2 z1 z2 true true) (JF wc [2, 5, 10] FNo) (by kernel_rfl) (by kernel_rfl) (by kernel_rfl) (by kernel_rfl) (JF.start _) ?obsSO1 ?heSO1
  case obsSO1 =>
    refine ⟨?_, ?_, ?_, ?_, ?_, ?_, ?_, ?_, ?_, ?_, ?_, ?_, trivial⟩
    · refine .inl ⟨.inl rfl, ?_⟩
      exact .inl ⟨by kernel_rfl, fun L a1 w1 n h => ⟨_, rfl, run_loadP 83 (.tmp 3) ga 0 83 [] [.int .i64 x1, .int .i64 x2] [] _ rfl (h.var n 3 (by kernel_rfl)) (Row.later ra h.inv.1) rfl Try.underlying83 rfl (szPin _ _)⟩⟩
    · refine .inl ⟨.inl rfl, ?_⟩
      exact .inl ⟨by kernel_rfl, fun L a1 w1 n h => ⟨_, rfl, run_loadP 83 (.tmp 4) gb 0 83 [] [.int .i64 y1, .int .i64 y2] [] _ rfl (h.var n 4 (by kernel_rfl)) (Row.later rb h.inv.1) rfl Try.underlying83 rfl (szPin _ _)⟩⟩
    · refine .inl ⟨.inl rfl, ?_⟩
      refine .inr fun L a1 w1 n h K hK => ?_
      have e0 : a1.eval (.tmp 8) = pin x1 x2 := h.dep n 0 8 (by kernel_rfl) rfl
      have e1 : a1.eval (.tmp 9) = pin y1 y2 := h.dep n 1 9 (by kernel_rfl) rfl
      refine JF.call (FNo_mono ) h hK 10 rfl 52 _ _ #[pin x1 x2, pin y1 y2] rfl Try.call52 ?_ (less_any x1 x2 y1 y2 w1) ?_
      · simp only [List.map_toArray, List.map_cons, List.map_nil, e0, e1]
      · rintro e w3 ⟨rfl, b9⟩
        exact ⟨_, rfl, rfl, trivial, b9⟩
    · refine .inl ⟨.inl rfl, ?_⟩
      exact .inl ⟨by kernel_rfl, fun L a1 w1 n h => ⟨_, rfl, run_loadP 83 (.tmp 3) ga 0 83 [] [.int .i64 x1, .int .i64 x2] [] _ rfl (h.var n 3 (by kernel_rfl)) (Row.later ra h.inv.1) rfl Try.underlying83 rfl (szPin _ _)⟩⟩
    · refine .inl ⟨.inl rfl, ?_⟩
      exact .inl ⟨by kernel_rfl, fun L a1 w1 n h => ⟨_, rfl, run_loadP 83 (.tmp 4) gb 0 83 [] [.int .i64 y1, .int .i64 y2] [] _ rfl (h.var n 4 (by kernel_rfl)) (Row.later rb h.inv.1) rfl Try.underlying83 rfl (szPin _ _)⟩⟩
    · refine .inl ⟨.inl rfl, ?_⟩
      refine .inr fun L a1 w1 n h K hK => ?_
      have e0 : a1.eval (.tmp 11) = pin x1 x2 := h.dep n 3 11 (by kernel_rfl) rfl
      have e1 : a1.eval (.tmp 12) = pin y1 y2 := h.dep n 4 12 (by kernel_rfl) rfl
      refine JF.call (FNo_mono ) h hK 13 rfl 54 _ _ #[pin x1 x2, pin y1 y2] rfl Try.call54 ?_ (rless_any x1 x2 y1 y2 w1) ?_
      · simp only [List.map_toArray, List.map_cons, List.map_nil, e0, e1]
      · rintro e w3 ⟨rfl, b9⟩
        exact ⟨_, rfl, rfl, trivial, b9⟩
    · refine .inl ⟨.inl rfl, ?_⟩
      exact .inl ⟨by kernel_rfl, fun L a1 w1 n h => ⟨_, rfl, run_neqB (.tmp 10) (.tmp 13) _ _ rfl (h.dep n 2 10 (by kernel_rfl) rfl) (h.dep n 5 13 (by kernel_rfl) rfl) (fun w => (eqBool _ _ w).trans (by simp))⟩⟩
    · refine .inl ⟨.inl rfl, ?_⟩
      exact .inl ⟨by kernel_rfl, fun L a1 w1 n h => ⟨_, rfl, run_move (.tmp 14) rfl (h.dep n 6 14 (by kernel_rfl) rfl)⟩⟩
    · refine .inl ⟨.inr ⟨7, false, 15, rfl, by kernel_rfl, rfl, by simp, fun v h => h⟩, ?_⟩
      exact .inl ⟨by kernel_rfl, fun L a1 w1 n h => ⟨_, rfl, run_loadP 83 (.tmp 3) ga 0 83 [] [.int .i64 x1, .int .i64 x2] [] _ rfl (h.var n 3 (by kernel_rfl)) (Row.later ra h.inv.1) rfl Try.underlying83 rfl (szPin _ _)⟩⟩
    · refine .inl ⟨.inr ⟨7, false, 15, rfl, by kernel_rfl, rfl, by simp, fun v h => h⟩, ?_⟩
      exact .inl ⟨by kernel_rfl, fun L a1 w1 n h => ⟨_, rfl, run_loadP 83 (.tmp 3) ga 0 83 [] [.int .i64 x1, .int .i64 x2] [] _ rfl (h.var n 3 (by kernel_rfl)) (Row.later ra h.inv.1) rfl Try.underlying83 rfl (szPin _ _)⟩⟩
    · refine .inl ⟨.inr ⟨7, false, 15, rfl, by kernel_rfl, rfl, by simp, fun v h => h⟩, ?_⟩
      refine .inr fun L a1 w1 n h K hK => ?_
      have e0 : a1.eval (.tmp 16) = pin x1 x2 := h.dep n 8 16 (by kernel_rfl) rfl
      have e1 : a1.eval (.tmp 17) = pin x1 x2 := h.dep n 9 17 (by kernel_rfl) rfl
      refine JF.call (FNo_mono ) h hK 18 rfl 52 _ _ #[pin x1 x2, pin x1 x2] rfl Try.call52 ?_ (less_any x1 x2 x1 x2 w1) ?_
      · simp only [List.map_toArray, List.map_cons, List.map_nil, e0, e1]
      · rintro e w3 ⟨rfl, b9⟩
        exact ⟨_, rfl, congrArg Value.bool (lessB_self _ _), trivial, b9⟩
    · refine .inl ⟨.inl rfl, ?_⟩
      exact .inl ⟨by kernel_rfl, fun L a1 w1 n h => ⟨_, rfl, run_pickF (.tmp 15) _ _ rfl (h.dep n 7 15 (by kernel_rfl) rfl) (h.dep n 10 18 (by kernel_rfl) rfl)⟩⟩
  case heSO1 =>
    intro V w5 hV2 hJ
    have hz : V 11 = .bool false := hV2 11 19 rfl
    have bw5 : Below wc.heap.size wc w5 := hJ.1
    have ra := Row.later ra bw5
    have rb := Row.later rb bw5
    have rc := Row.later rc bw5
    clear hV2 hJ
    simp only [putOps, List.setIfInBounds_toArray, List.set_cons_succ, List.set_cons_zero, Nat.reduceAdd]
    rw [hz]
    refine hK11 _ _ ?_
    clear hz
    go_wp2_with (first
      | (with_reducible refine wl_load_row rfl 83 (.tmp 3) ga 83 [.int .i64 x1, .int .i64 x2] _ rfl rfl ra Try.underlying83 rfl (szPin _ _) ?_)
      | (with_reducible refine wl_load_row rfl 83 (.tmp 4) gb 83 [.int .i64 y1, .int .i64 y2] _ rfl rfl rb Try.underlying83 rfl (szPin _ _) ?_))
    refine (hL1 w5).mono ?_
    rintro en w6 ⟨rfl, bw6⟩
    have ra := Row.later ra bw6
    have rb := Row.later rb bw6
    have rc := Row.later rc bw6
    have B6 := bwc.trans ((bw5.trans (bw6.mono bw5.size)).mono bwc.size)
    go_wp2_with fail
    rename_i K20 hK20
    refine wp_region_valsS [7, 12, 18] (Sorder_ft ga gb gc x1 x2 y1 y2 z1 z2 true true) (JF w6 [7, 12, 18] FNo) (by kernel_rfl) (by kernel_rfl) (by kernel_rfl) (by kernel_rfl) (JF.start _) ?obsSorder_ft ?heSorder_ft
    case obsSorder_ft =>
      refine ⟨?_, ?_, ?_, ?_, ?_, ?_, ?_, ?_, ?_, ?_, ?_, ?_, ?_, ?_, ?_, ?_, ?_, ?_, ?_, ?_, ?_, trivial⟩
      · refine .inl ⟨.inl rfl, ?_⟩
        exact .inl ⟨by kernel_rfl, fun L a1 w1 n h => ⟨_, rfl, run_move (.tmp 7) rfl (h.var n 7 (by kernel_rfl))⟩⟩
      · refine .inl ⟨.inl rfl, ?_⟩
        exact .inl ⟨by kernel_rfl, fun L a1 w1 n h => ⟨_, rfl, run_move (.tmp 35) rfl (h.dep n 0 35 (by kernel_rfl) rfl)⟩⟩
      · refine .inl ⟨.inr ⟨1, true, 36, rfl, by kernel_rfl, rfl, by simp, fun v h => h⟩, ?_⟩
        exact .inl ⟨by kernel_rfl, fun L a1 w1 n h => ⟨_, rfl, run_loadP 83 (.tmp 3) ga 0 83 [] [.int .i64 x1, .int .i64 x2] [] _ rfl (h.var n 3 (by kernel_rfl)) (Row.later ra h.inv.1) rfl Try.underlying83 rfl (szPin _ _)⟩⟩
      · refine .inl ⟨.inr ⟨1, true, 36, rfl, by kernel_rfl, rfl, by simp, fun v h => h⟩, ?_⟩
        exact .inl ⟨by kernel_rfl, fun L a1 w1 n h => ⟨_, rfl, run_loadP 83 (.tmp 4) gb 0 83 [] [.int .i64 y1, .int .i64 y2] [] _ rfl (h.var n 4 (by kernel_rfl)) (Row.later rb h.inv.1) rfl Try.underlying83 rfl (szPin _ _)⟩⟩
      · refine .inl ⟨.inr ⟨1, true, 36, rfl, by kernel_rfl, rfl, by simp, fun v h => h⟩, ?_⟩
        exact .inl ⟨by kernel_rfl, fun L a1 w1 n h => ⟨_, rfl, run_eqlS' (.tmp 37) (.tmp 38) rfl (fun w => (eqPin _ _ _ _ w).trans (by rw [hq])) (h.dep n 2 37 (by kernel_rfl) rfl) (h.dep n 3 38 (by kernel_rfl) rfl) (by kernel_rfl)⟩⟩
      · refine .inl ⟨.inr ⟨1, true, 36, rfl, by kernel_rfl, rfl, by simp, fun v h => h⟩, ?_⟩
        exact .inl ⟨by kernel_rfl, fun L a1 w1 n h => ⟨_, rfl, run_loadP 83 (.tmp 3) ga 0 83 [] [.int .i64 x1, .int .i64 x2] [] _ rfl (h.var n 3 (by kernel_rfl)) (Row.later ra h.inv.1) rfl Try.underlying83 rfl (szPin _ _)⟩⟩
      · refine .inl ⟨.inr ⟨1, true, 36, rfl, by kernel_rfl, rfl, by simp, fun v h => h⟩, ?_⟩
        exact .inl ⟨by kernel_rfl, fun L a1 w1 n h => ⟨_, rfl, run_loadP 83 (.tmp 4) gb 0 83 [] [.int .i64 y1, .int .i64 y2] [] _ rfl (h.var n 4 (by kernel_rfl)) (Row.later rb h.inv.1) rfl Try.underlying83 rfl (szPin _ _)⟩⟩
      · refine .inl ⟨.inr ⟨1, true, 36, rfl, by kernel_rfl, rfl, by simp, fun v h => h⟩, ?_⟩
        refine .inr fun L a1 w1 n h K hK => ?_
        have e0 : a1.eval (.tmp 40) = pin x1 x2 := h.dep n 5 40 (by kernel_rfl) rfl
        have e1 : a1.eval (.tmp 41) = pin y1 y2 := h.dep n 6 41 (by kernel_rfl) rfl
        refine JF.call (FNo_mono ) h hK 42 rfl 52 _ _ #[pin x1 x2, pin y1 y2] rfl Try.call52 ?_ (less_any x1 x2 y1 y2 w1) ?_
        · simp only [List.map_toArray, List.map_cons, List.map_nil, e0, e1]
        · rintro e w3 ⟨rfl, b9⟩
          exact ⟨_, rfl, congrArg Value.bool hab, trivial, b9⟩
      · refine .inl ⟨.inr ⟨1, true, 36, rfl, by kernel_rfl, rfl, by simp, fun v h => h⟩, ?_⟩
        exact .inl ⟨by kernel_rfl, fun L a1 w1 n h => ⟨_, rfl, run_notB (.tmp 42) false rfl (h.dep n 7 42 (by kernel_rfl) rfl) rfl⟩⟩
      · refine .inl ⟨.inr ⟨1, true, 36, rfl, by kernel_rfl, rfl, by simp, fun v h => h⟩, ?_⟩
        exact .inl ⟨by kernel_rfl, fun L a1 w1 n h => ⟨_, rfl, run_move (.tmp 43) rfl (h.dep n 8 43 (by kernel_rfl) rfl)⟩⟩
      · refine .inl ⟨.inr ⟨9, true, 44, rfl, by kernel_rfl, rfl, by simp, fun v h => h⟩, ?_⟩
        exact .inl ⟨by kernel_rfl, fun L a1 w1 n h => ⟨_, rfl, run_loadP 83 (.tmp 4) gb 0 83 [] [.int .i64 y1, .int .i64 y2] [] _ rfl (h.var n 4 (by kernel_rfl)) (Row.later rb h.inv.1) rfl Try.underlying83 rfl (szPin _ _)⟩⟩
      · refine .inl ⟨.inr ⟨9, true, 44, rfl, by kernel_rfl, rfl, by simp, fun v h => h⟩, ?_⟩
        exact .inl ⟨by kernel_rfl, fun L a1 w1 n h => ⟨_, rfl, run_loadP 83 (.tmp 3) ga 0 83 [] [.int .i64 x1, .int .i64 x2] [] _ rfl (h.var n 3 (by kernel_rfl)) (Row.later ra h.inv.1) rfl Try.underlying83 rfl (szPin _ _)⟩⟩
      · refine .inl ⟨.inr ⟨9, true, 44, rfl, by kernel_rfl, rfl, by simp, fun v h => h⟩, ?_⟩
        refine .inr fun L a1 w1 n h K hK => ?_
        have e0 : a1.eval (.tmp 45) = pin y1 y2 := h.dep n 10 45 (by kernel_rfl) rfl
        have e1 : a1.eval (.tmp 46) = pin x1 x2 := h.dep n 11 46 (by kernel_rfl) rfl
        refine JF.call (FNo_mono ) h hK 47 rfl 52 _ _ #[pin y1 y2, pin x1 x2] rfl Try.call52 ?_ (less_any y1 y2 x1 x2 w1) ?_
        · simp only [List.map_toArray, List.map_cons, List.map_nil, e0, e1]
        · rintro e w3 ⟨rfl, b9⟩
          exact ⟨_, rfl, congrArg Value.bool hba, trivial, b9⟩
      · refine .inl ⟨.inr ⟨9, true, 44, rfl, by kernel_rfl, rfl, by simp, fun v h => h⟩, ?_⟩
        exact .inl ⟨by kernel_rfl, fun L a1 w1 n h => ⟨_, rfl, run_notB (.tmp 47) true rfl (h.dep n 12 47 (by kernel_rfl) rfl) rfl⟩⟩
      · refine .inl ⟨.inr ⟨1, true, 36, rfl, by kernel_rfl, rfl, by simp, fun v h => h⟩, ?_⟩
        exact .inl ⟨by kernel_rfl, fun L a1 w1 n h => ⟨_, rfl, run_pickT (.tmp 44) _ _ rfl (h.dep n 9 44 (by kernel_rfl) rfl) (h.dep n 13 48 (by kernel_rfl) rfl)⟩⟩
      · refine .inl ⟨.inr ⟨1, true, 36, rfl, by kernel_rfl, rfl, by simp, fun v h => h⟩, ?_⟩
        exact .inl ⟨by kernel_rfl, fun L a1 w1 n h => ⟨_, rfl, run_eqlB (.tmp 39) (.tmp 49) _ _ rfl (h.dep n 4 39 (by kernel_rfl) rfl) (h.dep n 14 49 (by kernel_rfl) rfl) (fun w => (eqBool _ _ w).trans rfl)⟩⟩
      · refine .inl ⟨.inl rfl, ?_⟩
        exact .inl ⟨by kernel_rfl, fun L a1 w1 n h => ⟨_, rfl, run_pickT (.tmp 36) _ _ rfl (h.dep n 1 36 (by kernel_rfl) rfl) (h.dep n 15 50 (by kernel_rfl) rfl)⟩⟩
      · refine .inl ⟨.inl rfl, ?_⟩
        exact .inl ⟨by kernel_rfl, fun L a1 w1 n h => ⟨_, rfl, run_move (.tmp 51) rfl (h.dep n 16 51 (by kernel_rfl) rfl)⟩⟩
      · refine .inl ⟨.inr ⟨17, true, 52, rfl, by kernel_rfl, rfl, by simp, fun v h => h⟩, ?_⟩
        refine .inr fun L a1 w1 n h K hK => ?_
        refine JF.call (FNo_mono ) h hK 53 rfl 44 _ _ #[] rfl Try.call44 ?_ (awake_any w1) ?_
        · simp
        · rintro e w3 ⟨rfl, b9⟩
          exact ⟨_, rfl, rfl, trivial, b9⟩
      · refine .inl ⟨.inl rfl, ?_⟩
        exact .inl ⟨by kernel_rfl, fun L a1 w1 n h => ⟨_, rfl, run_pickT (.tmp 52) _ _ rfl (h.dep n 17 52 (by kernel_rfl) rfl) (h.dep n 18 53 (by kernel_rfl) rfl)⟩⟩
      · refine .inl ⟨.inl rfl, ?_⟩
        exact .inl ⟨by kernel_rfl, fun L a1 w1 n h => ⟨_, rfl, run_assign (.tmp 54) rfl (h.dep n 19 54 (by kernel_rfl) rfl)⟩⟩
    case heSorder_ft =>
      intro V w9 hV2 hJ
      have hz : V 20 = .bool true := hV2 20 6 rfl
      have bw9 : Below w6.heap.size w6 w9 := hJ.1
      have ra := Row.later ra bw9
      have rb := Row.later rb bw9
      have rc := Row.later rc bw9
      clear hV2 hJ
      simp only [putOps, List.setIfInBounds_toArray, List.set_cons_succ, List.set_cons_zero, Nat.reduceAdd]
      rw [hz]
      refine hK20 _ _ ?_
      clear hz
      go_wp2
      go_ret
      exact ⟨rfl, B6.trans (bw9.mono B6.size)⟩

set_option maxRecDepth 100000 in
set_option maxHeartbeats 2000000 in
theorem order_ff (x1 x2 y1 y2 z1 z2 : Int) (w : World) (hab : lessB x1 x2 y1 y2 = false) (hba : lessB y1 y2 x1 x2 = false) (hq : decide (x1 = y1 ∧ x2 = y2) = true) : Calls Try.prog 11 #[pin x1 x2, pin y1 y2, pin z1 z2] w fun e w' => e = .returned (.bool true) ∧ Below w.heap.size w w' := by
  have hL1 := less_any x1 x2 y1 y2
  have hL2 := less_any y1 y2 z1 z2
  have hL3 := less_any x1 x2 z1 z2
  rw [hab] at hL1
  go_enter Try.func11, Try.ntmps11
  go_wp2_with (first
    | (with_reducible refine wl_box (o := ⟨some 3, _, _, _, _, _⟩) rfl 83 (.tmp 0) _ [.int .i64 x1, .int .i64 x2] rfl rfl rfl ?_; intro ga wa ra pa la ba')
    | (with_reducible refine wl_box (o := ⟨some 4, _, _, _, _, _⟩) rfl 83 (.tmp 1) _ [.int .i64 y1, .int .i64 y2] rfl rfl rfl ?_; intro gb wb rb pb lb bb; have ra := Row.later ra bb)
    | (with_reducible refine wl_box (o := ⟨some 5, _, _, _, _, _⟩) rfl 83 (.tmp 2) _ [.int .i64 z1, .int .i64 z2] rfl rfl rfl ?_; intro gc wc rc pc lc bc; have ra := Row.later ra bc; have rb := Row.later rb bc))
  have bwc := (ba'.trans (bb.mono ba'.size)).trans (bc.mono (ba'.trans (bb.mono ba'.size)).size)
  rename_i K11 hK11
  refine wp_region_valsS [2, 5, 10] (SO1 ga gb gc x1 x2 y1 y2 z1 z2 true true) (JF wc [2, 5, 10] FNo) (by kernel_rfl) (by kernel_rfl) (by kernel_rfl) (by kernel_rfl) (JF.start _) ?obsSO1 ?heSO1
  case obsSO1 =>
    refine ⟨?_, ?_, ?_, ?_, ?_, ?_, ?_, ?_, ?_, ?_, ?_, ?_, trivial⟩
    · refine .inl ⟨.inl rfl, ?_⟩
      exact .inl ⟨by kernel_rfl, fun L a1 w1 n h => ⟨_, rfl, run_loadP 83 (.tmp 3) ga 0 83 [] [.int .i64 x1, .int .i64 x2] [] _ rfl (h.var n 3 (by kernel_rfl)) (Row.later ra h.inv.1) rfl Try.underlying83 rfl (szPin _ _)⟩⟩
    · refine .inl ⟨.inl rfl, ?_⟩
      exact .inl ⟨by kernel_rfl, fun L a1 w1 n h => ⟨_, rfl, run_loadP 83 (.tmp 4) gb 0 83 [] [.int .i64 y1, .int .i64 y2] [] _ rfl (h.var n 4 (by kernel_rfl)) (Row.later rb h.inv.1) rfl Try.underlying83 rfl (szPin _ _)⟩⟩
    · refine .inl ⟨.inl rfl, ?_⟩
      refine .inr fun L a1 w1 n h K hK => ?_
      have e0 : a1.eval (.tmp 8) = pin x1 x2 := h.dep n 0 8 (by kernel_rfl) rfl
      have e1 : a1.eval (.tmp 9) = pin y1 y2 := h.dep n 1 9 (by kernel_rfl) rfl
      refine JF.call (FNo_mono ) h hK 10 rfl 52 _ _ #[pin x1 x2, pin y1 y2] rfl Try.call52 ?_ (less_any x1 x2 y1 y2 w1) ?_
      · simp only [List.map_toArray, List.map_cons, List.map_nil, e0, e1]
      · rintro e w3 ⟨rfl, b9⟩
        exact ⟨_, rfl, rfl, trivial, b9⟩
    · refine .inl ⟨.inl rfl, ?_⟩
      exact .inl ⟨by kernel_rfl, fun L a1 w1 n h => ⟨_, rfl, run_loadP 83 (.tmp 3) ga 0 83 [] [.int .i64 x1, .int .i64 x2] [] _ rfl (h.var n 3 (by kernel_rfl)) (Row.later ra h.inv.1) rfl Try.underlying83 rfl (szPin _ _)⟩⟩
    · refine .inl ⟨.inl rfl, ?_⟩
      exact .inl ⟨by kernel_rfl, fun L a1 w1 n h => ⟨_, rfl, run_loadP 83 (.tmp 4) gb 0 83 [] [.int .i64 y1, .int .i64 y2] [] _ rfl (h.var n 4 (by kernel_rfl)) (Row.later rb h.inv.1) rfl Try.underlying83 rfl (szPin _ _)⟩⟩
    · refine .inl ⟨.inl rfl, ?_⟩
      refine .inr fun L a1 w1 n h K hK => ?_
      have e0 : a1.eval (.tmp 11) = pin x1 x2 := h.dep n 3 11 (by kernel_rfl) rfl
      have e1 : a1.eval (.tmp 12) = pin y1 y2 := h.dep n 4 12 (by kernel_rfl) rfl
      refine JF.call (FNo_mono ) h hK 13 rfl 54 _ _ #[pin x1 x2, pin y1 y2] rfl Try.call54 ?_ (rless_any x1 x2 y1 y2 w1) ?_
      · simp only [List.map_toArray, List.map_cons, List.map_nil, e0, e1]
      · rintro e w3 ⟨rfl, b9⟩
        exact ⟨_, rfl, rfl, trivial, b9⟩
    · refine .inl ⟨.inl rfl, ?_⟩
      exact .inl ⟨by kernel_rfl, fun L a1 w1 n h => ⟨_, rfl, run_neqB (.tmp 10) (.tmp 13) _ _ rfl (h.dep n 2 10 (by kernel_rfl) rfl) (h.dep n 5 13 (by kernel_rfl) rfl) (fun w => (eqBool _ _ w).trans (by simp))⟩⟩
    · refine .inl ⟨.inl rfl, ?_⟩
      exact .inl ⟨by kernel_rfl, fun L a1 w1 n h => ⟨_, rfl, run_move (.tmp 14) rfl (h.dep n 6 14 (by kernel_rfl) rfl)⟩⟩
    · refine .inl ⟨.inr ⟨7, false, 15, rfl, by kernel_rfl, rfl, by simp, fun v h => h⟩, ?_⟩
      exact .inl ⟨by kernel_rfl, fun L a1 w1 n h => ⟨_, rfl, run_loadP 83 (.tmp 3) ga 0 83 [] [.int .i64 x1, .int .i64 x2] [] _ rfl (h.var n 3 (by kernel_rfl)) (Row.later ra h.inv.1) rfl Try.underlying83 rfl (szPin _ _)⟩⟩
    · refine .inl ⟨.inr ⟨7, false, 15, rfl, by kernel_rfl, rfl, by simp, fun v h => h⟩, ?_⟩
      exact .inl ⟨by kernel_rfl, fun L a1 w1 n h => ⟨_, rfl, run_loadP 83 (.tmp 3) ga 0 83 [] [.int .i64 x1, .int .i64 x2] [] _ rfl (h.var n 3 (by kernel_rfl)) (Row.later ra h.inv.1) rfl Try.underlying83 rfl (szPin _ _)⟩⟩
    · refine .inl ⟨.inr ⟨7, false, 15, rfl, by kernel_rfl, rfl, by simp, fun v h => h⟩, ?_⟩
      refine .inr fun L a1 w1 n h K hK => ?_
      have e0 : a1.eval (.tmp 16) = pin x1 x2 := h.dep n 8 16 (by kernel_rfl) rfl
      have e1 : a1.eval (.tmp 17) = pin x1 x2 := h.dep n 9 17 (by kernel_rfl) rfl
      refine JF.call (FNo_mono ) h hK 18 rfl 52 _ _ #[pin x1 x2, pin x1 x2] rfl Try.call52 ?_ (less_any x1 x2 x1 x2 w1) ?_
      · simp only [List.map_toArray, List.map_cons, List.map_nil, e0, e1]
      · rintro e w3 ⟨rfl, b9⟩
        exact ⟨_, rfl, congrArg Value.bool (lessB_self _ _), trivial, b9⟩
    · refine .inl ⟨.inl rfl, ?_⟩
      exact .inl ⟨by kernel_rfl, fun L a1 w1 n h => ⟨_, rfl, run_pickF (.tmp 15) _ _ rfl (h.dep n 7 15 (by kernel_rfl) rfl) (h.dep n 10 18 (by kernel_rfl) rfl)⟩⟩
  case heSO1 =>
    intro V w5 hV2 hJ
    have hz : V 11 = .bool false := hV2 11 19 rfl
    have bw5 : Below wc.heap.size wc w5 := hJ.1
    have ra := Row.later ra bw5
    have rb := Row.later rb bw5
    have rc := Row.later rc bw5
    clear hV2 hJ
    simp only [putOps, List.setIfInBounds_toArray, List.set_cons_succ, List.set_cons_zero, Nat.reduceAdd]
    rw [hz]
    refine hK11 _ _ ?_
    clear hz
    go_wp2_with (first
      | (with_reducible refine wl_load_row rfl 83 (.tmp 3) ga 83 [.int .i64 x1, .int .i64 x2] _ rfl rfl ra Try.underlying83 rfl (szPin _ _) ?_)
      | (with_reducible refine wl_load_row rfl 83 (.tmp 4) gb 83 [.int .i64 y1, .int .i64 y2] _ rfl rfl rb Try.underlying83 rfl (szPin _ _) ?_))
    refine (hL1 w5).mono ?_
    rintro en w6 ⟨rfl, bw6⟩
    have ra := Row.later ra bw6
    have rb := Row.later rb bw6
    have rc := Row.later rc bw6
    have B6 := bwc.trans ((bw5.trans (bw6.mono bw5.size)).mono bwc.size)
    go_wp2_with fail
    rename_i K20 hK20
    refine wp_region_valsS [7, 12, 18] (Sorder_ff ga gb gc x1 x2 y1 y2 z1 z2 true true) (JF w6 [7, 12, 18] FNo) (by kernel_rfl) (by kernel_rfl) (by kernel_rfl) (by kernel_rfl) (JF.start _) ?obsSorder_ff ?heSorder_ff
    case obsSorder_ff =>
      refine ⟨?_, ?_, ?_, ?_, ?_, ?_, ?_, ?_, ?_, ?_, ?_, ?_, ?_, ?_, ?_, ?_, ?_, ?_, ?_, ?_, ?_, trivial⟩
      · refine .inl ⟨.inl rfl, ?_⟩
        exact .inl ⟨by kernel_rfl, fun L a1 w1 n h => ⟨_, rfl, run_move (.tmp 7) rfl (h.var n 7 (by kernel_rfl))⟩⟩
      · refine .inl ⟨.inl rfl, ?_⟩
        exact .inl ⟨by kernel_rfl, fun L a1 w1 n h => ⟨_, rfl, run_move (.tmp 35) rfl (h.dep n 0 35 (by kernel_rfl) rfl)⟩⟩
      · refine .inl ⟨.inr ⟨1, true, 36, rfl, by kernel_rfl, rfl, by simp, fun v h => h⟩, ?_⟩
        exact .inl ⟨by kernel_rfl, fun L a1 w1 n h => ⟨_, rfl, run_loadP 83 (.tmp 3) ga 0 83 [] [.int .i64 x1, .int .i64 x2] [] _ rfl (h.var n 3 (by kernel_rfl)) (Row.later ra h.inv.1) rfl Try.underlying83 rfl (szPin _ _)⟩⟩
      · refine .inl ⟨.inr ⟨1, true, 36, rfl, by kernel_rfl, rfl, by simp, fun v h => h⟩, ?_⟩
        exact .inl ⟨by kernel_rfl, fun L a1 w1 n h => ⟨_, rfl, run_loadP 83 (.tmp 4) gb 0 83 [] [.int .i64 y1, .int .i64 y2] [] _ rfl (h.var n 4 (by kernel_rfl)) (Row.later rb h.inv.1) rfl Try.underlying83 rfl (szPin _ _)⟩⟩
      · refine .inl ⟨.inr ⟨1, true, 36, rfl, by kernel_rfl, rfl, by simp, fun v h => h⟩, ?_⟩
        exact .inl ⟨by kernel_rfl, fun L a1 w1 n h => ⟨_, rfl, run_eqlS' (.tmp 37) (.tmp 38) rfl (fun w => (eqPin _ _ _ _ w).trans (by rw [hq])) (h.dep n 2 37 (by kernel_rfl) rfl) (h.dep n 3 38 (by kernel_rfl) rfl) (by kernel_rfl)⟩⟩
      · refine .inl ⟨.inr ⟨1, true, 36, rfl, by kernel_rfl, rfl, by simp, fun v h => h⟩, ?_⟩
        exact .inl ⟨by kernel_rfl, fun L a1 w1 n h => ⟨_, rfl, run_loadP 83 (.tmp 3) ga 0 83 [] [.int .i64 x1, .int .i64 x2] [] _ rfl (h.var n 3 (by kernel_rfl)) (Row.later ra h.inv.1) rfl Try.underlying83 rfl (szPin _ _)⟩⟩
      · refine .inl ⟨.inr ⟨1, true, 36, rfl, by kernel_rfl, rfl, by simp, fun v h => h⟩, ?_⟩
        exact .inl ⟨by kernel_rfl, fun L a1 w1 n h => ⟨_, rfl, run_loadP 83 (.tmp 4) gb 0 83 [] [.int .i64 y1, .int .i64 y2] [] _ rfl (h.var n 4 (by kernel_rfl)) (Row.later rb h.inv.1) rfl Try.underlying83 rfl (szPin _ _)⟩⟩
      · refine .inl ⟨.inr ⟨1, true, 36, rfl, by kernel_rfl, rfl, by simp, fun v h => h⟩, ?_⟩
        refine .inr fun L a1 w1 n h K hK => ?_
        have e0 : a1.eval (.tmp 40) = pin x1 x2 := h.dep n 5 40 (by kernel_rfl) rfl
        have e1 : a1.eval (.tmp 41) = pin y1 y2 := h.dep n 6 41 (by kernel_rfl) rfl
        refine JF.call (FNo_mono ) h hK 42 rfl 52 _ _ #[pin x1 x2, pin y1 y2] rfl Try.call52 ?_ (less_any x1 x2 y1 y2 w1) ?_
        · simp only [List.map_toArray, List.map_cons, List.map_nil, e0, e1]
        · rintro e w3 ⟨rfl, b9⟩
          exact ⟨_, rfl, congrArg Value.bool hab, trivial, b9⟩
      · refine .inl ⟨.inr ⟨1, true, 36, rfl, by kernel_rfl, rfl, by simp, fun v h => h⟩, ?_⟩
        exact .inl ⟨by kernel_rfl, fun L a1 w1 n h => ⟨_, rfl, run_notB (.tmp 42) false rfl (h.dep n 7 42 (by kernel_rfl) rfl) rfl⟩⟩
      · refine .inl ⟨.inr ⟨1, true, 36, rfl, by kernel_rfl, rfl, by simp, fun v h => h⟩, ?_⟩
        exact .inl ⟨by kernel_rfl, fun L a1 w1 n h => ⟨_, rfl, run_move (.tmp 43) rfl (h.dep n 8 43 (by kernel_rfl) rfl)⟩⟩
      · refine .inl ⟨.inr ⟨9, true, 44, rfl, by kernel_rfl, rfl, by simp, fun v h => h⟩, ?_⟩
        exact .inl ⟨by kernel_rfl, fun L a1 w1 n h => ⟨_, rfl, run_loadP 83 (.tmp 4) gb 0 83 [] [.int .i64 y1, .int .i64 y2] [] _ rfl (h.var n 4 (by kernel_rfl)) (Row.later rb h.inv.1) rfl Try.underlying83 rfl (szPin _ _)⟩⟩
      · refine .inl ⟨.inr ⟨9, true, 44, rfl, by kernel_rfl, rfl, by simp, fun v h => h⟩, ?_⟩
        exact .inl ⟨by kernel_rfl, fun L a1 w1 n h => ⟨_, rfl, run_loadP 83 (.tmp 3) ga 0 83 [] [.int .i64 x1, .int .i64 x2] [] _ rfl (h.var n 3 (by kernel_rfl)) (Row.later ra h.inv.1) rfl Try.underlying83 rfl (szPin _ _)⟩⟩
      · refine .inl ⟨.inr ⟨9, true, 44, rfl, by kernel_rfl, rfl, by simp, fun v h => h⟩, ?_⟩
        refine .inr fun L a1 w1 n h K hK => ?_
        have e0 : a1.eval (.tmp 45) = pin y1 y2 := h.dep n 10 45 (by kernel_rfl) rfl
        have e1 : a1.eval (.tmp 46) = pin x1 x2 := h.dep n 11 46 (by kernel_rfl) rfl
        refine JF.call (FNo_mono ) h hK 47 rfl 52 _ _ #[pin y1 y2, pin x1 x2] rfl Try.call52 ?_ (less_any y1 y2 x1 x2 w1) ?_
        · simp only [List.map_toArray, List.map_cons, List.map_nil, e0, e1]
        · rintro e w3 ⟨rfl, b9⟩
          exact ⟨_, rfl, congrArg Value.bool hba, trivial, b9⟩
      · refine .inl ⟨.inr ⟨9, true, 44, rfl, by kernel_rfl, rfl, by simp, fun v h => h⟩, ?_⟩
        exact .inl ⟨by kernel_rfl, fun L a1 w1 n h => ⟨_, rfl, run_notB (.tmp 47) false rfl (h.dep n 12 47 (by kernel_rfl) rfl) rfl⟩⟩
      · refine .inl ⟨.inr ⟨1, true, 36, rfl, by kernel_rfl, rfl, by simp, fun v h => h⟩, ?_⟩
        exact .inl ⟨by kernel_rfl, fun L a1 w1 n h => ⟨_, rfl, run_pickT (.tmp 44) _ _ rfl (h.dep n 9 44 (by kernel_rfl) rfl) (h.dep n 13 48 (by kernel_rfl) rfl)⟩⟩
      · refine .inl ⟨.inr ⟨1, true, 36, rfl, by kernel_rfl, rfl, by simp, fun v h => h⟩, ?_⟩
        exact .inl ⟨by kernel_rfl, fun L a1 w1 n h => ⟨_, rfl, run_eqlB (.tmp 39) (.tmp 49) _ _ rfl (h.dep n 4 39 (by kernel_rfl) rfl) (h.dep n 14 49 (by kernel_rfl) rfl) (fun w => (eqBool _ _ w).trans rfl)⟩⟩
      · refine .inl ⟨.inl rfl, ?_⟩
        exact .inl ⟨by kernel_rfl, fun L a1 w1 n h => ⟨_, rfl, run_pickT (.tmp 36) _ _ rfl (h.dep n 1 36 (by kernel_rfl) rfl) (h.dep n 15 50 (by kernel_rfl) rfl)⟩⟩
      · refine .inl ⟨.inl rfl, ?_⟩
        exact .inl ⟨by kernel_rfl, fun L a1 w1 n h => ⟨_, rfl, run_move (.tmp 51) rfl (h.dep n 16 51 (by kernel_rfl) rfl)⟩⟩
      · refine .inl ⟨.inr ⟨17, true, 52, rfl, by kernel_rfl, rfl, by simp, fun v h => h⟩, ?_⟩
        refine .inr fun L a1 w1 n h K hK => ?_
        refine JF.call (FNo_mono ) h hK 53 rfl 44 _ _ #[] rfl Try.call44 ?_ (awake_any w1) ?_
        · simp
        · rintro e w3 ⟨rfl, b9⟩
          exact ⟨_, rfl, rfl, trivial, b9⟩
      · refine .inl ⟨.inl rfl, ?_⟩
        exact .inl ⟨by kernel_rfl, fun L a1 w1 n h => ⟨_, rfl, run_pickT (.tmp 52) _ _ rfl (h.dep n 17 52 (by kernel_rfl) rfl) (h.dep n 18 53 (by kernel_rfl) rfl)⟩⟩
      · refine .inl ⟨.inl rfl, ?_⟩
        exact .inl ⟨by kernel_rfl, fun L a1 w1 n h => ⟨_, rfl, run_assign (.tmp 54) rfl (h.dep n 19 54 (by kernel_rfl) rfl)⟩⟩
    case heSorder_ff =>
      intro V w9 hV2 hJ
      have hz : V 20 = .bool true := hV2 20 6 rfl
      have bw9 : Below w6.heap.size w6 w9 := hJ.1
      have ra := Row.later ra bw9
      have rb := Row.later rb bw9
      have rc := Row.later rc bw9
      clear hV2 hJ
      simp only [putOps, List.setIfInBounds_toArray, List.set_cons_succ, List.set_cons_zero, Nat.reduceAdd]
      rw [hz]
      refine hK20 _ _ ?_
      clear hz
      go_wp2
      go_ret
      exact ⟨rfl, B6.trans (bw9.mono B6.size)⟩

theorem cellOrder_any (p1 p2 q1 q2 r1 r2 : Int) (w : World) : Calls Try.prog 11 #[pin p1 p2, pin q1 q2, pin r1 r2] w fun e w' => e = .returned (.bool true) ∧ Below w.heap.size w w' := by
  have key : ∀ x1 x2 y1 y2 : Int, lessB x1 x2 y1 y2 = true ↔ (x1 = y1 ∧ x2 < y2) ∨ x1 < y1 := by
    intro x1 x2 y1 y2
    rw [← lessB_or]; simp
    omega
  cases hab : lessB p1 p2 q1 q2 with
  | true =>
    have h1 := (key _ _ _ _).1 hab
    have hq : decide (p1 = q1 ∧ p2 = q2) = false := by simp; omega
    cases hbc : lessB q1 q2 r1 r2 with
    | true =>
      have h2 := (key _ _ _ _).1 hbc
      exact order_tt p1 p2 q1 q2 r1 r2 w hab hbc ((key _ _ _ _).2 (by omega)) hq
    | false => exact order_tf p1 p2 q1 q2 r1 r2 w hab hbc hq
  | false =>
    have h1 : ¬ _ := fun h => Bool.false_ne_true (hab.symm.trans ((key p1 p2 q1 q2).2 h))
    cases hba : lessB q1 q2 p1 p2 with
    | true =>
      have h2 := (key _ _ _ _).1 hba
      exact order_ft p1 p2 q1 q2 r1 r2 w hab hba (by simp; omega)
    | false =>
      have h2 : ¬ _ := fun h => Bool.false_ne_true (hba.symm.trans ((key q1 q2 p1 p2).2 h))
      exact order_ff p1 p2 q1 q2 r1 r2 w hab hba (by simp; omega)
end Go.Proofs.Ytlihoijbfffjcaa

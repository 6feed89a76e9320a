/-
  The cell: the law CellNobody: contract. Own work.
-/
import Derived.Test.YtlihoijbfffjcaaCellG
namespace Go.Proofs.Ytlihoijbfffjcaa
open Go.RowKit
set_option linter.unusedVariables false
set_option linter.unusedSimpArgs false
/-- A cell that no call made. -/
def Nob (w : World) (v : Value) : Prop := v = .pointer none ∨ ∃ g, v = ptr g ∧ Cel w g false none 0 0 0 0 0
theorem Nob.later {w w' : World} {v : Value} (h : Nob w v) (hb : Below w.heap.size w w') : Nob w' v := h.imp id fun ⟨g, e, hc⟩ => ⟨g, e, Row.later hc hb⟩
theorem nob_birth (w : World) (v : Value) (h : Nob w v) : Calls Try.prog 46 #[v] w fun e w' => e = .returned (.tuple #[.int .i64 0, .int .i64 2]) ∧ Below w.heap.size w w' := by
  rcases h with rfl | ⟨g, rfl, hc⟩
  · exact (birth_nil w).mono fun e w' h => ⟨h.1, h.2 ▸ Below.refl _ _⟩
  · exact (birth_not w g _ _ _ _ _ _ hc).mono fun e w' h => ⟨h.1, h.2 ▸ Below.refl _ _⟩
theorem nob_life (w : World) (v : Value) (h : Nob w v) : Calls Try.prog 50 #[v] w fun e w' => e = .returned (.int .i64 0) ∧ Below w.heap.size w w' := by
  rcases h with rfl | ⟨g, rfl, hc⟩
  · exact (life_nil w).mono fun e w' h => ⟨h.1, h.2 ▸ Below.refl _ _⟩
  · exact (life_any w g _ _ _ _ _ _ _ hc).mono fun e w' h => ⟨h.1, h.2 ▸ Below.refl _ _⟩
theorem nob_pin (w : World) (v : Value) (h : Nob w v) : Calls Try.prog 51 #[v] w fun e w' => e = .returned (pin 0 0) ∧ Below w.heap.size w w' := by
  rcases h with rfl | ⟨g, rfl, hc⟩
  · exact pin_nil w
  · exact pin_any w g _ _ _ _ _ _ _ hc
theorem nob_raise (w : World) (v : Value) (p1 p2 : Int) (h : Nob w v) : Calls Try.prog 48 #[v, pin p1 p2] w fun e w' => e = .returned (.int .i64 2) ∧ Below w.heap.size w w' := by
  refine raise_no w v p1 p2 2 (by decide) fun w1 b1 => ?_
  rcases h.later b1 with rfl | ⟨g, rfl, hc⟩
  · exact refuse_nil w1 p1 p2
  · exact refuse_not w1 g _ _ _ _ _ _ p1 p2 hc
theorem pc_info_ : (Try.prog.info? 79).map (fun i => (i.zero, i.size, i.bytes)) = some (some (.pointer none), 1, 8) := by kernel_rfl
theorem pc_info : ∃ i, Try.prog.info? 79 = some i ∧ i.zero = some (.pointer none) ∧ i.size = 1 := by
  have := pc_info_
  cases hq : Try.prog.info? 79 with
  | none => rw [hq] at this; cases this
  | some i => rw [hq] at this; simp at this; exact ⟨i, rfl, this.1, this.2.1⟩
theorem builtCell0 : Try.prog.built 100 [] = some (cellL false none 0 0 0 0 0).toArray := by kernel_rfl
theorem builtB1 : Try.prog.built 77 [(4, .int .i64 1)] = some (bdsL 0 0 0 0 1 0 0).toArray := by kernel_rfl
def SNo (gs g1 i : Nat) (p1 p2 : Int) (u0 : Value) (opn : Nat) (v : Value) : Prop :=
  match opn with
  | 0 | 20 => v = .int .i64 0
  | 1 | 2 | 4 | 5 | 6 | 13 | 14 | 15 | 21 | 22 | 23 | 30 | 31 => v = .bool false
  | 3 | 12 => v = .int .i64 2
  | 7 | 16 | 24 => v = .slice (some ⟨gs, 0, none⟩) 2 2
  | 8 | 17 | 25 => v = .int .i64 (i : Int)
  | 9 | 18 | 26 => v = .pointer (some ⟨gs, i, none⟩)
  | 10 | 19 | 27 => v = u0
  | 11 => v = pin p1 p2
  | 28 | 29 => v = pin 0 0
  | _ => True

set_option maxRecDepth 100000 in
set_option maxHeartbeats 2000000 in
theorem cellNobody_any (p1 p2 : Int) (w : World) : Calls Try.prog 12 #[pin p1 p2] w fun e w' => e = .returned (.bool true) ∧ Below w.heap.size w w' := by
  have bc := builtCell0
  have bb := builtB1
  obtain ⟨ip, hip, hpz, hps⟩ := pc_info
  have hN := fun w => new_any none 0 0 0 0 1 0 0 w
  rw [show bnd 1 = 1 by simp only [bnd, mostN]; omega, show bnd 0 = 0 by simp only [bnd, mostN]; omega] at hN
  go_enter Try.func12, Try.ntmps12
  go_wp2_with (first
    | (with_reducible refine wl_box (o := ⟨some 1, _, _, _, _, _⟩) rfl 83 (.tmp 0) _ [.int .i64 p1, .int .i64 p2] rfl rfl rfl ?_; intro g1 w1 r1 q1 l1 b1)
    | ((with_reducible refine wl_build rfl 100 _ rfl _ ?hv _ bc ?hk); case hv => rfl)
    | (with_reducible refine wl_box (o := ⟨some 10, _, _, _, _, _⟩) rfl 100 (.tmp 9) _ (cellL false none 0 0 0 0 0) rfl rfl rfl ?_; intro g2 w2 r2 q2 l2 b2; have r1 := Row.later r1 b2)
    | (with_reducible refine wl_build2P rfl 101 (.const (.pointer none)) (.tmp 10) rfl 79 ip (.pointer none) (.pointer none) (ptr g2) Try.underlying101 hip hpz hps rfl rfl rfl rfl rfl ?_; intro gs w3 rs q3 l3 b3; have r1 := Row.later r1 b3; have r2 := Row.later r2 b3))
  have B3 := (b1.trans (b2.mono b1.size)).trans (b3.mono (b1.trans (b2.mono b1.size)).size)
  go_loopw [4] (fun iv wr => ∃ i : Nat, i ≤ 2 ∧ iv = .int .i64 i ∧ Row wr 83 g1 [.int .i64 p1, .int .i64 p2] ∧ Cel wr g2 false none 0 0 0 0 0 ∧ Row wr 79 gs [.pointer none, ptr g2] ∧ Below w.heap.size w wr) (fun iv _ => 2 - (intOf iv).toNat)
  case atStart => exact ⟨0, by omega, rfl, r1, r2, rs, B3⟩
  case round =>
    clear r1 r2 rs
    obtain ⟨i, hi2, rfl, r1, r2, rs, hB⟩ := hrel
    by_cases hi : i < 2
    · obtain ⟨u0, hu0, hv⟩ : ∃ u0, [Value.pointer none, ptr g2][i]? = some u0 ∧ Nob wr u0 := by
        match i, hi with
        | 0, _ => exact ⟨_, rfl, .inl rfl⟩
        | 1, _ => exact ⟨_, rfl, .inr ⟨g2, rfl, r2⟩⟩
      have hvi := rs.cell hu0
      have hvi' := hide hu0
      clear hu0
      go_wp2_with fail
      refine (nob_birth wr u0 hv).mono ?_
      rintro en w4 ⟨rfl, b4⟩
      have hv := hv.later b4
      have r1 := Row.later r1 b4
      have r2 := Row.later r2 b4
      have rs := Row.later rs b4
      have hvi := hvi'.out
      go_wp2_with fail
      rename_i K6 hK6
      refine wp_region_valsS [12, 20, 28] (SNo gs g1 i p1 p2 u0) (JF w4 [12, 20, 28] FNo) (by kernel_rfl) (by kernel_rfl) (by kernel_rfl) (by kernel_rfl) (JF.start _) ?obsN ?heN
      case obsN =>
        refine ⟨?_, ?_, ?_, ?_, ?_, ?_, ?_, ?_, ?_, ?_, ?_, ?_, ?_, ?_, ?_, ?_, ?_, ?_, ?_, ?_, ?_, ?_, ?_, ?_, ?_, ?_, ?_, ?_, ?_, ?_, ?_, ?_, trivial⟩
        · refine .inl ⟨.inl rfl, ?_⟩
          exact .inl ⟨by kernel_rfl, fun L a1 w1 n h => ⟨_, rfl, run_move (.tmp 5) rfl (h.var n 5 (by kernel_rfl))⟩⟩
        · refine .inl ⟨.inl rfl, ?_⟩
          exact .inl ⟨by kernel_rfl, fun L a1 w1 n h => ⟨_, rfl, run_neqI (.tmp 26) (.const (.int .i64 0)) rfl (h.dep n 0 26 (by kernel_rfl) rfl) rfl rfl⟩⟩
        · refine .inl ⟨.inl rfl, ?_⟩
          exact .inl ⟨by kernel_rfl, fun L a1 w1 n h => ⟨_, rfl, run_move (.tmp 27) rfl (h.dep n 1 27 (by kernel_rfl) rfl)⟩⟩
        · refine .inl ⟨.inr ⟨2, false, 28, rfl, by kernel_rfl, rfl, by simp, fun v h => h⟩, ?_⟩
          exact .inl ⟨by kernel_rfl, fun L a1 w1 n h => ⟨_, rfl, run_move (.tmp 6) rfl (h.var n 6 (by kernel_rfl))⟩⟩
        · refine .inl ⟨.inr ⟨2, false, 28, rfl, by kernel_rfl, rfl, by simp, fun v h => h⟩, ?_⟩
          exact .inl ⟨by kernel_rfl, fun L a1 w1 n h => ⟨_, rfl, run_neqI (.tmp 29) (.const (.int .i64 2)) rfl (h.dep n 3 29 (by kernel_rfl) rfl) rfl rfl⟩⟩
        · refine .inl ⟨.inl rfl, ?_⟩
          exact .inl ⟨by kernel_rfl, fun L a1 w1 n h => ⟨_, rfl, run_pickF (.tmp 28) _ _ rfl (h.dep n 2 28 (by kernel_rfl) rfl) (h.dep n 4 30 (by kernel_rfl) rfl)⟩⟩
        · refine .inl ⟨.inl rfl, ?_⟩
          exact .inl ⟨by kernel_rfl, fun L a1 w1 n h => ⟨_, rfl, run_move (.tmp 31) rfl (h.dep n 5 31 (by kernel_rfl) rfl)⟩⟩
        · refine .inl ⟨.inr ⟨6, false, 32, rfl, by kernel_rfl, rfl, by simp, fun v h => h⟩, ?_⟩
          exact .inl ⟨by kernel_rfl, fun L a1 w1 n h => ⟨_, rfl, run_move (.tmp 3) rfl (h.var n 3 (by kernel_rfl))⟩⟩
        · refine .inl ⟨.inr ⟨6, false, 32, rfl, by kernel_rfl, rfl, by simp, fun v h => h⟩, ?_⟩
          exact .inl ⟨by kernel_rfl, fun L a1 w1 n h => ⟨_, rfl, run_move (.tmp 4) rfl (h.var n 4 (by kernel_rfl))⟩⟩
        · refine .inl ⟨.inr ⟨6, false, 32, rfl, by kernel_rfl, rfl, by simp, fun v h => h⟩, ?_⟩
          exact .inl ⟨by kernel_rfl, fun L a1 w1 n h => ⟨_, rfl, run_indexSl0 101 (.tmp 33) (.tmp 34) 79 gs 2 2 i rfl Try.underlying101 Try.sizeOf79 (h.dep n 7 33 (by kernel_rfl) rfl) (h.dep n 8 34 (by kernel_rfl) rfl) hi⟩⟩
        · refine .inl ⟨.inr ⟨6, false, 32, rfl, by kernel_rfl, rfl, by simp, fun v h => h⟩, ?_⟩
          exact .inl ⟨by kernel_rfl, fun L a1 w1 n h => ⟨_, rfl, run_loadA 79 (.tmp 35) ⟨gs, i, none⟩ rfl Try.isAgg79 (h.dep n 9 35 (by kernel_rfl) rfl) ((Row.later rs h.inv.1).cell hvi)⟩⟩
        · refine .inl ⟨.inr ⟨6, false, 32, rfl, by kernel_rfl, rfl, by simp, fun v h => h⟩, ?_⟩
          exact .inl ⟨by kernel_rfl, fun L a1 w1 n h => ⟨_, rfl, run_loadRow 83 (.tmp 1) g1 83 _ _ rfl (h.var n 1 (by kernel_rfl)) (Row.later r1 h.inv.1) Try.underlying83 rfl (szPin _ _)⟩⟩
        · refine .inl ⟨.inr ⟨6, false, 32, rfl, by kernel_rfl, rfl, by simp, fun v h => h⟩, ?_⟩
          refine .inr fun L a1 w1 n h K hK => ?_
          have e0 : a1.eval (.tmp 36) = u0 := h.dep n 10 36 (by kernel_rfl) rfl
          have e1 : a1.eval (.tmp 37) = pin p1 p2 := h.dep n 11 37 (by kernel_rfl) rfl
          refine JF.call (FNo_mono ) h hK 38 rfl 48 _ _ #[u0, pin p1 p2] rfl Try.call48 ?_ (nob_raise w1 u0 p1 p2 (hv.later h.inv.1)) ?_
          · simp only [List.map_toArray, List.map_cons, List.map_nil, e0, e1]
          · rintro e w3 ⟨rfl, b9⟩
            exact ⟨_, rfl, rfl, trivial, b9⟩
        · refine .inl ⟨.inr ⟨6, false, 32, rfl, by kernel_rfl, rfl, by simp, fun v h => h⟩, ?_⟩
          exact .inl ⟨by kernel_rfl, fun L a1 w1 n h => ⟨_, rfl, run_neqI (.tmp 38) (.const (.int .i64 2)) rfl (h.dep n 12 38 (by kernel_rfl) rfl) rfl rfl⟩⟩
        · refine .inl ⟨.inl rfl, ?_⟩
          exact .inl ⟨by kernel_rfl, fun L a1 w1 n h => ⟨_, rfl, run_pickF (.tmp 32) _ _ rfl (h.dep n 6 32 (by kernel_rfl) rfl) (h.dep n 13 39 (by kernel_rfl) rfl)⟩⟩
        · refine .inl ⟨.inl rfl, ?_⟩
          exact .inl ⟨by kernel_rfl, fun L a1 w1 n h => ⟨_, rfl, run_move (.tmp 40) rfl (h.dep n 14 40 (by kernel_rfl) rfl)⟩⟩
        · refine .inl ⟨.inr ⟨15, false, 41, rfl, by kernel_rfl, rfl, by simp, fun v h => h⟩, ?_⟩
          exact .inl ⟨by kernel_rfl, fun L a1 w1 n h => ⟨_, rfl, run_move (.tmp 3) rfl (h.var n 3 (by kernel_rfl))⟩⟩
        · refine .inl ⟨.inr ⟨15, false, 41, rfl, by kernel_rfl, rfl, by simp, fun v h => h⟩, ?_⟩
          exact .inl ⟨by kernel_rfl, fun L a1 w1 n h => ⟨_, rfl, run_move (.tmp 4) rfl (h.var n 4 (by kernel_rfl))⟩⟩
        · refine .inl ⟨.inr ⟨15, false, 41, rfl, by kernel_rfl, rfl, by simp, fun v h => h⟩, ?_⟩
          exact .inl ⟨by kernel_rfl, fun L a1 w1 n h => ⟨_, rfl, run_indexSl0 101 (.tmp 42) (.tmp 43) 79 gs 2 2 i rfl Try.underlying101 Try.sizeOf79 (h.dep n 16 42 (by kernel_rfl) rfl) (h.dep n 17 43 (by kernel_rfl) rfl) hi⟩⟩
        · refine .inl ⟨.inr ⟨15, false, 41, rfl, by kernel_rfl, rfl, by simp, fun v h => h⟩, ?_⟩
          exact .inl ⟨by kernel_rfl, fun L a1 w1 n h => ⟨_, rfl, run_loadA 79 (.tmp 44) ⟨gs, i, none⟩ rfl Try.isAgg79 (h.dep n 18 44 (by kernel_rfl) rfl) ((Row.later rs h.inv.1).cell hvi)⟩⟩
        · refine .inl ⟨.inr ⟨15, false, 41, rfl, by kernel_rfl, rfl, by simp, fun v h => h⟩, ?_⟩
          refine .inr fun L a1 w1 n h K hK => ?_
          have e0 : a1.eval (.tmp 45) = u0 := h.dep n 19 45 (by kernel_rfl) rfl
          refine JF.call (FNo_mono ) h hK 46 rfl 50 _ _ #[u0] rfl Try.call50 ?_ (nob_life w1 u0 (hv.later h.inv.1)) ?_
          · simp only [List.map_toArray, List.map_cons, List.map_nil, e0]
          · rintro e w3 ⟨rfl, b9⟩
            exact ⟨_, rfl, rfl, trivial, b9⟩
        · refine .inl ⟨.inr ⟨15, false, 41, rfl, by kernel_rfl, rfl, by simp, fun v h => h⟩, ?_⟩
          exact .inl ⟨by kernel_rfl, fun L a1 w1 n h => ⟨_, rfl, run_neqI (.tmp 46) (.const (.int .i64 0)) rfl (h.dep n 20 46 (by kernel_rfl) rfl) rfl rfl⟩⟩
        · refine .inl ⟨.inl rfl, ?_⟩
          exact .inl ⟨by kernel_rfl, fun L a1 w1 n h => ⟨_, rfl, run_pickF (.tmp 41) _ _ rfl (h.dep n 15 41 (by kernel_rfl) rfl) (h.dep n 21 47 (by kernel_rfl) rfl)⟩⟩
        · refine .inl ⟨.inl rfl, ?_⟩
          exact .inl ⟨by kernel_rfl, fun L a1 w1 n h => ⟨_, rfl, run_move (.tmp 48) rfl (h.dep n 22 48 (by kernel_rfl) rfl)⟩⟩
        · refine .inl ⟨.inr ⟨23, false, 49, rfl, by kernel_rfl, rfl, by simp, fun v h => h⟩, ?_⟩
          exact .inl ⟨by kernel_rfl, fun L a1 w1 n h => ⟨_, rfl, run_move (.tmp 3) rfl (h.var n 3 (by kernel_rfl))⟩⟩
        · refine .inl ⟨.inr ⟨23, false, 49, rfl, by kernel_rfl, rfl, by simp, fun v h => h⟩, ?_⟩
          exact .inl ⟨by kernel_rfl, fun L a1 w1 n h => ⟨_, rfl, run_move (.tmp 4) rfl (h.var n 4 (by kernel_rfl))⟩⟩
        · refine .inl ⟨.inr ⟨23, false, 49, rfl, by kernel_rfl, rfl, by simp, fun v h => h⟩, ?_⟩
          exact .inl ⟨by kernel_rfl, fun L a1 w1 n h => ⟨_, rfl, run_indexSl0 101 (.tmp 50) (.tmp 51) 79 gs 2 2 i rfl Try.underlying101 Try.sizeOf79 (h.dep n 24 50 (by kernel_rfl) rfl) (h.dep n 25 51 (by kernel_rfl) rfl) hi⟩⟩
        · refine .inl ⟨.inr ⟨23, false, 49, rfl, by kernel_rfl, rfl, by simp, fun v h => h⟩, ?_⟩
          exact .inl ⟨by kernel_rfl, fun L a1 w1 n h => ⟨_, rfl, run_loadA 79 (.tmp 52) ⟨gs, i, none⟩ rfl Try.isAgg79 (h.dep n 26 52 (by kernel_rfl) rfl) ((Row.later rs h.inv.1).cell hvi)⟩⟩
        · refine .inl ⟨.inr ⟨23, false, 49, rfl, by kernel_rfl, rfl, by simp, fun v h => h⟩, ?_⟩
          refine .inr fun L a1 w1 n h K hK => ?_
          have e0 : a1.eval (.tmp 53) = u0 := h.dep n 27 53 (by kernel_rfl) rfl
          refine JF.call (FNo_mono ) h hK 54 rfl 51 _ _ #[u0] rfl Try.call51 ?_ (nob_pin w1 u0 (hv.later h.inv.1)) ?_
          · simp only [List.map_toArray, List.map_cons, List.map_nil, e0]
          · rintro e w3 ⟨rfl, b9⟩
            exact ⟨_, rfl, rfl, trivial, b9⟩
        · refine .inl ⟨.inr ⟨23, false, 49, rfl, by kernel_rfl, rfl, by simp, fun v h => h⟩, ?_⟩
          exact .inl ⟨by kernel_rfl, fun L a1 w1 n h => ⟨_, rfl, run_buildX 83 [] rfl [] rfl _ builtPin0⟩⟩
        · refine .inl ⟨.inr ⟨23, false, 49, rfl, by kernel_rfl, rfl, by simp, fun v h => h⟩, ?_⟩
          exact .inl ⟨by kernel_rfl, fun L a1 w1 n h => ⟨_, rfl, run_neqS (.tmp 54) (.tmp 55) rfl (fun w => (eqPin _ _ _ _ w).trans rfl) (h.dep n 28 54 (by kernel_rfl) rfl) (h.dep n 29 55 (by kernel_rfl) rfl) (by kernel_rfl)⟩⟩
        · refine .inl ⟨.inl rfl, ?_⟩
          exact .inl ⟨by kernel_rfl, fun L a1 w1 n h => ⟨_, rfl, run_pickF (.tmp 49) _ _ rfl (h.dep n 23 49 (by kernel_rfl) rfl) (h.dep n 30 56 (by kernel_rfl) rfl)⟩⟩
      case heN =>
        intro V w5 hV2 hJ
        have hz : V 31 = .bool false := hV2 31 57 rfl
        have b5 : Below w4.heap.size w4 w5 := hJ.1
        have r1 := Row.later r1 b5
        have r2 := Row.later r2 b5
        have rs := Row.later rs b5
        clear hV2 hJ
        simp only [putOps, List.setIfInBounds_toArray, List.set_cons_succ, List.set_cons_zero, Nat.reduceAdd]
        rw [hz]
        refine hK6 _ _ ?_
        clear hz
        have hB5 := hB.trans ((b4.trans (b5.mono b4.size)).mono hB.size)
        go_wp2
        go_roundw
        case rel => exact ⟨i + 1, by omega, by go_num, r1, r2, rs, hB5⟩
        case measure => simp [intOf]; omega
    · obtain rfl : i = 2 := by omega
      go_wp2_with (first
        | ((with_reducible refine wl_build rfl 77 _ rfl _ ?hv _ bb ?hk); case hv => rfl))
      refine (hN wr).mono ?_
      rintro en w4 ⟨gc, rfl, hc, q4, b4⟩
      have B4 := hB.trans (b4.mono hB.size)
      go_wp2_with fail
      refine (birth_off w4 gc 1 0 0 0 0 hc (by decide)).mono ?_
      rintro en w5 ⟨rfl, b5⟩
      have B5 := B4.trans (b5.mono B4.size)
      go_wp2_with fail
      refine (awake_any w5).mono ?_
      rintro en w6 ⟨rfl, b6⟩
      go_wp2_with fail
      go_ret
      exact ⟨rfl, B5.trans (b6.mono B5.size)⟩
end Go.Proofs.Ytlihoijbfffjcaa

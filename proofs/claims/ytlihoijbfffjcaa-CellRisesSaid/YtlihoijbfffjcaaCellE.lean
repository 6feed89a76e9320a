/-
  The cell: raise: contracts. Own work.
-/
import Derived.Test.YtlihoijbfffjcaaCellD
namespace Go.Proofs.Ytlihoijbfffjcaa
open Go.RowKit
set_option linter.unusedVariables false
set_option linter.unusedSimpArgs false
set_option maxRecDepth 100000 in
theorem eqPin (a b c d : Int) (w : World) : (Op.equalIn 10000 83 (pin a b) (pin c d)).run Try.prog w = .ok (decide (a = c ∧ b = d)) w := by
  rw [show (10000 : Nat) = 9999 + 1 from rfl, run_equalIn_struct w 9999 _ _ _ Try.underlying83 (by kernel_rfl)]
  have he : ∀ (x y : Int) (w : World), (Op.equalIn 9999 3 (.int .i64 x) (.int .i64 y)).run Try.prog w = .ok (x == y) w := fun x y w => run_equalIn_int w 9998 _ .i64 .i64 x y Try.underlying3
  go_simp
  try simp only [List.getElem?_cons_zero, List.getElem?_cons_succ, Sem.run_pure, Result.andThen_ok, he]
  by_cases h0 : a = c
  · by_cases h1 : b = d <;> simp [h0, h1]
  · simp [h0]
/-- Why a pin is refused. -/
def refV (m2 life a b p1 p2 : Int) : Int := if p1 < 0 ∨ p2 < 0 then 1 else if lessB a b p1 p2 = false ∨ life < p1 then 13 else if m2 < p2 then 7 else 0
def SR1 (g g3 : Nat) (P : Option Addr) (m1 m2 life a b p1 p2 : Int) (opn : Nat) (v : Value) : Prop :=
  match opn with
  | 0 | 1 => v = .agg [.int .i64 p1, .int .i64 p2].toArray
  | 2 => v = pin (max p1 0) (max p2 0)
  | 3 | 4 => v = .bool true
  | _ => True
def SR3 (g g3 : Nat) (P : Option Addr) (m1 m2 life a b p1 p2 : Int) (opn : Nat) (v : Value) : Prop :=
  match opn with
  | 0 | 1 => v = ptr g
  | 2 => v = .pointer (some ⟨g, 5, none⟩)
  | 3 => v = .agg [.int .i64 a, .int .i64 b].toArray
  | 4 => v = .agg [.int .i64 p1, .int .i64 p2].toArray
  | 5 => v = .bool (lessB a b p1 p2)
  | 6 | 7 | 15 | 16 => v = .bool true
  | 8 | 9 | 10 | 11 | 12 | 13 | 14 => v = undef
  | _ => True
def SR2 (g g3 : Nat) (P : Option Addr) (m1 m2 life a b p1 p2 : Int) (opn : Nat) (v : Value) : Prop :=
  match opn with
  | 0 | 1 => v = .agg [.int .i64 p1, .int .i64 p2].toArray
  | 2 => v = pin (max p1 0) (max p2 0)
  | 3 | 4 => v = .bool false
  | _ => True
def SR5 (g g3 : Nat) (P : Option Addr) (m1 m2 life a b p1 p2 : Int) (opn : Nat) (v : Value) : Prop :=
  match opn with
  | 0 | 1 | 10 | 11 => v = ptr g
  | 2 => v = .pointer (some ⟨g, 5, none⟩)
  | 3 => v = .agg [.int .i64 a, .int .i64 b].toArray
  | 4 => v = .agg [.int .i64 p1, .int .i64 p2].toArray
  | 5 => v = .bool (lessB a b p1 p2)
  | 6 | 7 => v = .bool false
  | 8 => v = .pointer (some ⟨g3, 0, none⟩)
  | 9 => v = .int .i64 p1
  | 12 => v = .pointer (some ⟨g, 4, none⟩)
  | 13 => v = .int .i64 life
  | 14 | 15 | 16 => v = .bool true
  | _ => True
def SR4 (g g3 : Nat) (P : Option Addr) (m1 m2 life a b p1 p2 : Int) (opn : Nat) (v : Value) : Prop :=
  match opn with
  | 0 | 1 => v = .agg [.int .i64 p1, .int .i64 p2].toArray
  | 2 => v = pin (max p1 0) (max p2 0)
  | 3 | 4 => v = .bool false
  | _ => True
def SR6c (g g3 : Nat) (P : Option Addr) (m1 m2 life a b p1 p2 : Int) (opn : Nat) (v : Value) : Prop :=
  match opn with
  | 0 => v = .pointer (some ⟨g3, 1, none⟩)
  | 1 => v = .int .i64 p2
  | 2 | 3 => v = ptr g
  | 4 => v = .pointer (some ⟨g, 2, none⟩)
  | 5 => v = .pointer (some ⟨g, 3, none⟩)
  | 6 => v = .int .i64 m2
  | 7 | 8 => v = .bool true
  | _ => True
def SR6b (g g3 : Nat) (P : Option Addr) (m1 m2 life a b p1 p2 : Int) (opn : Nat) (v : Value) : Prop :=
  match opn with
  | 0 | 1 | 10 | 11 => v = ptr g
  | 2 => v = .pointer (some ⟨g, 5, none⟩)
  | 3 => v = .agg [.int .i64 a, .int .i64 b].toArray
  | 4 => v = .agg [.int .i64 p1, .int .i64 p2].toArray
  | 5 => v = .bool (lessB a b p1 p2)
  | 6 | 7 | 14 | 15 | 16 => v = .bool false
  | 8 => v = .pointer (some ⟨g3, 0, none⟩)
  | 9 => v = .int .i64 p1
  | 12 => v = .pointer (some ⟨g, 4, none⟩)
  | 13 => v = .int .i64 life
  | _ => True
def SR6a (g g3 : Nat) (P : Option Addr) (m1 m2 life a b p1 p2 : Int) (opn : Nat) (v : Value) : Prop :=
  match opn with
  | 0 | 1 => v = .agg [.int .i64 p1, .int .i64 p2].toArray
  | 2 => v = pin (max p1 0) (max p2 0)
  | 3 | 4 => v = .bool false
  | _ => True
def SR7c (g g3 : Nat) (P : Option Addr) (m1 m2 life a b p1 p2 : Int) (opn : Nat) (v : Value) : Prop :=
  match opn with
  | 0 => v = .pointer (some ⟨g3, 1, none⟩)
  | 1 => v = .int .i64 p2
  | 2 | 3 => v = ptr g
  | 4 => v = .pointer (some ⟨g, 2, none⟩)
  | 5 => v = .pointer (some ⟨g, 3, none⟩)
  | 6 => v = .int .i64 m2
  | 7 | 8 => v = .bool false
  | _ => True
def SR7b (g g3 : Nat) (P : Option Addr) (m1 m2 life a b p1 p2 : Int) (opn : Nat) (v : Value) : Prop :=
  match opn with
  | 0 | 1 | 10 | 11 => v = ptr g
  | 2 => v = .pointer (some ⟨g, 5, none⟩)
  | 3 => v = .agg [.int .i64 a, .int .i64 b].toArray
  | 4 => v = .agg [.int .i64 p1, .int .i64 p2].toArray
  | 5 => v = .bool (lessB a b p1 p2)
  | 6 | 7 | 14 | 15 | 16 => v = .bool false
  | 8 => v = .pointer (some ⟨g3, 0, none⟩)
  | 9 => v = .int .i64 p1
  | 12 => v = .pointer (some ⟨g, 4, none⟩)
  | 13 => v = .int .i64 life
  | _ => True
def SR7a (g g3 : Nat) (P : Option Addr) (m1 m2 life a b p1 p2 : Int) (opn : Nat) (v : Value) : Prop :=
  match opn with
  | 0 | 1 => v = .agg [.int .i64 p1, .int .i64 p2].toArray
  | 2 => v = pin (max p1 0) (max p2 0)
  | 3 | 4 => v = .bool false
  | _ => True

set_option maxRecDepth 100000 in
set_option maxHeartbeats 1000000 in
theorem refuse_arg (w : World) (g : Nat) (P : Option Addr) (m1 m2 life a b p1 p2 : Int) (hc : Cel w g true P m1 m2 life a b) (hq : decide (p1 = max p1 0 ∧ p2 = max p2 0) = false) : Calls Try.prog 103 #[ptr g, pin p1 p2] w fun e w' => e = .returned (.int .i64 1) ∧ Below w.heap.size w w' := by
  go_enter Try.func103, Try.ntmps103
  go_wp2_with (first
    | (with_reducible refine wl_box rfl 83 (.tmp 1) _ [.int .i64 p1, .int .i64 p2] rfl rfl rfl ?_; intro g3 w3 r3 p3 l3 b3; have hc := Row.later hc b3; have c0 := hc.cell (j := 0) (v := .bool true) rfl))
  clear c0
  rename_i K1 hK1
  refine wp_region_valsS [2] (SR1 g g3 P m1 m2 life a b p1 p2) (JF w3 [2] FNo) (by kernel_rfl) (by kernel_rfl) (by kernel_rfl) (by kernel_rfl) (JF.start _) ?obsSR1 ?heSR1
  case obsSR1 =>
    refine ⟨?_, ?_, ?_, ?_, ?_, trivial⟩
    · refine .inl ⟨.inl rfl, ?_⟩
      exact .inl ⟨by kernel_rfl, fun L a1 w1 n h => ⟨_, rfl, run_loadP 83 (.tmp 3) g3 0 83 [] [.int .i64 p1, .int .i64 p2] [] _ rfl (h.var n 3 (by kernel_rfl)) (Row.later r3 h.inv.1) rfl Try.underlying83 rfl (szPin _ _)⟩⟩
    · refine .inl ⟨.inl rfl, ?_⟩
      exact .inl ⟨by kernel_rfl, fun L a1 w1 n h => ⟨_, rfl, run_loadP 83 (.tmp 3) g3 0 83 [] [.int .i64 p1, .int .i64 p2] [] _ rfl (h.var n 3 (by kernel_rfl)) (Row.later r3 h.inv.1) rfl Try.underlying83 rfl (szPin _ _)⟩⟩
    · refine .inl ⟨.inl rfl, ?_⟩
      refine .inr fun L a1 w1 n h K hK => ?_
      have e0 : a1.eval (.tmp 17) = pin p1 p2 := h.dep n 1 17 (by kernel_rfl) rfl
      refine JF.call (FNo_mono ) h hK 18 rfl 102 _ _ #[pin p1 p2] rfl Try.call102 ?_ (alz_any p1 p2 w1) ?_
      · simp only [List.map_toArray, List.map_cons, List.map_nil, e0]
      · rintro e w3 ⟨rfl, b9⟩
        exact ⟨_, rfl, rfl, trivial, b9⟩
    · refine .inl ⟨.inl rfl, ?_⟩
      exact .inl ⟨by kernel_rfl, fun L a1 w1 n h => ⟨_, rfl, run_neqS (.tmp 16) (.tmp 18) rfl (fun w => (eqPin _ _ _ _ w).trans (by rw [hq]; rfl)) (h.dep n 0 16 (by kernel_rfl) rfl) (h.dep n 2 18 (by kernel_rfl) rfl) (by kernel_rfl)⟩⟩
    · refine .inl ⟨.inl rfl, ?_⟩
      exact .inl ⟨by kernel_rfl, fun L a1 w1 n h => ⟨_, rfl, run_assign (.tmp 19) rfl (h.dep n 3 19 (by kernel_rfl) rfl)⟩⟩
  case heSR1 =>
    intro V w5 hV2 hJ
    have hz : V 4 = .bool true := hV2 4 15 rfl
    have bw5 : Below w3.heap.size w3 w5 := hJ.1
    have hc := Row.later hc bw5
    have r3 := Row.later r3 bw5
    clear hV2 hJ
    simp only [putOps, List.setIfInBounds_toArray, List.set_cons_succ, List.set_cons_zero, Nat.reduceAdd]
    rw [hz]
    refine hK1 _ _ ?_
    clear hz
    go_wp2
    go_ret
    exact ⟨rfl, (b3.trans (bw5.mono b3.size))⟩

set_option maxRecDepth 100000 in
set_option maxHeartbeats 1000000 in
theorem refuse_less (w : World) (g : Nat) (P : Option Addr) (m1 m2 life a b p1 p2 : Int) (hc : Cel w g true P m1 m2 life a b) (hq : decide (p1 = max p1 0 ∧ p2 = max p2 0) = true) (hlt : lessB a b p1 p2 = false) : Calls Try.prog 103 #[ptr g, pin p1 p2] w fun e w' => e = .returned (.int .i64 13) ∧ Below w.heap.size w w' := by
  go_enter Try.func103, Try.ntmps103
  go_wp2_with (first
    | (with_reducible refine wl_box rfl 83 (.tmp 1) _ [.int .i64 p1, .int .i64 p2] rfl rfl rfl ?_; intro g3 w3 r3 p3 l3 b3; have hc := Row.later hc b3; have c0 := hc.cell (j := 0) (v := .bool true) rfl))
  clear c0
  rename_i K1 hK1
  refine wp_region_valsS [2] (SR2 g g3 P m1 m2 life a b p1 p2) (JF w3 [2] FNo) (by kernel_rfl) (by kernel_rfl) (by kernel_rfl) (by kernel_rfl) (JF.start _) ?obsSR2 ?heSR2
  case obsSR2 =>
    refine ⟨?_, ?_, ?_, ?_, ?_, trivial⟩
    · refine .inl ⟨.inl rfl, ?_⟩
      exact .inl ⟨by kernel_rfl, fun L a1 w1 n h => ⟨_, rfl, run_loadP 83 (.tmp 3) g3 0 83 [] [.int .i64 p1, .int .i64 p2] [] _ rfl (h.var n 3 (by kernel_rfl)) (Row.later r3 h.inv.1) rfl Try.underlying83 rfl (szPin _ _)⟩⟩
    · refine .inl ⟨.inl rfl, ?_⟩
      exact .inl ⟨by kernel_rfl, fun L a1 w1 n h => ⟨_, rfl, run_loadP 83 (.tmp 3) g3 0 83 [] [.int .i64 p1, .int .i64 p2] [] _ rfl (h.var n 3 (by kernel_rfl)) (Row.later r3 h.inv.1) rfl Try.underlying83 rfl (szPin _ _)⟩⟩
    · refine .inl ⟨.inl rfl, ?_⟩
      refine .inr fun L a1 w1 n h K hK => ?_
      have e0 : a1.eval (.tmp 17) = pin p1 p2 := h.dep n 1 17 (by kernel_rfl) rfl
      refine JF.call (FNo_mono ) h hK 18 rfl 102 _ _ #[pin p1 p2] rfl Try.call102 ?_ (alz_any p1 p2 w1) ?_
      · simp only [List.map_toArray, List.map_cons, List.map_nil, e0]
      · rintro e w3 ⟨rfl, b9⟩
        exact ⟨_, rfl, rfl, trivial, b9⟩
    · refine .inl ⟨.inl rfl, ?_⟩
      exact .inl ⟨by kernel_rfl, fun L a1 w1 n h => ⟨_, rfl, run_neqS (.tmp 16) (.tmp 18) rfl (fun w => (eqPin _ _ _ _ w).trans (by rw [hq]; rfl)) (h.dep n 0 16 (by kernel_rfl) rfl) (h.dep n 2 18 (by kernel_rfl) rfl) (by kernel_rfl)⟩⟩
    · refine .inl ⟨.inl rfl, ?_⟩
      exact .inl ⟨by kernel_rfl, fun L a1 w1 n h => ⟨_, rfl, run_assign (.tmp 19) rfl (h.dep n 3 19 (by kernel_rfl) rfl)⟩⟩
  case heSR2 =>
    intro V w5 hV2 hJ
    have hz : V 4 = .bool false := hV2 4 15 rfl
    have bw5 : Below w3.heap.size w3 w5 := hJ.1
    have hc := Row.later hc bw5
    have r3 := Row.later r3 bw5
    clear hV2 hJ
    simp only [putOps, List.setIfInBounds_toArray, List.set_cons_succ, List.set_cons_zero, Nat.reduceAdd]
    rw [hz]
    refine hK1 _ _ ?_
    clear hz
    go_wp2
    rename_i K2 hK2
    refine wp_region_valsS [5] (SR3 g g3 P m1 m2 life a b p1 p2) (JF w5 [5] FNo) (by kernel_rfl) (by kernel_rfl) (by kernel_rfl) (by kernel_rfl) (JF.start _) ?obsSR3 ?heSR3
    case obsSR3 =>
      refine ⟨?_, ?_, ?_, ?_, ?_, ?_, ?_, ?_, ?_, ?_, ?_, ?_, ?_, ?_, ?_, ?_, ?_, trivial⟩
      · refine .inl ⟨.inl rfl, ?_⟩
        exact .inl ⟨by kernel_rfl, fun L a1 w1 n h => ⟨_, rfl, run_move (.tmp 0) rfl (h.var n 0 (by kernel_rfl))⟩⟩
      · refine .inl ⟨.inl rfl, ?_⟩
        refine .inl ⟨by kernel_rfl, fun L a1 w1 n h => ⟨ptr g, rfl, ?_⟩⟩
        have e0 : a1.eval (.tmp 21) = _ := h.dep n 0 21 (by kernel_rfl) rfl
        unfold execOp
        simp only [e0]
        go_simp
      · refine .inl ⟨.inl rfl, ?_⟩
        refine .inl ⟨by kernel_rfl, fun L a1 w1 n h => ⟨.pointer (some ⟨g, 5, none⟩), rfl, ?_⟩⟩
        have e0 : a1.eval (.tmp 22) = _ := h.dep n 1 22 (by kernel_rfl) rfl
        unfold execOp
        simp only [e0]
        go_simp
      · refine .inl ⟨.inl rfl, ?_⟩
        exact .inl ⟨by kernel_rfl, fun L a1 w1 n h => ⟨_, rfl, run_loadP 83 (.tmp 23) g 5 100 [.bool true, .pointer P, .int .i64 m1, .int .i64 m2, .int .i64 life] [.int .i64 a, .int .i64 b] [] _ rfl (h.dep n 2 23 (by kernel_rfl) rfl) (Row.later hc h.inv.1) rfl Try.underlying83 rfl (szPin _ _)⟩⟩
      · refine .inl ⟨.inl rfl, ?_⟩
        exact .inl ⟨by kernel_rfl, fun L a1 w1 n h => ⟨_, rfl, run_loadP 83 (.tmp 3) g3 0 83 [] [.int .i64 p1, .int .i64 p2] [] _ rfl (h.var n 3 (by kernel_rfl)) (Row.later r3 h.inv.1) rfl Try.underlying83 rfl (szPin _ _)⟩⟩
      · refine .inl ⟨.inl rfl, ?_⟩
        refine .inr fun L a1 w1 n h K hK => ?_
        have e0 : a1.eval (.tmp 24) = pin a b := h.dep n 3 24 (by kernel_rfl) rfl
        have e1 : a1.eval (.tmp 25) = pin p1 p2 := h.dep n 4 25 (by kernel_rfl) rfl
        refine JF.call (FNo_mono ) h hK 26 rfl 52 _ _ #[pin a b, pin p1 p2] rfl Try.call52 ?_ (less_any a b p1 p2 w1) ?_
        · simp only [List.map_toArray, List.map_cons, List.map_nil, e0, e1]
        · rintro e w3 ⟨rfl, b9⟩
          exact ⟨_, rfl, rfl, trivial, b9⟩
      · refine .inl ⟨.inl rfl, ?_⟩
        exact .inl ⟨by kernel_rfl, fun L a1 w1 n h => ⟨_, rfl, run_notB (.tmp 26) (lessB a b p1 p2) rfl (h.dep n 5 26 (by kernel_rfl) rfl) (by rw [hlt]; rfl)⟩⟩
      · refine .inl ⟨.inl rfl, ?_⟩
        exact .inl ⟨by kernel_rfl, fun L a1 w1 n h => ⟨_, rfl, run_move (.tmp 27) rfl (h.dep n 6 27 (by kernel_rfl) rfl)⟩⟩
      · exact .inr ⟨⟨7, false, 28, rfl, by kernel_rfl, rfl, by simp, fun v h => by rw [show v = .bool true from h]; first | exact ne_tf | exact ne_ft | exact ne_undef _⟩, by kernel_rfl, rfl⟩
      · exact .inr ⟨⟨7, false, 28, rfl, by kernel_rfl, rfl, by simp, fun v h => by rw [show v = .bool true from h]; first | exact ne_tf | exact ne_ft | exact ne_undef _⟩, by kernel_rfl, rfl⟩
      · exact .inr ⟨⟨7, false, 28, rfl, by kernel_rfl, rfl, by simp, fun v h => by rw [show v = .bool true from h]; first | exact ne_tf | exact ne_ft | exact ne_undef _⟩, by kernel_rfl, rfl⟩
      · exact .inr ⟨⟨7, false, 28, rfl, by kernel_rfl, rfl, by simp, fun v h => by rw [show v = .bool true from h]; first | exact ne_tf | exact ne_ft | exact ne_undef _⟩, by kernel_rfl, rfl⟩
      · exact .inr ⟨⟨7, false, 28, rfl, by kernel_rfl, rfl, by simp, fun v h => by rw [show v = .bool true from h]; first | exact ne_tf | exact ne_ft | exact ne_undef _⟩, by kernel_rfl, rfl⟩
      · exact .inr ⟨⟨7, false, 28, rfl, by kernel_rfl, rfl, by simp, fun v h => by rw [show v = .bool true from h]; first | exact ne_tf | exact ne_ft | exact ne_undef _⟩, by kernel_rfl, rfl⟩
      · exact .inr ⟨⟨7, false, 28, rfl, by kernel_rfl, rfl, by simp, fun v h => by rw [show v = .bool true from h]; first | exact ne_tf | exact ne_ft | exact ne_undef _⟩, by kernel_rfl, rfl⟩
      · refine .inl ⟨.inl rfl, ?_⟩
        exact .inl ⟨by kernel_rfl, fun L a1 w1 n h => ⟨_, rfl, run_pickT (.tmp 28) _ _ rfl (h.dep n 7 28 (by kernel_rfl) rfl) rfl⟩⟩
      · refine .inl ⟨.inl rfl, ?_⟩
        exact .inl ⟨by kernel_rfl, fun L a1 w1 n h => ⟨_, rfl, run_assign (.tmp 36) rfl (h.dep n 15 36 (by kernel_rfl) rfl)⟩⟩
    case heSR3 =>
      intro V w6 hV2 hJ
      have hz : V 16 = .bool true := hV2 16 20 rfl
      have bw6 : Below w5.heap.size w5 w6 := hJ.1
      have hc := Row.later hc bw6
      have r3 := Row.later r3 bw6
      clear hV2 hJ
      simp only [putOps, List.setIfInBounds_toArray, List.set_cons_succ, List.set_cons_zero, Nat.reduceAdd]
      rw [hz]
      refine hK2 _ _ ?_
      clear hz
      go_wp2
      go_ret
      exact ⟨rfl, ((b3.trans (bw5.mono b3.size)).trans (bw6.mono (b3.trans (bw5.mono b3.size)).size))⟩

set_option maxRecDepth 100000 in
set_option maxHeartbeats 1000000 in
theorem refuse_life (w : World) (g : Nat) (P : Option Addr) (m1 m2 life a b p1 p2 : Int) (hc : Cel w g true P m1 m2 life a b) (hq : decide (p1 = max p1 0 ∧ p2 = max p2 0) = true) (hlt : lessB a b p1 p2 = true) (hlf : decide (life < p1) = true) : Calls Try.prog 103 #[ptr g, pin p1 p2] w fun e w' => e = .returned (.int .i64 13) ∧ Below w.heap.size w w' := by
  go_enter Try.func103, Try.ntmps103
  go_wp2_with (first
    | (with_reducible refine wl_box rfl 83 (.tmp 1) _ [.int .i64 p1, .int .i64 p2] rfl rfl rfl ?_; intro g3 w3 r3 p3 l3 b3; have hc := Row.later hc b3; have c0 := hc.cell (j := 0) (v := .bool true) rfl))
  clear c0
  rename_i K1 hK1
  refine wp_region_valsS [2] (SR4 g g3 P m1 m2 life a b p1 p2) (JF w3 [2] FNo) (by kernel_rfl) (by kernel_rfl) (by kernel_rfl) (by kernel_rfl) (JF.start _) ?obsSR4 ?heSR4
  case obsSR4 =>
    refine ⟨?_, ?_, ?_, ?_, ?_, trivial⟩
    · refine .inl ⟨.inl rfl, ?_⟩
      exact .inl ⟨by kernel_rfl, fun L a1 w1 n h => ⟨_, rfl, run_loadP 83 (.tmp 3) g3 0 83 [] [.int .i64 p1, .int .i64 p2] [] _ rfl (h.var n 3 (by kernel_rfl)) (Row.later r3 h.inv.1) rfl Try.underlying83 rfl (szPin _ _)⟩⟩
    · refine .inl ⟨.inl rfl, ?_⟩
      exact .inl ⟨by kernel_rfl, fun L a1 w1 n h => ⟨_, rfl, run_loadP 83 (.tmp 3) g3 0 83 [] [.int .i64 p1, .int .i64 p2] [] _ rfl (h.var n 3 (by kernel_rfl)) (Row.later r3 h.inv.1) rfl Try.underlying83 rfl (szPin _ _)⟩⟩
    · refine .inl ⟨.inl rfl, ?_⟩
      refine .inr fun L a1 w1 n h K hK => ?_
      have e0 : a1.eval (.tmp 17) = pin p1 p2 := h.dep n 1 17 (by kernel_rfl) rfl
      refine JF.call (FNo_mono ) h hK 18 rfl 102 _ _ #[pin p1 p2] rfl Try.call102 ?_ (alz_any p1 p2 w1) ?_
      · simp only [List.map_toArray, List.map_cons, List.map_nil, e0]
      · rintro e w3 ⟨rfl, b9⟩
        exact ⟨_, rfl, rfl, trivial, b9⟩
    · refine .inl ⟨.inl rfl, ?_⟩
      exact .inl ⟨by kernel_rfl, fun L a1 w1 n h => ⟨_, rfl, run_neqS (.tmp 16) (.tmp 18) rfl (fun w => (eqPin _ _ _ _ w).trans (by rw [hq]; rfl)) (h.dep n 0 16 (by kernel_rfl) rfl) (h.dep n 2 18 (by kernel_rfl) rfl) (by kernel_rfl)⟩⟩
    · refine .inl ⟨.inl rfl, ?_⟩
      exact .inl ⟨by kernel_rfl, fun L a1 w1 n h => ⟨_, rfl, run_assign (.tmp 19) rfl (h.dep n 3 19 (by kernel_rfl) rfl)⟩⟩
  case heSR4 =>
    intro V w5 hV2 hJ
    have hz : V 4 = .bool false := hV2 4 15 rfl
    have bw5 : Below w3.heap.size w3 w5 := hJ.1
    have hc := Row.later hc bw5
    have r3 := Row.later r3 bw5
    clear hV2 hJ
    simp only [putOps, List.setIfInBounds_toArray, List.set_cons_succ, List.set_cons_zero, Nat.reduceAdd]
    rw [hz]
    refine hK1 _ _ ?_
    clear hz
    go_wp2
    rename_i K2 hK2
    refine wp_region_valsS [5] (SR5 g g3 P m1 m2 life a b p1 p2) (JF w5 [5] FNo) (by kernel_rfl) (by kernel_rfl) (by kernel_rfl) (by kernel_rfl) (JF.start _) ?obsSR5 ?heSR5
    case obsSR5 =>
      refine ⟨?_, ?_, ?_, ?_, ?_, ?_, ?_, ?_, ?_, ?_, ?_, ?_, ?_, ?_, ?_, ?_, ?_, trivial⟩
      · refine .inl ⟨.inl rfl, ?_⟩
        exact .inl ⟨by kernel_rfl, fun L a1 w1 n h => ⟨_, rfl, run_move (.tmp 0) rfl (h.var n 0 (by kernel_rfl))⟩⟩
      · refine .inl ⟨.inl rfl, ?_⟩
        refine .inl ⟨by kernel_rfl, fun L a1 w1 n h => ⟨ptr g, rfl, ?_⟩⟩
        have e0 : a1.eval (.tmp 21) = _ := h.dep n 0 21 (by kernel_rfl) rfl
        unfold execOp
        simp only [e0]
        go_simp
      · refine .inl ⟨.inl rfl, ?_⟩
        refine .inl ⟨by kernel_rfl, fun L a1 w1 n h => ⟨.pointer (some ⟨g, 5, none⟩), rfl, ?_⟩⟩
        have e0 : a1.eval (.tmp 22) = _ := h.dep n 1 22 (by kernel_rfl) rfl
        unfold execOp
        simp only [e0]
        go_simp
      · refine .inl ⟨.inl rfl, ?_⟩
        exact .inl ⟨by kernel_rfl, fun L a1 w1 n h => ⟨_, rfl, run_loadP 83 (.tmp 23) g 5 100 [.bool true, .pointer P, .int .i64 m1, .int .i64 m2, .int .i64 life] [.int .i64 a, .int .i64 b] [] _ rfl (h.dep n 2 23 (by kernel_rfl) rfl) (Row.later hc h.inv.1) rfl Try.underlying83 rfl (szPin _ _)⟩⟩
      · refine .inl ⟨.inl rfl, ?_⟩
        exact .inl ⟨by kernel_rfl, fun L a1 w1 n h => ⟨_, rfl, run_loadP 83 (.tmp 3) g3 0 83 [] [.int .i64 p1, .int .i64 p2] [] _ rfl (h.var n 3 (by kernel_rfl)) (Row.later r3 h.inv.1) rfl Try.underlying83 rfl (szPin _ _)⟩⟩
      · refine .inl ⟨.inl rfl, ?_⟩
        refine .inr fun L a1 w1 n h K hK => ?_
        have e0 : a1.eval (.tmp 24) = pin a b := h.dep n 3 24 (by kernel_rfl) rfl
        have e1 : a1.eval (.tmp 25) = pin p1 p2 := h.dep n 4 25 (by kernel_rfl) rfl
        refine JF.call (FNo_mono ) h hK 26 rfl 52 _ _ #[pin a b, pin p1 p2] rfl Try.call52 ?_ (less_any a b p1 p2 w1) ?_
        · simp only [List.map_toArray, List.map_cons, List.map_nil, e0, e1]
        · rintro e w3 ⟨rfl, b9⟩
          exact ⟨_, rfl, rfl, trivial, b9⟩
      · refine .inl ⟨.inl rfl, ?_⟩
        exact .inl ⟨by kernel_rfl, fun L a1 w1 n h => ⟨_, rfl, run_notB (.tmp 26) (lessB a b p1 p2) rfl (h.dep n 5 26 (by kernel_rfl) rfl) (by rw [hlt]; rfl)⟩⟩
      · refine .inl ⟨.inl rfl, ?_⟩
        exact .inl ⟨by kernel_rfl, fun L a1 w1 n h => ⟨_, rfl, run_move (.tmp 27) rfl (h.dep n 6 27 (by kernel_rfl) rfl)⟩⟩
      · refine .inl ⟨.inr ⟨7, false, 28, rfl, by kernel_rfl, rfl, by simp, fun v h => h⟩, ?_⟩
        refine .inl ⟨by kernel_rfl, fun L a1 w1 n h => ⟨.pointer (some ⟨g3, 0, none⟩), rfl, ?_⟩⟩
        have e0 : a1.eval (.tmp 3) = _ := h.var n 3 (by kernel_rfl)
        unfold execOp
        simp only [e0]
        go_simp
      · refine .inl ⟨.inr ⟨7, false, 28, rfl, by kernel_rfl, rfl, by simp, fun v h => h⟩, ?_⟩
        exact .inl ⟨by kernel_rfl, fun L a1 w1 n h => ⟨_, rfl, run_loadA 3 (.tmp 29) ⟨g3, 0, none⟩ rfl Try.isAgg3 (h.dep n 8 29 (by kernel_rfl) rfl) ((Row.later r3 h.inv.1).cell (j := 0) (v := .int .i64 p1) rfl)⟩⟩
      · refine .inl ⟨.inr ⟨7, false, 28, rfl, by kernel_rfl, rfl, by simp, fun v h => h⟩, ?_⟩
        exact .inl ⟨by kernel_rfl, fun L a1 w1 n h => ⟨_, rfl, run_move (.tmp 0) rfl (h.var n 0 (by kernel_rfl))⟩⟩
      · refine .inl ⟨.inr ⟨7, false, 28, rfl, by kernel_rfl, rfl, by simp, fun v h => h⟩, ?_⟩
        refine .inl ⟨by kernel_rfl, fun L a1 w1 n h => ⟨ptr g, rfl, ?_⟩⟩
        have e0 : a1.eval (.tmp 31) = _ := h.dep n 10 31 (by kernel_rfl) rfl
        unfold execOp
        simp only [e0]
        go_simp
      · refine .inl ⟨.inr ⟨7, false, 28, rfl, by kernel_rfl, rfl, by simp, fun v h => h⟩, ?_⟩
        refine .inl ⟨by kernel_rfl, fun L a1 w1 n h => ⟨.pointer (some ⟨g, 4, none⟩), rfl, ?_⟩⟩
        have e0 : a1.eval (.tmp 32) = _ := h.dep n 11 32 (by kernel_rfl) rfl
        unfold execOp
        simp only [e0]
        go_simp
      · refine .inl ⟨.inr ⟨7, false, 28, rfl, by kernel_rfl, rfl, by simp, fun v h => h⟩, ?_⟩
        exact .inl ⟨by kernel_rfl, fun L a1 w1 n h => ⟨_, rfl, run_loadA 3 (.tmp 33) ⟨g, 4, none⟩ rfl Try.isAgg3 (h.dep n 12 33 (by kernel_rfl) rfl) ((Row.later hc h.inv.1).cell (j := 4) (v := .int .i64 life) rfl)⟩⟩
      · refine .inl ⟨.inr ⟨7, false, 28, rfl, by kernel_rfl, rfl, by simp, fun v h => h⟩, ?_⟩
        exact .inl ⟨by kernel_rfl, fun L a1 w1 n h => ⟨_, rfl, run_gtrI (.tmp 30) (.tmp 34) rfl (h.dep n 9 30 (by kernel_rfl) rfl) (h.dep n 13 34 (by kernel_rfl) rfl) hlf⟩⟩
      · refine .inl ⟨.inl rfl, ?_⟩
        exact .inl ⟨by kernel_rfl, fun L a1 w1 n h => ⟨_, rfl, run_pickF (.tmp 28) _ _ rfl (h.dep n 7 28 (by kernel_rfl) rfl) (h.dep n 14 35 (by kernel_rfl) rfl)⟩⟩
      · refine .inl ⟨.inl rfl, ?_⟩
        exact .inl ⟨by kernel_rfl, fun L a1 w1 n h => ⟨_, rfl, run_assign (.tmp 36) rfl (h.dep n 15 36 (by kernel_rfl) rfl)⟩⟩
    case heSR5 =>
      intro V w6 hV2 hJ
      have hz : V 16 = .bool true := hV2 16 20 rfl
      have bw6 : Below w5.heap.size w5 w6 := hJ.1
      have hc := Row.later hc bw6
      have r3 := Row.later r3 bw6
      clear hV2 hJ
      simp only [putOps, List.setIfInBounds_toArray, List.set_cons_succ, List.set_cons_zero, Nat.reduceAdd]
      rw [hz]
      refine hK2 _ _ ?_
      clear hz
      go_wp2
      go_ret
      exact ⟨rfl, ((b3.trans (bw5.mono b3.size)).trans (bw6.mono (b3.trans (bw5.mono b3.size)).size))⟩

set_option maxRecDepth 100000 in
set_option maxHeartbeats 1000000 in
theorem refuse_most (w : World) (g : Nat) (P : Option Addr) (m1 m2 life a b p1 p2 : Int) (hc : Cel w g true P m1 m2 life a b) (hq : decide (p1 = max p1 0 ∧ p2 = max p2 0) = true) (hlt : lessB a b p1 p2 = true) (hlf : decide (life < p1) = false) (hmf : decide (m2 < p2) = true) : Calls Try.prog 103 #[ptr g, pin p1 p2] w fun e w' => e = .returned (.int .i64 7) ∧ Below w.heap.size w w' := by
  go_enter Try.func103, Try.ntmps103
  go_wp2_with (first
    | (with_reducible refine wl_box rfl 83 (.tmp 1) _ [.int .i64 p1, .int .i64 p2] rfl rfl rfl ?_; intro g3 w3 r3 p3 l3 b3; have hc := Row.later hc b3; have c0 := hc.cell (j := 0) (v := .bool true) rfl))
  clear c0
  rename_i K1 hK1
  refine wp_region_valsS [2] (SR6a g g3 P m1 m2 life a b p1 p2) (JF w3 [2] FNo) (by kernel_rfl) (by kernel_rfl) (by kernel_rfl) (by kernel_rfl) (JF.start _) ?obsSR6a ?heSR6a
  case obsSR6a =>
    refine ⟨?_, ?_, ?_, ?_, ?_, trivial⟩
    · refine .inl ⟨.inl rfl, ?_⟩
      exact .inl ⟨by kernel_rfl, fun L a1 w1 n h => ⟨_, rfl, run_loadP 83 (.tmp 3) g3 0 83 [] [.int .i64 p1, .int .i64 p2] [] _ rfl (h.var n 3 (by kernel_rfl)) (Row.later r3 h.inv.1) rfl Try.underlying83 rfl (szPin _ _)⟩⟩
    · refine .inl ⟨.inl rfl, ?_⟩
      exact .inl ⟨by kernel_rfl, fun L a1 w1 n h => ⟨_, rfl, run_loadP 83 (.tmp 3) g3 0 83 [] [.int .i64 p1, .int .i64 p2] [] _ rfl (h.var n 3 (by kernel_rfl)) (Row.later r3 h.inv.1) rfl Try.underlying83 rfl (szPin _ _)⟩⟩
    · refine .inl ⟨.inl rfl, ?_⟩
      refine .inr fun L a1 w1 n h K hK => ?_
      have e0 : a1.eval (.tmp 17) = pin p1 p2 := h.dep n 1 17 (by kernel_rfl) rfl
      refine JF.call (FNo_mono ) h hK 18 rfl 102 _ _ #[pin p1 p2] rfl Try.call102 ?_ (alz_any p1 p2 w1) ?_
      · simp only [List.map_toArray, List.map_cons, List.map_nil, e0]
      · rintro e w3 ⟨rfl, b9⟩
        exact ⟨_, rfl, rfl, trivial, b9⟩
    · refine .inl ⟨.inl rfl, ?_⟩
      exact .inl ⟨by kernel_rfl, fun L a1 w1 n h => ⟨_, rfl, run_neqS (.tmp 16) (.tmp 18) rfl (fun w => (eqPin _ _ _ _ w).trans (by rw [hq]; rfl)) (h.dep n 0 16 (by kernel_rfl) rfl) (h.dep n 2 18 (by kernel_rfl) rfl) (by kernel_rfl)⟩⟩
    · refine .inl ⟨.inl rfl, ?_⟩
      exact .inl ⟨by kernel_rfl, fun L a1 w1 n h => ⟨_, rfl, run_assign (.tmp 19) rfl (h.dep n 3 19 (by kernel_rfl) rfl)⟩⟩
  case heSR6a =>
    intro V w5 hV2 hJ
    have hz : V 4 = .bool false := hV2 4 15 rfl
    have bw5 : Below w3.heap.size w3 w5 := hJ.1
    have hc := Row.later hc bw5
    have r3 := Row.later r3 bw5
    clear hV2 hJ
    simp only [putOps, List.setIfInBounds_toArray, List.set_cons_succ, List.set_cons_zero, Nat.reduceAdd]
    rw [hz]
    refine hK1 _ _ ?_
    clear hz
    go_wp2
    rename_i K2 hK2
    refine wp_region_valsS [5] (SR6b g g3 P m1 m2 life a b p1 p2) (JF w5 [5] FNo) (by kernel_rfl) (by kernel_rfl) (by kernel_rfl) (by kernel_rfl) (JF.start _) ?obsSR6b ?heSR6b
    case obsSR6b =>
      refine ⟨?_, ?_, ?_, ?_, ?_, ?_, ?_, ?_, ?_, ?_, ?_, ?_, ?_, ?_, ?_, ?_, ?_, trivial⟩
      · refine .inl ⟨.inl rfl, ?_⟩
        exact .inl ⟨by kernel_rfl, fun L a1 w1 n h => ⟨_, rfl, run_move (.tmp 0) rfl (h.var n 0 (by kernel_rfl))⟩⟩
      · refine .inl ⟨.inl rfl, ?_⟩
        refine .inl ⟨by kernel_rfl, fun L a1 w1 n h => ⟨ptr g, rfl, ?_⟩⟩
        have e0 : a1.eval (.tmp 21) = _ := h.dep n 0 21 (by kernel_rfl) rfl
        unfold execOp
        simp only [e0]
        go_simp
      · refine .inl ⟨.inl rfl, ?_⟩
        refine .inl ⟨by kernel_rfl, fun L a1 w1 n h => ⟨.pointer (some ⟨g, 5, none⟩), rfl, ?_⟩⟩
        have e0 : a1.eval (.tmp 22) = _ := h.dep n 1 22 (by kernel_rfl) rfl
        unfold execOp
        simp only [e0]
        go_simp
      · refine .inl ⟨.inl rfl, ?_⟩
        exact .inl ⟨by kernel_rfl, fun L a1 w1 n h => ⟨_, rfl, run_loadP 83 (.tmp 23) g 5 100 [.bool true, .pointer P, .int .i64 m1, .int .i64 m2, .int .i64 life] [.int .i64 a, .int .i64 b] [] _ rfl (h.dep n 2 23 (by kernel_rfl) rfl) (Row.later hc h.inv.1) rfl Try.underlying83 rfl (szPin _ _)⟩⟩
      · refine .inl ⟨.inl rfl, ?_⟩
        exact .inl ⟨by kernel_rfl, fun L a1 w1 n h => ⟨_, rfl, run_loadP 83 (.tmp 3) g3 0 83 [] [.int .i64 p1, .int .i64 p2] [] _ rfl (h.var n 3 (by kernel_rfl)) (Row.later r3 h.inv.1) rfl Try.underlying83 rfl (szPin _ _)⟩⟩
      · refine .inl ⟨.inl rfl, ?_⟩
        refine .inr fun L a1 w1 n h K hK => ?_
        have e0 : a1.eval (.tmp 24) = pin a b := h.dep n 3 24 (by kernel_rfl) rfl
        have e1 : a1.eval (.tmp 25) = pin p1 p2 := h.dep n 4 25 (by kernel_rfl) rfl
        refine JF.call (FNo_mono ) h hK 26 rfl 52 _ _ #[pin a b, pin p1 p2] rfl Try.call52 ?_ (less_any a b p1 p2 w1) ?_
        · simp only [List.map_toArray, List.map_cons, List.map_nil, e0, e1]
        · rintro e w3 ⟨rfl, b9⟩
          exact ⟨_, rfl, rfl, trivial, b9⟩
      · refine .inl ⟨.inl rfl, ?_⟩
        exact .inl ⟨by kernel_rfl, fun L a1 w1 n h => ⟨_, rfl, run_notB (.tmp 26) (lessB a b p1 p2) rfl (h.dep n 5 26 (by kernel_rfl) rfl) (by rw [hlt]; rfl)⟩⟩
      · refine .inl ⟨.inl rfl, ?_⟩
        exact .inl ⟨by kernel_rfl, fun L a1 w1 n h => ⟨_, rfl, run_move (.tmp 27) rfl (h.dep n 6 27 (by kernel_rfl) rfl)⟩⟩
      · refine .inl ⟨.inr ⟨7, false, 28, rfl, by kernel_rfl, rfl, by simp, fun v h => h⟩, ?_⟩
        refine .inl ⟨by kernel_rfl, fun L a1 w1 n h => ⟨.pointer (some ⟨g3, 0, none⟩), rfl, ?_⟩⟩
        have e0 : a1.eval (.tmp 3) = _ := h.var n 3 (by kernel_rfl)
        unfold execOp
        simp only [e0]
        go_simp
      · refine .inl ⟨.inr ⟨7, false, 28, rfl, by kernel_rfl, rfl, by simp, fun v h => h⟩, ?_⟩
        exact .inl ⟨by kernel_rfl, fun L a1 w1 n h => ⟨_, rfl, run_loadA 3 (.tmp 29) ⟨g3, 0, none⟩ rfl Try.isAgg3 (h.dep n 8 29 (by kernel_rfl) rfl) ((Row.later r3 h.inv.1).cell (j := 0) (v := .int .i64 p1) rfl)⟩⟩
      · refine .inl ⟨.inr ⟨7, false, 28, rfl, by kernel_rfl, rfl, by simp, fun v h => h⟩, ?_⟩
        exact .inl ⟨by kernel_rfl, fun L a1 w1 n h => ⟨_, rfl, run_move (.tmp 0) rfl (h.var n 0 (by kernel_rfl))⟩⟩
      · refine .inl ⟨.inr ⟨7, false, 28, rfl, by kernel_rfl, rfl, by simp, fun v h => h⟩, ?_⟩
        refine .inl ⟨by kernel_rfl, fun L a1 w1 n h => ⟨ptr g, rfl, ?_⟩⟩
        have e0 : a1.eval (.tmp 31) = _ := h.dep n 10 31 (by kernel_rfl) rfl
        unfold execOp
        simp only [e0]
        go_simp
      · refine .inl ⟨.inr ⟨7, false, 28, rfl, by kernel_rfl, rfl, by simp, fun v h => h⟩, ?_⟩
        refine .inl ⟨by kernel_rfl, fun L a1 w1 n h => ⟨.pointer (some ⟨g, 4, none⟩), rfl, ?_⟩⟩
        have e0 : a1.eval (.tmp 32) = _ := h.dep n 11 32 (by kernel_rfl) rfl
        unfold execOp
        simp only [e0]
        go_simp
      · refine .inl ⟨.inr ⟨7, false, 28, rfl, by kernel_rfl, rfl, by simp, fun v h => h⟩, ?_⟩
        exact .inl ⟨by kernel_rfl, fun L a1 w1 n h => ⟨_, rfl, run_loadA 3 (.tmp 33) ⟨g, 4, none⟩ rfl Try.isAgg3 (h.dep n 12 33 (by kernel_rfl) rfl) ((Row.later hc h.inv.1).cell (j := 4) (v := .int .i64 life) rfl)⟩⟩
      · refine .inl ⟨.inr ⟨7, false, 28, rfl, by kernel_rfl, rfl, by simp, fun v h => h⟩, ?_⟩
        exact .inl ⟨by kernel_rfl, fun L a1 w1 n h => ⟨_, rfl, run_gtrI (.tmp 30) (.tmp 34) rfl (h.dep n 9 30 (by kernel_rfl) rfl) (h.dep n 13 34 (by kernel_rfl) rfl) hlf⟩⟩
      · refine .inl ⟨.inl rfl, ?_⟩
        exact .inl ⟨by kernel_rfl, fun L a1 w1 n h => ⟨_, rfl, run_pickF (.tmp 28) _ _ rfl (h.dep n 7 28 (by kernel_rfl) rfl) (h.dep n 14 35 (by kernel_rfl) rfl)⟩⟩
      · refine .inl ⟨.inl rfl, ?_⟩
        exact .inl ⟨by kernel_rfl, fun L a1 w1 n h => ⟨_, rfl, run_assign (.tmp 36) rfl (h.dep n 15 36 (by kernel_rfl) rfl)⟩⟩
    case heSR6b =>
      intro V w6 hV2 hJ
      have hz : V 16 = .bool false := hV2 16 20 rfl
      have bw6 : Below w5.heap.size w5 w6 := hJ.1
      have hc := Row.later hc bw6
      have r3 := Row.later r3 bw6
      clear hV2 hJ
      simp only [putOps, List.setIfInBounds_toArray, List.set_cons_succ, List.set_cons_zero, Nat.reduceAdd]
      rw [hz]
      refine hK2 _ _ ?_
      clear hz
      go_wp2
      rename_i K3 hK3
      refine wp_region_valsS [] (SR6c g g3 P m1 m2 life a b p1 p2) (JF w6 [] FNo) (by kernel_rfl) (by kernel_rfl) (by kernel_rfl) (by kernel_rfl) (JF.start _) ?obsSR6c ?heSR6c
      case obsSR6c =>
        refine ⟨?_, ?_, ?_, ?_, ?_, ?_, ?_, ?_, ?_, trivial⟩
        · refine .inl ⟨.inl rfl, ?_⟩
          refine .inl ⟨by kernel_rfl, fun L a1 w1 n h => ⟨.pointer (some ⟨g3, 1, none⟩), rfl, ?_⟩⟩
          have e0 : a1.eval (.tmp 3) = _ := h.var n 3 (by kernel_rfl)
          unfold execOp
          simp only [e0]
          go_simp
        · refine .inl ⟨.inl rfl, ?_⟩
          exact .inl ⟨by kernel_rfl, fun L a1 w1 n h => ⟨_, rfl, run_loadA 3 (.tmp 38) ⟨g3, 1, none⟩ rfl Try.isAgg3 (h.dep n 0 38 (by kernel_rfl) rfl) ((Row.later r3 h.inv.1).cell (j := 1) (v := .int .i64 p2) rfl)⟩⟩
        · refine .inl ⟨.inl rfl, ?_⟩
          exact .inl ⟨by kernel_rfl, fun L a1 w1 n h => ⟨_, rfl, run_move (.tmp 0) rfl (h.var n 0 (by kernel_rfl))⟩⟩
        · refine .inl ⟨.inl rfl, ?_⟩
          refine .inl ⟨by kernel_rfl, fun L a1 w1 n h => ⟨ptr g, rfl, ?_⟩⟩
          have e0 : a1.eval (.tmp 40) = _ := h.dep n 2 40 (by kernel_rfl) rfl
          unfold execOp
          simp only [e0]
          go_simp
        · refine .inl ⟨.inl rfl, ?_⟩
          refine .inl ⟨by kernel_rfl, fun L a1 w1 n h => ⟨.pointer (some ⟨g, 2, none⟩), rfl, ?_⟩⟩
          have e0 : a1.eval (.tmp 41) = _ := h.dep n 3 41 (by kernel_rfl) rfl
          unfold execOp
          simp only [e0]
          go_simp
        · refine .inl ⟨.inl rfl, ?_⟩
          refine .inl ⟨by kernel_rfl, fun L a1 w1 n h => ⟨.pointer (some ⟨g, 3, none⟩), rfl, ?_⟩⟩
          have e0 : a1.eval (.tmp 42) = _ := h.dep n 4 42 (by kernel_rfl) rfl
          unfold execOp
          simp only [e0]
          go_simp
        · refine .inl ⟨.inl rfl, ?_⟩
          exact .inl ⟨by kernel_rfl, fun L a1 w1 n h => ⟨_, rfl, run_loadA 3 (.tmp 43) ⟨g, 3, none⟩ rfl Try.isAgg3 (h.dep n 5 43 (by kernel_rfl) rfl) ((Row.later hc h.inv.1).cell (j := 3) (v := .int .i64 m2) rfl)⟩⟩
        · refine .inl ⟨.inl rfl, ?_⟩
          exact .inl ⟨by kernel_rfl, fun L a1 w1 n h => ⟨_, rfl, run_gtrI (.tmp 39) (.tmp 44) rfl (h.dep n 1 39 (by kernel_rfl) rfl) (h.dep n 6 44 (by kernel_rfl) rfl) hmf⟩⟩
        · refine .inl ⟨.inl rfl, ?_⟩
          exact .inl ⟨by kernel_rfl, fun L a1 w1 n h => ⟨_, rfl, run_assign (.tmp 45) rfl (h.dep n 7 45 (by kernel_rfl) rfl)⟩⟩
      case heSR6c =>
        intro V w7 hV2 hJ
        have hz : V 8 = .bool true := hV2 8 37 rfl
        have bw7 : Below w6.heap.size w6 w7 := hJ.1
        have hc := Row.later hc bw7
        have r3 := Row.later r3 bw7
        clear hV2 hJ
        simp only [putOps, List.setIfInBounds_toArray, List.set_cons_succ, List.set_cons_zero, Nat.reduceAdd]
        rw [hz]
        refine hK3 _ _ ?_
        clear hz
        go_wp2
        go_ret
        exact ⟨rfl, (((b3.trans (bw5.mono b3.size)).trans (bw6.mono (b3.trans (bw5.mono b3.size)).size)).trans (bw7.mono ((b3.trans (bw5.mono b3.size)).trans (bw6.mono (b3.trans (bw5.mono b3.size)).size)).size))⟩

set_option maxRecDepth 100000 in
set_option maxHeartbeats 1000000 in
theorem refuse_ok (w : World) (g : Nat) (P : Option Addr) (m1 m2 life a b p1 p2 : Int) (hc : Cel w g true P m1 m2 life a b) (hq : decide (p1 = max p1 0 ∧ p2 = max p2 0) = true) (hlt : lessB a b p1 p2 = true) (hlf : decide (life < p1) = false) (hmf : decide (m2 < p2) = false) : Calls Try.prog 103 #[ptr g, pin p1 p2] w fun e w' => e = .returned (.int .i64 0) ∧ Below w.heap.size w w' := by
  go_enter Try.func103, Try.ntmps103
  go_wp2_with (first
    | (with_reducible refine wl_box rfl 83 (.tmp 1) _ [.int .i64 p1, .int .i64 p2] rfl rfl rfl ?_; intro g3 w3 r3 p3 l3 b3; have hc := Row.later hc b3; have c0 := hc.cell (j := 0) (v := .bool true) rfl))
  clear c0
  rename_i K1 hK1
  refine wp_region_valsS [2] (SR7a g g3 P m1 m2 life a b p1 p2) (JF w3 [2] FNo) (by kernel_rfl) (by kernel_rfl) (by kernel_rfl) (by kernel_rfl) (JF.start _) ?obsSR7a ?heSR7a
  case obsSR7a =>
    refine ⟨?_, ?_, ?_, ?_, ?_, trivial⟩
    · refine .inl ⟨.inl rfl, ?_⟩
      exact .inl ⟨by kernel_rfl, fun L a1 w1 n h => ⟨_, rfl, run_loadP 83 (.tmp 3) g3 0 83 [] [.int .i64 p1, .int .i64 p2] [] _ rfl (h.var n 3 (by kernel_rfl)) (Row.later r3 h.inv.1) rfl Try.underlying83 rfl (szPin _ _)⟩⟩
    · refine .inl ⟨.inl rfl, ?_⟩
      exact .inl ⟨by kernel_rfl, fun L a1 w1 n h => ⟨_, rfl, run_loadP 83 (.tmp 3) g3 0 83 [] [.int .i64 p1, .int .i64 p2] [] _ rfl (h.var n 3 (by kernel_rfl)) (Row.later r3 h.inv.1) rfl Try.underlying83 rfl (szPin _ _)⟩⟩
    · refine .inl ⟨.inl rfl, ?_⟩
      refine .inr fun L a1 w1 n h K hK => ?_
      have e0 : a1.eval (.tmp 17) = pin p1 p2 := h.dep n 1 17 (by kernel_rfl) rfl
      refine JF.call (FNo_mono ) h hK 18 rfl 102 _ _ #[pin p1 p2] rfl Try.call102 ?_ (alz_any p1 p2 w1) ?_
      · simp only [List.map_toArray, List.map_cons, List.map_nil, e0]
      · rintro e w3 ⟨rfl, b9⟩
        exact ⟨_, rfl, rfl, trivial, b9⟩
    · refine .inl ⟨.inl rfl, ?_⟩
      exact .inl ⟨by kernel_rfl, fun L a1 w1 n h => ⟨_, rfl, run_neqS (.tmp 16) (.tmp 18) rfl (fun w => (eqPin _ _ _ _ w).trans (by rw [hq]; rfl)) (h.dep n 0 16 (by kernel_rfl) rfl) (h.dep n 2 18 (by kernel_rfl) rfl) (by kernel_rfl)⟩⟩
    · refine .inl ⟨.inl rfl, ?_⟩
      exact .inl ⟨by kernel_rfl, fun L a1 w1 n h => ⟨_, rfl, run_assign (.tmp 19) rfl (h.dep n 3 19 (by kernel_rfl) rfl)⟩⟩
  case heSR7a =>
    intro V w5 hV2 hJ
    have hz : V 4 = .bool false := hV2 4 15 rfl
    have bw5 : Below w3.heap.size w3 w5 := hJ.1
    have hc := Row.later hc bw5
    have r3 := Row.later r3 bw5
    clear hV2 hJ
    simp only [putOps, List.setIfInBounds_toArray, List.set_cons_succ, List.set_cons_zero, Nat.reduceAdd]
    rw [hz]
    refine hK1 _ _ ?_
    clear hz
    go_wp2
    rename_i K2 hK2
    refine wp_region_valsS [5] (SR7b g g3 P m1 m2 life a b p1 p2) (JF w5 [5] FNo) (by kernel_rfl) (by kernel_rfl) (by kernel_rfl) (by kernel_rfl) (JF.start _) ?obsSR7b ?heSR7b
    case obsSR7b =>
      refine ⟨?_, ?_, ?_, ?_, ?_, ?_, ?_, ?_, ?_, ?_, ?_, ?_, ?_, ?_, ?_, ?_, ?_, trivial⟩
      · refine .inl ⟨.inl rfl, ?_⟩
        exact .inl ⟨by kernel_rfl, fun L a1 w1 n h => ⟨_, rfl, run_move (.tmp 0) rfl (h.var n 0 (by kernel_rfl))⟩⟩
      · refine .inl ⟨.inl rfl, ?_⟩
        refine .inl ⟨by kernel_rfl, fun L a1 w1 n h => ⟨ptr g, rfl, ?_⟩⟩
        have e0 : a1.eval (.tmp 21) = _ := h.dep n 0 21 (by kernel_rfl) rfl
        unfold execOp
        simp only [e0]
        go_simp
      · refine .inl ⟨.inl rfl, ?_⟩
        refine .inl ⟨by kernel_rfl, fun L a1 w1 n h => ⟨.pointer (some ⟨g, 5, none⟩), rfl, ?_⟩⟩
        have e0 : a1.eval (.tmp 22) = _ := h.dep n 1 22 (by kernel_rfl) rfl
        unfold execOp
        simp only [e0]
        go_simp
      · refine .inl ⟨.inl rfl, ?_⟩
        exact .inl ⟨by kernel_rfl, fun L a1 w1 n h => ⟨_, rfl, run_loadP 83 (.tmp 23) g 5 100 [.bool true, .pointer P, .int .i64 m1, .int .i64 m2, .int .i64 life] [.int .i64 a, .int .i64 b] [] _ rfl (h.dep n 2 23 (by kernel_rfl) rfl) (Row.later hc h.inv.1) rfl Try.underlying83 rfl (szPin _ _)⟩⟩
      · refine .inl ⟨.inl rfl, ?_⟩
        exact .inl ⟨by kernel_rfl, fun L a1 w1 n h => ⟨_, rfl, run_loadP 83 (.tmp 3) g3 0 83 [] [.int .i64 p1, .int .i64 p2] [] _ rfl (h.var n 3 (by kernel_rfl)) (Row.later r3 h.inv.1) rfl Try.underlying83 rfl (szPin _ _)⟩⟩
      · refine .inl ⟨.inl rfl, ?_⟩
        refine .inr fun L a1 w1 n h K hK => ?_
        have e0 : a1.eval (.tmp 24) = pin a b := h.dep n 3 24 (by kernel_rfl) rfl
        have e1 : a1.eval (.tmp 25) = pin p1 p2 := h.dep n 4 25 (by kernel_rfl) rfl
        refine JF.call (FNo_mono ) h hK 26 rfl 52 _ _ #[pin a b, pin p1 p2] rfl Try.call52 ?_ (less_any a b p1 p2 w1) ?_
        · simp only [List.map_toArray, List.map_cons, List.map_nil, e0, e1]
        · rintro e w3 ⟨rfl, b9⟩
          exact ⟨_, rfl, rfl, trivial, b9⟩
      · refine .inl ⟨.inl rfl, ?_⟩
        exact .inl ⟨by kernel_rfl, fun L a1 w1 n h => ⟨_, rfl, run_notB (.tmp 26) (lessB a b p1 p2) rfl (h.dep n 5 26 (by kernel_rfl) rfl) (by rw [hlt]; rfl)⟩⟩
      · refine .inl ⟨.inl rfl, ?_⟩
        exact .inl ⟨by kernel_rfl, fun L a1 w1 n h => ⟨_, rfl, run_move (.tmp 27) rfl (h.dep n 6 27 (by kernel_rfl) rfl)⟩⟩
      · refine .inl ⟨.inr ⟨7, false, 28, rfl, by kernel_rfl, rfl, by simp, fun v h => h⟩, ?_⟩
        refine .inl ⟨by kernel_rfl, fun L a1 w1 n h => ⟨.pointer (some ⟨g3, 0, none⟩), rfl, ?_⟩⟩
        have e0 : a1.eval (.tmp 3) = _ := h.var n 3 (by kernel_rfl)
        unfold execOp
        simp only [e0]
        go_simp
      · refine .inl ⟨.inr ⟨7, false, 28, rfl, by kernel_rfl, rfl, by simp, fun v h => h⟩, ?_⟩
        exact .inl ⟨by kernel_rfl, fun L a1 w1 n h => ⟨_, rfl, run_loadA 3 (.tmp 29) ⟨g3, 0, none⟩ rfl Try.isAgg3 (h.dep n 8 29 (by kernel_rfl) rfl) ((Row.later r3 h.inv.1).cell (j := 0) (v := .int .i64 p1) rfl)⟩⟩
      · refine .inl ⟨.inr ⟨7, false, 28, rfl, by kernel_rfl, rfl, by simp, fun v h => h⟩, ?_⟩
        exact .inl ⟨by kernel_rfl, fun L a1 w1 n h => ⟨_, rfl, run_move (.tmp 0) rfl (h.var n 0 (by kernel_rfl))⟩⟩
      · refine .inl ⟨.inr ⟨7, false, 28, rfl, by kernel_rfl, rfl, by simp, fun v h => h⟩, ?_⟩
        refine .inl ⟨by kernel_rfl, fun L a1 w1 n h => ⟨ptr g, rfl, ?_⟩⟩
        have e0 : a1.eval (.tmp 31) = _ := h.dep n 10 31 (by kernel_rfl) rfl
        unfold execOp
        simp only [e0]
        go_simp
      · refine .inl ⟨.inr ⟨7, false, 28, rfl, by kernel_rfl, rfl, by simp, fun v h => h⟩, ?_⟩
        refine .inl ⟨by kernel_rfl, fun L a1 w1 n h => ⟨.pointer (some ⟨g, 4, none⟩), rfl, ?_⟩⟩
        have e0 : a1.eval (.tmp 32) = _ := h.dep n 11 32 (by kernel_rfl) rfl
        unfold execOp
        simp only [e0]
        go_simp
      · refine .inl ⟨.inr ⟨7, false, 28, rfl, by kernel_rfl, rfl, by simp, fun v h => h⟩, ?_⟩
        exact .inl ⟨by kernel_rfl, fun L a1 w1 n h => ⟨_, rfl, run_loadA 3 (.tmp 33) ⟨g, 4, none⟩ rfl Try.isAgg3 (h.dep n 12 33 (by kernel_rfl) rfl) ((Row.later hc h.inv.1).cell (j := 4) (v := .int .i64 life) rfl)⟩⟩
      · refine .inl ⟨.inr ⟨7, false, 28, rfl, by kernel_rfl, rfl, by simp, fun v h => h⟩, ?_⟩
        exact .inl ⟨by kernel_rfl, fun L a1 w1 n h => ⟨_, rfl, run_gtrI (.tmp 30) (.tmp 34) rfl (h.dep n 9 30 (by kernel_rfl) rfl) (h.dep n 13 34 (by kernel_rfl) rfl) hlf⟩⟩
      · refine .inl ⟨.inl rfl, ?_⟩
        exact .inl ⟨by kernel_rfl, fun L a1 w1 n h => ⟨_, rfl, run_pickF (.tmp 28) _ _ rfl (h.dep n 7 28 (by kernel_rfl) rfl) (h.dep n 14 35 (by kernel_rfl) rfl)⟩⟩
      · refine .inl ⟨.inl rfl, ?_⟩
        exact .inl ⟨by kernel_rfl, fun L a1 w1 n h => ⟨_, rfl, run_assign (.tmp 36) rfl (h.dep n 15 36 (by kernel_rfl) rfl)⟩⟩
    case heSR7b =>
      intro V w6 hV2 hJ
      have hz : V 16 = .bool false := hV2 16 20 rfl
      have bw6 : Below w5.heap.size w5 w6 := hJ.1
      have hc := Row.later hc bw6
      have r3 := Row.later r3 bw6
      clear hV2 hJ
      simp only [putOps, List.setIfInBounds_toArray, List.set_cons_succ, List.set_cons_zero, Nat.reduceAdd]
      rw [hz]
      refine hK2 _ _ ?_
      clear hz
      go_wp2
      rename_i K3 hK3
      refine wp_region_valsS [] (SR7c g g3 P m1 m2 life a b p1 p2) (JF w6 [] FNo) (by kernel_rfl) (by kernel_rfl) (by kernel_rfl) (by kernel_rfl) (JF.start _) ?obsSR7c ?heSR7c
      case obsSR7c =>
        refine ⟨?_, ?_, ?_, ?_, ?_, ?_, ?_, ?_, ?_, trivial⟩
        · refine .inl ⟨.inl rfl, ?_⟩
          refine .inl ⟨by kernel_rfl, fun L a1 w1 n h => ⟨.pointer (some ⟨g3, 1, none⟩), rfl, ?_⟩⟩
          have e0 : a1.eval (.tmp 3) = _ := h.var n 3 (by kernel_rfl)
          unfold execOp
          simp only [e0]
          go_simp
        · refine .inl ⟨.inl rfl, ?_⟩
          exact .inl ⟨by kernel_rfl, fun L a1 w1 n h => ⟨_, rfl, run_loadA 3 (.tmp 38) ⟨g3, 1, none⟩ rfl Try.isAgg3 (h.dep n 0 38 (by kernel_rfl) rfl) ((Row.later r3 h.inv.1).cell (j := 1) (v := .int .i64 p2) rfl)⟩⟩
        · refine .inl ⟨.inl rfl, ?_⟩
          exact .inl ⟨by kernel_rfl, fun L a1 w1 n h => ⟨_, rfl, run_move (.tmp 0) rfl (h.var n 0 (by kernel_rfl))⟩⟩
        · refine .inl ⟨.inl rfl, ?_⟩
          refine .inl ⟨by kernel_rfl, fun L a1 w1 n h => ⟨ptr g, rfl, ?_⟩⟩
          have e0 : a1.eval (.tmp 40) = _ := h.dep n 2 40 (by kernel_rfl) rfl
          unfold execOp
          simp only [e0]
          go_simp
        · refine .inl ⟨.inl rfl, ?_⟩
          refine .inl ⟨by kernel_rfl, fun L a1 w1 n h => ⟨.pointer (some ⟨g, 2, none⟩), rfl, ?_⟩⟩
          have e0 : a1.eval (.tmp 41) = _ := h.dep n 3 41 (by kernel_rfl) rfl
          unfold execOp
          simp only [e0]
          go_simp
        · refine .inl ⟨.inl rfl, ?_⟩
          refine .inl ⟨by kernel_rfl, fun L a1 w1 n h => ⟨.pointer (some ⟨g, 3, none⟩), rfl, ?_⟩⟩
          have e0 : a1.eval (.tmp 42) = _ := h.dep n 4 42 (by kernel_rfl) rfl
          unfold execOp
          simp only [e0]
          go_simp
        · refine .inl ⟨.inl rfl, ?_⟩
          exact .inl ⟨by kernel_rfl, fun L a1 w1 n h => ⟨_, rfl, run_loadA 3 (.tmp 43) ⟨g, 3, none⟩ rfl Try.isAgg3 (h.dep n 5 43 (by kernel_rfl) rfl) ((Row.later hc h.inv.1).cell (j := 3) (v := .int .i64 m2) rfl)⟩⟩
        · refine .inl ⟨.inl rfl, ?_⟩
          exact .inl ⟨by kernel_rfl, fun L a1 w1 n h => ⟨_, rfl, run_gtrI (.tmp 39) (.tmp 44) rfl (h.dep n 1 39 (by kernel_rfl) rfl) (h.dep n 6 44 (by kernel_rfl) rfl) hmf⟩⟩
        · refine .inl ⟨.inl rfl, ?_⟩
          exact .inl ⟨by kernel_rfl, fun L a1 w1 n h => ⟨_, rfl, run_assign (.tmp 45) rfl (h.dep n 7 45 (by kernel_rfl) rfl)⟩⟩
      case heSR7c =>
        intro V w7 hV2 hJ
        have hz : V 8 = .bool false := hV2 8 37 rfl
        have bw7 : Below w6.heap.size w6 w7 := hJ.1
        have hc := Row.later hc bw7
        have r3 := Row.later r3 bw7
        clear hV2 hJ
        simp only [putOps, List.setIfInBounds_toArray, List.set_cons_succ, List.set_cons_zero, Nat.reduceAdd]
        rw [hz]
        refine hK3 _ _ ?_
        clear hz
        go_wp2
        go_ret
        exact ⟨rfl, (((b3.trans (bw5.mono b3.size)).trans (bw6.mono (b3.trans (bw5.mono b3.size)).size)).trans (bw7.mono ((b3.trans (bw5.mono b3.size)).trans (bw6.mono (b3.trans (bw5.mono b3.size)).size)).size))⟩

theorem refuse_any (w : World) (g : Nat) (P : Option Addr) (m1 m2 life a b p1 p2 : Int) (hc : Cel w g true P m1 m2 life a b) : Calls Try.prog 103 #[ptr g, pin p1 p2] w fun e w' => e = .returned (.int .i64 (refV m2 life a b p1 p2)) ∧ Below w.heap.size w w' := by
  unfold refV
  by_cases h1 : p1 < 0 ∨ p2 < 0
  · rw [if_pos h1]; exact refuse_arg w g P m1 m2 life a b p1 p2 hc (by simp; omega)
  · rw [if_neg h1]
    have hq : decide (p1 = max p1 0 ∧ p2 = max p2 0) = true := by simp; omega
    cases h2 : lessB a b p1 p2 with
    | false => rw [if_pos (.inl rfl)]; exact refuse_less w g P m1 m2 life a b p1 p2 hc hq h2
    | true =>
      by_cases h3 : life < p1
      · rw [if_pos (.inr h3)]; exact refuse_life w g P m1 m2 life a b p1 p2 hc hq h2 (by simpa using h3)
      · rw [if_neg (by simp; omega)]
        by_cases h4 : m2 < p2
        · rw [if_pos h4]; exact refuse_most w g P m1 m2 life a b p1 p2 hc hq h2 (by simpa using h3) (by simpa using h4)
        · rw [if_neg h4]; exact refuse_ok w g P m1 m2 life a b p1 p2 hc hq h2 (by simpa using h3) (by simpa using h4)
end Go.Proofs.Ytlihoijbfffjcaa

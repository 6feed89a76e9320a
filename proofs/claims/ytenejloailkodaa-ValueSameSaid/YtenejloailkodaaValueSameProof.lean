/- Proved: the law ValueSame (P15.1) answers true and leaves its arguments as they read before. For every two values; no condition. -/
import Derived.Test.YtenejloailkodaaRows
import Derived.WalkKit
import Derived.SizedLaws
import Derived.ProofKit
import Derived.OpenShut
import Derived.ShutString
import Derived.ChangeOld
import Derived.Below
import Derived.Test.YtenejloailkodaaGF
set_option linter.unusedVariables false
set_option linter.unusedSimpArgs false
/-
  The law ValueSame. Own work.
-/
namespace Go.Proofs.Ytenejloailkodaa
open Go.RowKit Go.Shelf
def FSa (q : Unit) (opn : Nat) (v : Value) (w : World) : Prop :=
  match opn with
  | _ => True
theorem FSa_mono (q : Unit) : ∀ j v w w', FSa q j v w → Below w.heap.size w w' → FSa q j v w' := by
  intro j v w w' h hb
  unfold FSa at h ⊢
  split at h
  · trivial

def SSa3 (g2 g3 : Nat) (x y : Vl) (vp vl vs vp' vl' vs' : Value) (sb : Bool) (opn : Nat) (v : Value) : Prop :=
  match opn with
  | 0 | 3 | 8 | 9 => v = .agg (vlC x vp vl vs).toArray
  | 1 | 4 => v = .agg (vlC y vp' vl' vs').toArray
  | 2 | 5 => v = .bool sb
  | 6 | 7 | 10 | 11 | 12 | 13 | 14 | 15 => v = .bool true
  | _ => True

set_option maxRecDepth 100000 in
set_option maxHeartbeats 2000000 in
theorem valueSame_any (w : World) (x y : Vl) (vp vl vs vp' vl' vs' : Value) (hx : VlM w w.heap.size x vp vl vs) (hy : VlM w w.heap.size y vp' vl' vs') (fx : x.Fits) (fy : y.Fits) :
    Calls Try.prog 4 #[vlV x vp vl vs, vlV y vp' vl' vs'] w fun e w' => e = .returned (.bool true) ∧ Below w.heap.size w w' := by
  have HA := awake_any
  have hsx := szVl x vp vl vs
  have hsy := szVl y vp' vl' vs'
  go_enter Try.func4, Try.ntmps4
  go_wp2_with (first
    | ((with_reducible refine wl_box (o := ⟨some 2, _, _, _, _, _⟩) rfl 26 (.tmp 0) _ (vlC x vp vl vs) rfl rfl rfl ?_); intro g2 w2 r2 p2 l2 b2)
    | ((with_reducible refine wl_box (o := ⟨some 3, _, _, _, _, _⟩) rfl 26 (.tmp 1) _ (vlC y vp' vl' vs') rfl rfl rfl ?_); intro g3 w3 r3 p3 l3 b3; have r23 := r2.later b3; have B3 := b2.trans (b3.mono b2.size))
    | (with_reducible refine wl_load_row (o := ⟨some 5, _, _, _, _, _⟩) rfl 26 (.tmp 2) g2 26 (vlC x vp vl vs) _ rfl rfl r23 Try.underlying26 rfl hsx ?_))
  refine (light_any w3 x vp vl vs (hx.later B3) fx).mono ?_
  rintro e w4 ⟨⟨b, rfl, _⟩, b4⟩
  have B4 := B3.trans (b4.mono B3.size)
  cases b with
  | false =>
    go_wp2_with fail
    refine (HA w4).mono ?_
    rintro e w5 ⟨rfl, b5⟩
    go_wp2_with fail
    go_ret
    exact ⟨rfl, B4.trans (b5.mono B4.size)⟩
  | true =>
    have r34 := r3.later b4
    go_wp2_with (first
      | (with_reducible refine wg_load_row (o := ⟨some 9, _, _, _, _, _⟩) 3 false 8 rfl rfl rfl 26 (.tmp 3) g3 26 (vlC y vp' vl' vs') _ rfl rfl r34 Try.underlying26 rfl hsy ?_))
    refine (light_any w4 y vp' vl' vs' (hy.later B4) fy).mono ?_
    rintro e w5 ⟨⟨b, rfl, _⟩, b5⟩
    have B5 := B4.trans (b5.mono B4.size)
    cases b with
    | false =>
      go_wp2_with fail
      refine (HA w5).mono ?_
      rintro e w6 ⟨rfl, b6⟩
      go_wp2_with fail
      go_ret
      exact ⟨rfl, B5.trans (b6.mono B5.size)⟩
    | true =>
      obtain ⟨sb, hsb⟩ : ∃ sb, sb = decide (x = y) := ⟨_, rfl⟩
      replace hsb := hide hsb
      have heqb : ∀ w, (Op.equal 4 (.bool sb) (.bool sb)).run Try.prog w = .ok true w := by intro w; cases sb <;> kernel_rfl
      replace hx := hx.later B5
      replace hy := hy.later B5
      have r2' := (r23.later b4).later b5
      have r3' := r34.later b5
      clear r2 r3 r23 r34 p2 p3 l2 l3
      have r2 := r2'
      have r3 := r3'
      clear r2' r3'
      go_wp2_with fail
      refine wp_region_valsG [2, 5, 10, 13] (SSa3 g2 g3 x y vp vl vs vp' vl' vs' sb) (JF w5 [2, 5, 10, 13] (FSa ())) (by kernel_rfl) (by kernel_rfl) (by kernel_rfl) (by kernel_rfl) (JF.start _) ?obs3 ?he3
      case obs3 =>
        refine ⟨?_, ?_, ?_, ?_, ?_, ?_, ?_, ?_, ?_, ?_, ?_, ?_, ?_, ?_, ?_, ?_, trivial⟩
        · refine ⟨.inl rfl, ?_⟩
          exact .inl ⟨by kernel_rfl, fun L a1 w1 n h => ⟨_, rfl, run_loadRow 26 (.tmp 2) g2 26 _ _ rfl (h.var n 2 (by kernel_rfl)) (r2.later h.inv.1) Try.underlying26 rfl (szVl x _ _ _)⟩⟩
        · refine ⟨.inl rfl, ?_⟩
          exact .inl ⟨by kernel_rfl, fun L a1 w1 n h => ⟨_, rfl, run_loadRow 26 (.tmp 3) g3 26 _ _ rfl (h.var n 3 (by kernel_rfl)) (r3.later h.inv.1) Try.underlying26 rfl (szVl y _ _ _)⟩⟩
        · refine ⟨.inl rfl, ?_⟩
          refine .inr fun L a1 w1 n h K hK => ?_
          have e0 : a1.eval (.tmp 14) = vlV x vp vl vs := h.dep n 0 14 (by kernel_rfl) rfl
          have e1 : a1.eval (.tmp 15) = vlV y vp' vl' vs' := h.dep n 1 15 (by kernel_rfl) rfl
          refine JF.call (FSa_mono ()) h hK 16 rfl 13 _ _ #[vlV x vp vl vs, vlV y vp' vl' vs'] rfl Try.call13 ?_ (same_any w1 x y _ _ _ _ _ _ (hx.later h.inv.1) (hy.later h.inv.1) fx fy) ?_
          · simp only [List.map_toArray, List.map_cons, List.map_nil, e0, e1]
          · rintro e w3 ⟨rfl, b9⟩
            exact ⟨_, rfl, (show Value.bool _ = Value.bool _ by rw [hsb.out]), trivial, b9⟩
        · refine ⟨.inl rfl, ?_⟩
          exact .inl ⟨by kernel_rfl, fun L a1 w1 n h => ⟨_, rfl, run_loadRow 26 (.tmp 2) g2 26 _ _ rfl (h.var n 2 (by kernel_rfl)) (r2.later h.inv.1) Try.underlying26 rfl (szVl x _ _ _)⟩⟩
        · refine ⟨.inl rfl, ?_⟩
          exact .inl ⟨by kernel_rfl, fun L a1 w1 n h => ⟨_, rfl, run_loadRow 26 (.tmp 3) g3 26 _ _ rfl (h.var n 3 (by kernel_rfl)) (r3.later h.inv.1) Try.underlying26 rfl (szVl y _ _ _)⟩⟩
        · refine ⟨.inl rfl, ?_⟩
          refine .inr fun L a1 w1 n h K hK => ?_
          have e0 : a1.eval (.tmp 17) = vlV x vp vl vs := h.dep n 3 17 (by kernel_rfl) rfl
          have e1 : a1.eval (.tmp 18) = vlV y vp' vl' vs' := h.dep n 4 18 (by kernel_rfl) rfl
          refine JF.call (FSa_mono ()) h hK 19 rfl 14 _ _ #[vlV x vp vl vs, vlV y vp' vl' vs'] rfl Try.call14 ?_ (rsameV_any w1 x y _ _ _ _ _ _ (hx.later h.inv.1) (hy.later h.inv.1) fx fy) ?_
          · simp only [List.map_toArray, List.map_cons, List.map_nil, e0, e1]
          · rintro e w3 ⟨rfl, b9⟩
            exact ⟨_, rfl, (show Value.bool _ = Value.bool _ by rw [hsb.out]), trivial, b9⟩
        · refine ⟨.inl rfl, ?_⟩
          exact .inl ⟨by kernel_rfl, fun L a1 w1 n h => ⟨_, rfl, run_eqlB (.tmp 16) (.tmp 19) _ _ rfl (h.dep n 2 16 (by kernel_rfl) rfl) (h.dep n 5 19 (by kernel_rfl) rfl) heqb⟩⟩
        · refine ⟨.inl rfl, ?_⟩
          exact .inl ⟨by kernel_rfl, fun L a1 w1 n h => ⟨_, rfl, run_move (.tmp 20) rfl (h.dep n 6 20 (by kernel_rfl) rfl)⟩⟩
        · refine ⟨.inr ⟨7, true, 21, rfl, by kernel_rfl, rfl, by simp, fun v h => h⟩, ?_⟩
          exact .inl ⟨by kernel_rfl, fun L a1 w1 n h => ⟨_, rfl, run_loadRow 26 (.tmp 2) g2 26 _ _ rfl (h.var n 2 (by kernel_rfl)) (r2.later h.inv.1) Try.underlying26 rfl (szVl x _ _ _)⟩⟩
        · refine ⟨.inr ⟨7, true, 21, rfl, by kernel_rfl, rfl, by simp, fun v h => h⟩, ?_⟩
          exact .inl ⟨by kernel_rfl, fun L a1 w1 n h => ⟨_, rfl, run_loadRow 26 (.tmp 2) g2 26 _ _ rfl (h.var n 2 (by kernel_rfl)) (r2.later h.inv.1) Try.underlying26 rfl (szVl x _ _ _)⟩⟩
        · refine ⟨.inr ⟨7, true, 21, rfl, by kernel_rfl, rfl, by simp, fun v h => h⟩, ?_⟩
          refine .inr fun L a1 w1 n h K hK => ?_
          have e0 : a1.eval (.tmp 22) = vlV x vp vl vs := h.dep n 8 22 (by kernel_rfl) rfl
          have e1 : a1.eval (.tmp 23) = vlV x vp vl vs := h.dep n 9 23 (by kernel_rfl) rfl
          refine JF.call (FSa_mono ()) h hK 24 rfl 13 _ _ #[vlV x vp vl vs, vlV x vp vl vs] rfl Try.call13 ?_ (same_any w1 x x _ _ _ _ _ _ (hx.later h.inv.1) (hx.later h.inv.1) fx fx) ?_
          · simp only [List.map_toArray, List.map_cons, List.map_nil, e0, e1]
          · rintro e w3 ⟨rfl, b9⟩
            exact ⟨_, rfl, (show Value.bool _ = Value.bool true by simp), trivial, b9⟩
        · refine ⟨.inl rfl, ?_⟩
          exact .inl ⟨by kernel_rfl, fun L a1 w1 n h => ⟨_, rfl, run_pickT (.tmp 21) _ _ rfl (h.dep n 7 21 (by kernel_rfl) rfl) (h.dep n 10 24 (by kernel_rfl) rfl)⟩⟩
        · refine ⟨.inl rfl, ?_⟩
          exact .inl ⟨by kernel_rfl, fun L a1 w1 n h => ⟨_, rfl, run_move (.tmp 25) rfl (h.dep n 11 25 (by kernel_rfl) rfl)⟩⟩
        · refine ⟨.inr ⟨12, true, 26, rfl, by kernel_rfl, rfl, by simp, fun v h => h⟩, ?_⟩
          refine .inr fun L a1 w1 n h K hK => ?_
          refine JF.call (FSa_mono ()) h hK 27 rfl 6 _ _ #[] rfl Try.call6 ?_ (awake_any w1) ?_
          · simp
          · rintro e w3 ⟨rfl, b9⟩
            exact ⟨_, rfl, rfl, trivial, b9⟩
        · refine ⟨.inl rfl, ?_⟩
          exact .inl ⟨by kernel_rfl, fun L a1 w1 n h => ⟨_, rfl, run_pickT (.tmp 26) _ _ rfl (h.dep n 12 26 (by kernel_rfl) rfl) (h.dep n 13 27 (by kernel_rfl) rfl)⟩⟩
        · refine ⟨.inl rfl, ?_⟩
          exact .inl ⟨by kernel_rfl, fun L a1 w1 n h => ⟨_, rfl, run_assign (.tmp 28) rfl (h.dep n 14 28 (by kernel_rfl) rfl)⟩⟩
      case he3 =>
        intro V w9 hV hJ
        have b9 : Below w5.heap.size w5 w9 := hJ.1
        have hE9 : V 15 = .bool true := hV 15 _ rfl
        clear hV hJ
        simp only [putOps, List.setIfInBounds_toArray, List.set_cons_succ, List.set_cons_zero, Nat.reduceAdd]
        rw [hE9]
        go_wp2_with fail
        go_ret
        exact ⟨rfl, B5.trans (b9.mono B5.size)⟩
end Go.Proofs.Ytenejloailkodaa

/- Proved: the law ValueSame (P15.1) answers true and leaves its arguments as they read before. For every two values; no condition. -/
namespace Go.Proofs.Ytenejloailkodaa.valueSame
open Go.ChangeShapes Go.WideShapes Go.ChangeAt Go.RowKit

theorem own : ownKnob Try.prog.godebug = none := by kernel_rfl
theorem laidOut : laidOutB Try.prog = true := by kernel_rfl

set_option maxRecDepth 100000 in
theorem lifted (os : Os) (started : os.Started) (H : Type) (enc : TypeId × Value → H) :
    ReturnsInHanded {} Try.checked os 4 .any (Rows.valueSameSpec.pre6 enc Try.prog Try.f4 Rows.valueSameRow.domain false) (Rows.valueSameSpec.post enc Try.prog Try.f4 false true false false) := by
  refine returnsInHanded_of_change_sized (C := Try.checked) own started (by kernel_rfl) Try.func4
    (ChangeSpec.witness6 (enc := enc) (C := Try.checked) false ⟨#[], #[.agg #[.int .i64 0, .string ByteArray.empty, .slice none 0 0, .slice none 0 0, .slice none 0 0], .agg #[.int .i64 0, .string ByteArray.empty, .slice none 0 0, .slice none 0 0, .slice none 0 0]], []⟩ 8 (by kernel_rfl) (by kernel_rfl) (by kernel_rfl) (by kernel_rfl)) ?_
  intro W base args ds gs before hval0 hW hcnd hsz0 _
  have hsz : (DataW.weightsEach Try.prog (Try.f4.params.toList ++ Rows.valueSameSpec.plain.varTypes Try.prog) (ds ++ gs)).all (· ≤ reachBytes) = true := hsz0
  have hval : ∀ (j : Nat) t v, Try.f4.params[j]? = some t → args[j]? = some v → Value.okWide Try.prog W .any base t v := hval0
  have hW' := hW
  obtain ⟨p, q, hA0, hV, rfl, hfz, hnd⟩ := hW
  have hA : DataW.TrodAll enc Try.prog W 0 (fun _ => true) true Try.f4.params.toList args.toList ds p := hA0
  rw [Try.params4] at hA hval hsz
  obtain ⟨v0, vs0, d0, ds0, p0, q0, hargs, rfl, rfl, h0, r0⟩ := trodAll_cons hA
  obtain ⟨v1, vs1, d1, ds1, p1, q1, rfl, rfl, rfl, h1, r1⟩ := trodAll_cons r0
  obtain ⟨rfl, rfl, rfl⟩ := trodAll_nil r1
  obtain rfl : args = #[v0, v1] := by cases args; simp_all
  obtain ⟨rfl, rfl⟩ := trodVars_none hV
  have k0 := h0
  have lt0 : ∀ x ∈ p0, x.block < W.heap.size := by obtain ⟨m, hm⟩ := k0; exact DataW.trod_lt m _ _ _ hm
  have k1 := h1
  have lt1 : ∀ x ∈ p1, x.block < W.heap.size := by obtain ⟨m, hm⟩ := k1; exact DataW.trod_lt m _ _ _ hm
  clear hA0 hval0 hsz0
  obtain ⟨cs0, rfl⟩ : ∃ cs : List Value, v0 = .agg cs.toArray := by
    have := hval 0 26 v0 rfl rfl
    obtain ⟨cs, rfl, _⟩ : ∃ cs, v0 = .agg cs ∧ cs.size = Try.prog.cellsOf 26 ∧ Row.okWide Try.prog W .any base 26 cs := by
      simpa [Value.okWide, Try.underlying26] using this
    exact ⟨cs.toList, by simp⟩
  have kk0 := k0
  obtain ⟨fuel0, hf0⟩ := kk0
  have z0 : ∀ n ∈ d0.weights Try.prog 26, n ≤ reachBytes := fun n hn => by
    have := List.all_eq_true.1 hsz n (DataW.weights_mem_each (j := 0) rfl rfl n hn)
    simpa using this
  obtain ⟨q0, p0p, p0l, p0s, hcs0, m0, f0⟩ := open_val hf0 z0
  obtain rfl : cs0 = _ := hcs0
  obtain ⟨cs1, rfl⟩ : ∃ cs : List Value, v1 = .agg cs.toArray := by
    have := hval 1 26 v1 rfl rfl
    obtain ⟨cs, rfl, _⟩ : ∃ cs, v1 = .agg cs ∧ cs.size = Try.prog.cellsOf 26 ∧ Row.okWide Try.prog W .any base 26 cs := by
      simpa [Value.okWide, Try.underlying26] using this
    exact ⟨cs.toList, by simp⟩
  have kk1 := k1
  obtain ⟨fuel1, hf1⟩ := kk1
  have z1 : ∀ n ∈ d1.weights Try.prog 26, n ≤ reachBytes := fun n hn => by
    have := List.all_eq_true.1 hsz n (DataW.weights_mem_each (j := 1) rfl rfl n hn)
    simpa using this
  obtain ⟨q1, p1p, p1l, p1s, hcs1, m1, f1⟩ := open_val hf1 z1
  obtain rfl : cs1 = _ := hcs1
  refine (valueSame_any W q0 q1 _ _ _ _ _ _ m0 m1 f0 f1).mono fun e W' ⟨he, bel⟩ => ?_
  subst he
  exact ⟨_, rfl, _, _, _, [], _, [], hW', trodAll_mk1 (shut_bool Try.underlying4 _), (trodAll_cons_mk (Below.trod laidOut (by kernel_rfl) (of_decide_eq_true (by kernel_rfl)) k0 bel lt0) (trodAll_cons_mk (Below.trod laidOut (by kernel_rfl) (of_decide_eq_true (by kernel_rfl)) k1 bel lt1) trodAll_mk0)), rfl, bel.frame _, fun h => by cases h⟩

theorem over : Rows.valueSameRow.holds Try.pinned (OpenSpec.ofChange Rows.valueSameSpec) :=
  OpenClaim.holds_of_wide 4 Try.f4 rfl rfl rfl rfl rfl rfl rfl ⟨rfl, rfl, rfl, rfl, rfl⟩ rfl rfl rfl rfl rfl (by kernel_rfl) Try.func4 (by kernel_rfl)
    (of_decide_eq_true (by kernel_rfl)) (by unfold Func.isWrapper; first | (rw [if_pos (by decide +kernel)]; kernel_rfl) | (rw [if_neg (by decide +kernel)]; exact ⟨rfl, rfl⟩))
    (fun os started H enc _ => lifted os started H enc)

/-- The given statement. -/
theorem proved : Rows.ValueSameSaid := over
#print axioms proved
end Go.Proofs.Ytenejloailkodaa.valueSame

/-
  Poly: a number reduced; a part that is filled: contracts. Own work.
-/
import Derived.Test.YtcinhofapkddpaaPolyG
namespace Go.Proofs.Ytcinhofapkddpaa
open Go.RowKit
set_option linter.unusedVariables false
set_option linter.unusedSimpArgs false
theorem built1 (a : Nat) : Try.prog.built 46 [(0, .int .u64 (a : Int))] = some (uL [a, 0, 0]).toArray := by kernel_rfl
theorem run_indexV {P : Program} (w : World) (T elem len : Nat) (cs : Array Value) (i : Nat) (v : Value) (hu : P.underlying T = some (.array len elem)) (ha : ∀ w, (isAgg elem).run P w = .ok false w) (hs : ∀ w, (sizeOf elem).run P w = .ok 1 w) (hi : i < len) (hv : cs[i]? = some v) :
    (Instr.index T (.agg cs) (.int .i64 i)).run P w = .ok v w := by
  have h2 : ((0 : Int) ≤ i ∧ (i : Int) < len) := by omega
  have h3 : ¬ len ≤ i := by omega
  simp [Instr.index, asIntOf, underlying, hu, part, ha, hs, h2, h3, hv]
theorem red_facts {X : Nat} (h : X < 2 ^ 132) : ∃ o f r : Nat, nW (X + 5) 2 < 18446744073709551616 ∧ (nW (X + 5) 2 : Int) / 4 = (o : Int) ∧ IntKind.u64.wrap (5 * (o : Int)) = (f : Int) ∧ Hid (uL [f, 0, 0] = nb f) ∧ Hid (nb 5 = uL [5, 0, 0]) ∧ bits .and .u64 (nW (X + f) 2 : Int) 3 = (r : Int) ∧ Hid ((nb (X + f)).set 2 (.int .u64 (r : Int)) = nb (red X)) ∧ r < 18446744073709551616 := by
  have hx : X < 5444517870735015415413993718908291383296 := h
  have e2 : nW (X + 5) 2 = (X + 5) / 340282366920938463463374607431768211456 % 18446744073709551616 := rfl
  have hl : nW (X + 5) 2 < 18446744073709551616 := nW_lt _ _
  have hs : (X + 5) / 340282366920938463463374607431768211456 < 18446744073709551616 := by omega
  rw [Nat.mod_eq_of_lt hs] at e2
  have ho : nW (X + 5) 2 / 4 = (X + 5) / 1361129467683753853853498429727072845824 := by rw [e2, Nat.div_div_eq_div_mul]
  have ho4 : (X + 5) / 1361129467683753853853498429727072845824 ≤ 4 := by omega
  obtain ⟨o, hoo⟩ : ∃ o, (X + 5) / 1361129467683753853853498429727072845824 = o := ⟨_, rfl⟩
  rw [hoo] at ho ho4
  have hr : red X = (X + 5 * o) % 1361129467683753853853498429727072845824 := by unfold red; rw [hoo]
  obtain ⟨f, hf⟩ : ∃ f, 5 * o = f := ⟨_, rfl⟩
  rw [hf] at hr
  have hf5 : f ≤ 20 := by omega
  refine ⟨o, f, nW (X + f) 2 % 4, hl, by omega, by rw [IntKind.wrap_u64]; omega, hide (nb_uL (by omega) (by decide) (by decide) (by omega)), hide (nb_uL (by decide) (by decide) (by decide) (by decide)).symm, and3 _ (nW_lt _ _), hide ?_, by omega⟩
  rw [hr]
  have e3 : nW (X + f) 2 = (X + f) / 340282366920938463463374607431768211456 % 18446744073709551616 := rfl
  have e0 : nW (X + f) 0 = (X + f) % 18446744073709551616 := by show (X + f) / 1 % _ = _; rw [Nat.div_one]
  have e1 : nW (X + f) 1 = (X + f) / 18446744073709551616 % 18446744073709551616 := rfl
  show uL [nW (X + f) 0, nW (X + f) 1, nW (X + f) 2 % 4] = _
  refine nb_uL (nW_lt _ _) (nW_lt _ _) (by omega) ?_
  rw [e3, e0, e1]
  have hY : X + f < 10889035741470030830827987437816582766592 := by omega
  clear e0 e1 e2 e3 hr hl ho
  generalize X + f = Y at *
  have d1 : Y / 340282366920938463463374607431768211456 = Y / 18446744073709551616 / 18446744073709551616 := by rw [Nat.div_div_eq_div_mul]
  have d2 : Y / 1361129467683753853853498429727072845824 = Y / 18446744073709551616 / 18446744073709551616 / 4 := by rw [Nat.div_div_eq_div_mul, Nat.div_div_eq_div_mul]
  have d3 : Y % 1361129467683753853853498429727072845824 = Y - 1361129467683753853853498429727072845824 * (Y / 1361129467683753853853498429727072845824) := by omega
  rw [d3, d1, d2]
  omega
set_option maxRecDepth 100000 in
set_option maxHeartbeats 2000000 in
theorem reduced_any (X : Nat) (w : World) (hX : X < 2 ^ 132) :
    Calls Try.prog 29 #[.agg (nb X).toArray] w fun e w' => e = .returned (.agg (nb (red X)).toArray) ∧ Below w.heap.size w w' := by
  obtain ⟨o, f, r, hl, hdiv, hmul, M1, M5, hand, MR, hr⟩ := red_facts hX
  have HP : ∀ w, Calls Try.prog 30 #[.agg (nb X).toArray, .agg (nb 5).toArray] w fun e w' => e = .returned (.agg #[.int .u64 (nW (X + 5) 0 : Int), .int .u64 (nW (X + 5) 1 : Int), .int .u64 (nW (X + 5) 2 : Int)]) ∧ Below w.heap.size w w' := fun w => plus_any X 5 w
  generalize nW (X + 5) 2 = y2 at *
  have HQ : ∀ w, Calls Try.prog 30 #[.agg (nb X).toArray, .agg #[.int .u64 (f : Int), .int .u64 0, .int .u64 0]] w fun e w' => e = .returned (.agg (nb (X + f)).toArray) ∧ Below w.heap.size w w' := fun w => by
    have := plus_any X f w
    rw [← M1.out] at this
    exact this
  clear hX
  have HI : ∀ (w : World) (a b : Value), (Instr.index 46 (.agg #[a, b, .int .u64 (y2 : Int)]) (.int .i64 2)).run Try.prog w = .ok (.int .u64 (y2 : Int)) w := fun w a b => run_indexV w 46 42 3 #[a, b, .int .u64 (y2 : Int)] 2 _ Try.underlying46 Try.isAgg42 Try.sizeOf42 (by decide) rfl
  go_enter Try.func29, Try.ntmps29
  go_wp2_with (first
    | (with_reducible refine wl_box rfl 46 (.tmp 0) _ (nb X) rfl rfl rfl ?_; intro g1 w1 r1 a1 l1 b1)
    | (with_reducible refine wl_alloc rfl 46 _ (n3 0 0 0) rfl zeroN3 rfl ?_; intro g3 w3 r3 a3 l3 b3; have r1' := r1.later b3)
    | (with_reducible refine wl_load_row rfl 46 (.tmp 1) g1 46 _ _ rfl rfl r1' Try.underlying46 rfl (sizeNb _) ?_)
    | ((with_reducible refine wl_build rfl 46 _ rfl _ ?hv _ (built1 5) ?hk); case hv => rfl))
  rw [← M5.out]
  refine (HP _).mono ?_
  rintro e w4 ⟨rfl, b4⟩
  have s1 := b1.size; have s3 := b3.size; have s4 := b4.size
  have r4 := r1'.later b4
  go_wp2_with (first
    | (with_reducible refine wl_load_row rfl 46 (.tmp 1) g1 46 _ _ rfl rfl r4 Try.underlying46 rfl (sizeNb _) ?_)
    | rw [HI])
  refine (HQ _).mono ?_
  rintro e w5 ⟨rfl, b5⟩
  have s5 := b5.size
  have r5 := r4.later b5
  have cx := nb_get (X := X + f) (i := 2) (by decide)
  generalize nW (X + f) 2 = z2 at *
  have hrr := MR.out
  have hl2 : 2 < (nb (X + f)).length := by show 2 < 3; decide
  have zr := hide (oneNb (X + f))
  have r3' := (r3.later b4).later b5
  go_wp2_with (first
    | (with_reducible refine wl_store_row rfl 46 (.tmp 1) (.tmp 13) g1 46 _ (nb (X + f)) rfl rfl rfl r5 (sizeNb _) rfl zr.out ?_; intro w6 r6 o6; have c6 := r6.cell cx)
    | (with_reducible refine wl_store rfl 42 (.tmp 17) (.tmp 16) g1 2 46 _ (.int .u64 (r : Int)) rfl (by kernel_rfl) rfl rfl r6 hl2 rfl ?_; intro w7 r7 o7; rw [hrr] at r7)
    | (with_reducible refine wl_load_row rfl 46 (.tmp 1) g1 46 _ _ rfl rfl r7 Try.underlying46 rfl (sizeNb _) ?_)
    | (with_reducible refine wl_store_row rfl 46 (.tmp 2) (.tmp 18) g3 46 _ (nb (red X)) rfl rfl rfl ((r3'.only o6 (by omega)).only o7 (by omega)) (sizeNb _) rfl (oneNb _) ?_; intro w8 r8 o8))
  have s6 := o6.size; have s7 := o7.size
  refine bodyPost_ret (v := .agg (nb (red X)).toArray) ?_ rfl ⟨rfl, ?_⟩
  · exact results_cell_row Try.results29 _ _ g3 46 _ (0, 0) _ rfl r8 Try.underlying46 rfl (by simpa using sizeNb (red X))
  · exact ((((((b1.trans (b3.mono (by omega))).trans (b4.mono (by omega))).trans (b5.mono (by omega))).trans (o6.below (by omega))).trans (o7.below (by omega))).trans (o8.below (by omega)))
end Go.Proofs.Ytcinhofapkddpaa

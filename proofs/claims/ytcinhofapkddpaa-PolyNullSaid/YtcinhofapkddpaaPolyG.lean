/-
  Poly: a product modulo 2^130 - 5, folded once; a number reduced: contracts. Own work.
-/
import Derived.Test.YtcinhofapkddpaaPolyF
import Derived.Test.YtcinhofapkddpaaMem3
import Derived.Laws.Bits64b
import Derived.Laws.BitsAllLaws
namespace Go.Proofs.Ytcinhofapkddpaa
open Go.RowKit
set_option linter.unusedVariables false
set_option linter.unusedSimpArgs false
theorem nb_uL {a b c X : Nat} (ha : a < 18446744073709551616) (hb : b < 18446744073709551616) (hc : c < 18446744073709551616) (h : X = a + 18446744073709551616 * b + 340282366920938463463374607431768211456 * c) : uL [a, b, c] = nb X := by
  subst h
  have h1 := vl_digit 18446744073709551616 (by decide) [a, b, c]
  have hv : vl 18446744073709551616 [a, b, c] = a + 18446744073709551616 * b + 340282366920938463463374607431768211456 * c := by simp only [vl]; omega
  have hm : ∀ x ∈ [a, b, c], x < 18446744073709551616 := by intro x hx; simp at hx; omega
  rw [hv] at h1
  have g0 := h1 0 hm (by simp)
  have g1 := h1 1 hm (by simp)
  have g2 := h1 2 hm (by simp)
  simp only [uL, nb, nW, wd, List.map_cons, List.map_nil]
  rw [g0, g1, g2]
  rfl
theorem words_times {p0 p1 p2 p3 Z : Nat} (h0 : p0 < 18446744073709551616) (h1 : p1 < 18446744073709551616) (h2 : p2 < 18446744073709551616) (h3 : p3 < 18446744073709551616) (hZ : Z = p0 + 18446744073709551616 * (p1 + 18446744073709551616 * (p2 + 18446744073709551616 * p3))) :
    uL [p0, p1, p2 % 4] = nb (Z % 1361129467683753853853498429727072845824) ∧ uL [p2 - p2 % 4, p3, 0] = nb (4 * (Z / 1361129467683753853853498429727072845824)) ∧ uL [p2 / 4 + p3 % 4 * 4611686018427387904, p3 / 4, 0] = nb (Z / 1361129467683753853853498429727072845824) := by
  refine ⟨nb_uL h0 h1 (by omega) (by omega), nb_uL (by omega) h3 (by omega) (by omega), nb_uL (by omega) (by omega) (by omega) (by omega)⟩
theorem and3 (x : Nat) (h : x < 18446744073709551616) : bits .and .u64 (x : Int) 3 = ((x % 4 : Nat) : Int) := by
  have := bits_and_u64_nat x 3 h (by decide)
  rw [show (3 : Nat) = 2 ^ 2 - 1 from rfl, Nat.and_two_pow_sub_one_eq_mod] at this
  exact this
theorem built3 (a b c : Nat) : Try.prog.built 46 [(0, .int .u64 (a : Int)), (1, .int .u64 (b : Int)), (2, .int .u64 (c : Int))] = some (uL [a, b, c]).toArray := by kernel_rfl
theorem built2 (a b : Nat) : Try.prog.built 46 [(0, .int .u64 (a : Int)), (1, .int .u64 (b : Int))] = some (uL [a, b, 0]).toArray := by kernel_rfl
theorem size3 (a b c : Nat) : (Try.prog.info? 46).map (·.size) = some (uL [a, b, c]).length := by kernel_rfl
theorem andNot3 (x : Nat) (h : x < 18446744073709551616) : bits .andNot .u64 (x : Int) 3 = ((x - x % 4 : Nat) : Int) := by
  have h1 := u64_andNot_nat x 3 h (by decide)
  rw [show ((3 : Nat) : Int) = 3 from rfl] at h1
  rw [h1]
  congr 1
  have e : x = 4 * (x / 4) + x % 4 := by omega
  have e2 : (x &&& (18446744073709551615 - 3)) % 4 = 0 := by
    rw [show (4 : Nat) = 2 ^ 2 from rfl, ← Nat.and_two_pow_sub_one_eq_mod, Nat.and_assoc]
    simp
  have e3 : (x &&& (18446744073709551615 - 3)) / 4 = x / 4 := by
    rw [show (4 : Nat) = 2 ^ 2 from rfl, ← Nat.shiftRight_eq_div_pow, ← Nat.shiftRight_eq_div_pow, Nat.shiftRight_and_distrib]
    rw [show (18446744073709551615 - 3) >>> 2 = 2 ^ 62 - 1 from by decide, Nat.and_two_pow_sub_one_eq_mod, Nat.shiftRight_eq_div_pow]
    omega
  omega
theorem orT (p2 p3 : Nat) (h2 : p2 < 18446744073709551616) (h3 : p3 < 18446744073709551616) : bits .or .u64 ((p2 : Int) / 4) (IntKind.u64.wrap ((p3 : Int) * 4611686018427387904)) = ((p2 / 4 + p3 % 4 * 4611686018427387904 : Nat) : Int) := by
  have e : IntKind.u64.wrap ((p3 : Int) * 4611686018427387904) = ((p3 % 4 : Nat) : Int) * 2 ^ 62 := by
    rw [IntKind.wrap_u64]
    omega
  rw [e, bits_join_low .u64 64 (by decide) wraps_u64 62 ((p2 : Int) / 4) (((p3 % 4 : Nat) : Int) * 2 ^ 62) (by omega) (by omega) (by omega) (by omega) (Int.mul_emod_left _ _) (by omega)]
  omega
theorem times_facts {p0 p1 p2 p3 Z : Nat} (h0 : p0 < 18446744073709551616) (h1 : p1 < 18446744073709551616) (h2 : p2 < 18446744073709551616) (h3 : p3 < 18446744073709551616) (hZ : Z = p0 + 18446744073709551616 * (p1 + 18446744073709551616 * (p2 + 18446744073709551616 * p3))) :
    ∃ A B C u v s t : Nat, Hid (A + B + C = fold1 Z) ∧ Hid (uL [p0, p1, u] = nb A) ∧ Hid (uL [v, p3, 0] = nb B) ∧ Hid (uL [s, t, 0] = nb C) ∧ bits .and .u64 (p2 : Int) 3 = (u : Int) ∧ bits .andNot .u64 (p2 : Int) 3 = (v : Int) ∧ bits .or .u64 ((p2 : Int) / 4) (IntKind.u64.wrap ((p3 : Int) * 4611686018427387904)) = (s : Int) ∧ (p3 : Int) / 4 = (t : Int) := by
  obtain ⟨m1, m2, m3⟩ := words_times h0 h1 h2 h3 hZ
  refine ⟨_, _, _, _, _, _, _, hide ?_, hide m1, hide m2, hide m3, and3 p2 h2, andNot3 p2 h2, orT p2 p3 h2 h3, by omega⟩
  unfold fold1
  omega
def STi (g4 g6 g7 g8 A B C : Nat) (opn : Nat) (v : Value) : Prop :=
  match opn with
  | 0 => v = .agg (nb A).toArray
  | 1 => v = .agg (nb B).toArray
  | 2 => v = .agg (nb (A + B)).toArray
  | 3 => v = .agg (nb C).toArray
  | 4 => v = .agg (nb (A + B + C)).toArray
  | _ => True

set_option maxRecDepth 100000 in
set_option maxHeartbeats 2000000 in
theorem times_any (X R : Nat) (w : World) (hX : X < 2 ^ 131) (hR : R < 2 ^ 124) :
    Calls Try.prog 38 #[.agg (nb X).toArray, .agg (fb R).toArray] w fun e w' => e = .returned (.agg (nb (fold1 (X * R))).toArray) ∧ Below w.heap.size w w' := by
  have HP := fun w => product_any X R w (by omega) (by omega)
  have HZ := hide (mul_lt hX hR)
  have hX' := hide hX
  have hR' := hide hR
  clear hX hR
  go_enter Try.func38, Try.ntmps38
  go_wp2_with (first
    | (with_reducible refine wl_box rfl 46 (.tmp 0) _ (nb X) rfl rfl rfl ?_; intro g2 w1 r1 a1 l1 b1)
    | (with_reducible refine wl_box rfl 44 (.tmp 1) _ (fb R) rfl rfl rfl ?_; intro g3 w2 r2 a2 l2 b2; have r1' := r1.later b2)
    | (with_reducible refine wl_alloc (o := ⟨some 4, _, _, _, _, _⟩) rfl 46 _ (n3 0 0 0) rfl zeroN3 rfl ?_; intro g4 w3 r3 a3 l3 b3; have r1'' := r1'.later b3; have r2' := r2.later b3)
    | (with_reducible refine wl_load_row rfl 46 (.tmp 2) g2 46 _ _ rfl rfl r1'' Try.underlying46 rfl (sizeNb _) ?_)
    | (with_reducible refine wl_load_row rfl 44 (.tmp 3) g3 44 _ _ rfl rfl r2' Try.underlying44 rfl (by kernel_rfl) ?_))
  refine (HP _).mono ?_
  rintro e w4 ⟨⟨ws, rfl, h5, hb, hv⟩, b4⟩
  obtain ⟨p0, p1, p2, p3, p4, rfl⟩ : ∃ p0 p1 p2 p3 p4, ws = [p0, p1, p2, p3, p4] := by
    match ws, h5 with
    | [p0, p1, p2, p3, p4], _ => exact ⟨p0, p1, p2, p3, p4, rfl⟩
  have q0 := hb p0 (by simp)
  have q1 := hb p1 (by simp)
  have q2 := hb p2 (by simp)
  have q3 := hb p3 (by simp)
  simp only [vl] at hv
  have hz := HZ.out
  rw [← hv] at hz
  have q4 : p4 = 0 := by omega
  subst q4
  obtain ⟨A, B, C, u, v, s, t, hf, M1, M2, M3, B1, B2, B3, B4⟩ := times_facts q0 q1 q2 q3 (Z := X * R) (by rw [← hv]; omega)
  clear hv hz HZ hb h5
  go_wp2_with (first
    | (with_reducible refine wl_alloc (o := ⟨some 5, _, _, _, _, _⟩) rfl 71 _ (uL [0, 0, 0, 0, 0]) rfl zero5 rfl ?_; intro g5 w5 r5 a5 l5 b5)
    | (with_reducible refine wl_store_row rfl 71 (.tmp 5) (.tmp 11) g5 71 _ (uL [p0, p1, p2, p3, 0]) rfl rfl rfl r5 (size5 rfl) rfl (oneU _) ?_; intro w6 r6 o6; have c0 := r6.cell (j := 0) rfl; have c1 := r6.cell (j := 1) rfl; have c2 := r6.cell (j := 2) rfl; have c3 := r6.cell (j := 3) rfl)
    | ((with_reducible refine wl_build rfl 46 _ rfl _ ?hv _ (built3 p0 p1 u) ?hk); case hv => rfl)
    | (with_reducible refine wl_alloc (o := ⟨some 6, _, _, _, _, _⟩) rfl 46 _ (n3 0 0 0) rfl zeroN3 rfl ?_; intro g6 w7 r7 a7 l7 b7)
    | (with_reducible refine wl_store_row rfl 46 (.tmp 6) (.tmp 19) g6 46 _ (uL [p0, p1, u]) rfl rfl rfl r7 (size3 _ _ _) rfl (oneU _) ?_; intro w8 r8 o8; have r6b := (r6.later b7).only o8 (Nat.ne_of_lt (Nat.lt_of_lt_of_le r6.lt a7)); have c2' := r6b.cell (j := 2) rfl; have c3' := r6b.cell (j := 3) rfl)
    | ((with_reducible refine wl_build rfl 46 _ rfl _ ?hv _ (built2 v p3) ?hk); case hv => rfl)
    | (with_reducible refine wl_alloc (o := ⟨some 7, _, _, _, _, _⟩) rfl 46 _ (n3 0 0 0) rfl zeroN3 rfl ?_; intro g7 w9 r9 a9 l9 b9)
    | (with_reducible refine wl_store_row rfl 46 (.tmp 7) (.tmp 25) g7 46 _ (uL [v, p3, 0]) rfl rfl rfl r9 (size3 _ _ _) rfl (oneU _) ?_; intro w10 r10 o10; have r6c := (r6b.later b9).only o10 (Nat.ne_of_lt (Nat.lt_of_lt_of_le r6b.lt a9)); have c2'' := r6c.cell (j := 2) rfl; have c3'' := r6c.cell (j := 3) rfl)
    | ((with_reducible refine wl_build rfl 46 _ rfl _ ?hv _ (built2 s t) ?hk); case hv => rfl)
    | (with_reducible refine wl_alloc (o := ⟨some 8, _, _, _, _, _⟩) rfl 46 _ (n3 0 0 0) rfl zeroN3 rfl ?_; intro g8 w11 r11 a11 l11 b11)
    | (with_reducible refine wl_store_row rfl 46 (.tmp 8) (.tmp 36) g8 46 _ (uL [s, t, 0]) rfl rfl rfl r11 (size3 _ _ _) rfl (oneU _) ?_; intro w12 r12 o12))
  have S1 := b1.size; have S2 := b2.size; have S3 := b3.size; have S4 := b4.size; have S5 := b5.size; have S6 := o6.size; have S7 := b7.size; have S8 := o8.size; have S9 := b9.size; have S10 := o10.size; have S11 := b11.size; have S12 := o12.size
  have h64 : g6 ≠ g4 := by omega
  have h74 : g7 ≠ g4 := by omega
  have h84 : g8 ≠ g4 := by omega
  have hg4 : w.heap.size ≤ g4 := by omega
  rw [M1.out] at r8
  rw [M2.out] at r10
  rw [M3.out] at r12
  have rA := ((((r8.later b9).only o10 (by omega)).later b11).only o12 (by omega))
  have rB := ((r10.later b11).only o12 (by omega))
  have rC := r12
  have BW : Below w.heap.size w w12 := (((((((((((b1.trans (b2.mono (by omega))).trans (b3.mono (by omega))).trans (b4.mono (by omega))).trans (b5.mono (by omega))).trans (o6.below (by omega))).trans (b7.mono (by omega))).trans (o8.below (by omega))).trans (b9.mono (by omega))).trans (o10.below (by omega))).trans (b11.mono (by omega))).trans (o12.below (by omega)))
  have r4 : Row w12 46 g4 (n3 0 0 0) := (((((((((r3.later b4).later b5).only o6 (by omega)).later b7).only o8 (by omega)).later b9).only o10 (by omega)).later b11).only o12 (by omega))
  clear c0 c1 c2 c3 c2' c3' c2'' c3'' r6 r6b r6c r8 r10 r12 M1 M2 M3 r1 r1' r1'' r2 r2' r3 r5 r7 r9 r11
  rename_i K1 hK1
  refine wp_region_vals [2, 4, 5] (STi g4 g6 g7 g8 A B C) (JB g4 46 w12 2 (n3 0 0 0) (nb (A + B + C))) (by kernel_rfl) (by kernel_rfl) (by kernel_rfl) (by kernel_rfl) (by kernel_rfl) (JB.start r4 rfl) ?obs ?he
  case obs =>
    refine ⟨?_, ?_, ?_, ?_, ?_, ?_, trivial⟩
    · exact .inl ⟨by kernel_rfl, fun L a1 w1 n h => ⟨_, rfl, run_loadRow 46 (.tmp 6) g6 46 _ _ rfl (h.var n 6 (by kernel_rfl)) (rA.but h.inv.2.2 h64) Try.underlying46 rfl (sizeNb _)⟩⟩
    · exact .inl ⟨by kernel_rfl, fun L a1 w1 n h => ⟨_, rfl, run_loadRow 46 (.tmp 7) g7 46 _ _ rfl (h.var n 7 (by kernel_rfl)) (rB.but h.inv.2.2 h74) Try.underlying46 rfl (sizeNb _)⟩⟩
    · refine .inr fun L a1 w1 n h K hK => ?_
      have e0 : a1.eval (.tmp 37) = .agg (nb A).toArray := h.dep n 0 37 (by kernel_rfl) rfl
      have e1 : a1.eval (.tmp 38) = .agg (nb B).toArray := h.dep n 1 38 (by kernel_rfl) rfl
      refine st_call 30 _ _ #[.agg (nb A).toArray, .agg (nb B).toArray] rfl Try.call30 ?_ (plus_any A B w1) ?_
      · simp only [List.map_toArray, List.map_cons, List.map_nil, e0, e1]
      · rintro e w3 ⟨rfl, b9⟩
        exact ⟨_, rfl, hK _ w3 rfl (h.inv.call (us := []) b9)⟩
    · exact .inl ⟨by kernel_rfl, fun L a1 w1 n h => ⟨_, rfl, run_loadRow 46 (.tmp 8) g8 46 _ _ rfl (h.var n 8 (by kernel_rfl)) (rC.but h.inv.2.2 h84) Try.underlying46 rfl (sizeNb _)⟩⟩
    · refine .inr fun L a1 w1 n h K hK => ?_
      have e0 : a1.eval (.tmp 39) = .agg (nb (A + B)).toArray := h.dep n 2 39 (by kernel_rfl) rfl
      have e1 : a1.eval (.tmp 40) = .agg (nb C).toArray := h.dep n 3 40 (by kernel_rfl) rfl
      refine st_call 30 _ _ #[.agg (nb (A + B)).toArray, .agg (nb C).toArray] rfl Try.call30 ?_ (plus_any (A + B) C w1) ?_
      · simp only [List.map_toArray, List.map_cons, List.map_nil, e0, e1]
      · rintro e w3 ⟨rfl, b9⟩
        exact ⟨_, rfl, hK _ w3 rfl (h.inv.call (us := []) b9)⟩
    · refine .inr fun L a1 w1 n h K hK => ?_
      have no : L.getD 5 false = false := n.not_yet
      refine st_store_row 46 (.tmp 4) (.tmp 41) g4 46 (n3 0 0 0) (nb (A + B + C)) rfl (h.var n 4 (by kernel_rfl)) (h.dep n 4 41 (by kernel_rfl) rfl) (h.inv.1 no) (sizeNb _) rfl (oneNb _) ?_
      intro w3 r3 o3
      exact hK undef w3 trivial (h.inv.store (us := []) o3 r3 rfl)
  case he =>
    intro V w5 hV hJ
    have r5 := hJ.2.1 rfl
    have bx := hJ.2.2
    clear hV hJ
    simp only [putOps, List.setIfInBounds_toArray, List.set_cons_succ, List.set_cons_zero]
    refine hK1 _ _ ?_
    go_wp2
    refine bodyPost_ret (v := .agg (nb (A + B + C)).toArray) ?_ rfl ⟨by rw [hf.out], ?_⟩
    · exact results_cell_row Try.results38 _ _ g4 46 _ (0, 0) _ rfl r5 Try.underlying46 rfl (by simpa using sizeNb (A + B + C))
    · exact BW.trans (bx.below hg4 BW.size)
end Go.Proofs.Ytcinhofapkddpaa

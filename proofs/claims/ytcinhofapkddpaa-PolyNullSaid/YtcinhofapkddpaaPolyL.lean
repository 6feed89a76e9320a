/-
  Poly: the sum of what was written: contract. Own work.
-/
import Derived.Test.YtcinhofapkddpaaPolyK
import Derived.Test.YtcinhofapkddpaaPack64
namespace Go.Proofs.Ytcinhofapkddpaa
open Go.RowKit
set_option linter.unusedVariables false
set_option linter.unusedSimpArgs false
/-- A slice that reads as the n bytes xs. -/
def HasBs (w : World) (v : Value) (n : Nat) (xs : List Int) : Prop := ∃ A c, v = .slice A n c ∧ Bs w w.heap.size A n xs ∧ n ≤ c
theorem HasBs.later {w w' : World} {v : Value} {n : Nat} {xs : List Int} (h : HasBs w v n xs) (hb : Below w.heap.size w w') : HasBs w' v n xs := by
  obtain ⟨A, c, e, h1, h2⟩ := h
  exact ⟨A, c, e, h1.later hb, h2⟩
theorem HasBs.drew {w : World} {v : Value} {n : Nat} {xs : List Int} (h : HasBs w v n xs) : HasBs w.drew v n xs := h
/-- '[][]byte{x, y}'. -/
theorem st_build2 {P : Program} {o : Oper} {a : Act} {w : World} {K : Act → World → Prop} {Q : Exit → Act → World → Prop} (t : TypeId) (x y : Operand) (ho : o.op = .buildSlice t 2 #[(0, x), (1, y)]) (e : TypeId) (i : TypeInfo) (z u v : Value) (ht : P.underlying t = some (.slice e)) (hi : P.info? e = some i) (hz : i.zero = some z) (hsz : i.size = 1) (hzc : z.cells = #[z]) (hx : a.eval x = u) (hy : a.eval y = v) (hu : u.cells = #[u]) (hv : v.cells = #[v])
    (hk : K (a.put o.dst (.slice (some ⟨w.heap.size, 0, none⟩) 2 2)) (w.alloc (.cells #[u, v] e))) : o.wp P a w K Q := by
  have hr : (Array.range 2) = #[0, 1] := rfl
  have hzz : ∀ w, (zeroValue e).run P w = .ok z w := fun w => by simp [zeroValue, typeInfo, hi, hz]
  have hss : ∀ w, (sizeOf e).run P w = .ok 1 w := fun w => by simp [sizeOf, typeInfo, hi, hsz]
  have hrun : (Instr.buildSlice t 2 #[(0, u), (1, v)]).run P w = .ok (.slice (some ⟨w.heap.size, 0, none⟩) 2 2) (w.alloc (.cells #[u, v] e)) := by
    simp [Instr.buildSlice, run_underlying ht, hss, hzz, hr, hzc, Instr.fill, hu, hv, newRow]
  unfold Oper.wp execOp
  simp only [ho, List.map_toArray, List.map_cons, List.map_nil, hx, hy, hrun, Sem.run_bind, Result.andThen_ok, Sem.run_pure]
  exact hk
theorem st_arr {P : Program} {o : Oper} {a : Act} {w : World} {K : Act → World → Prop} {Q : Exit → Act → World → Prop} (t : TypeId) (x : Operand) (ho : o.op = .sliceToArrayPointer t x) (n e : Nat) (ht : P.underlying t = some (.array n e)) (A : Option Addr) (m c : Nat) (hx : a.eval x = .slice A m c) (hm : n ≤ m)
    (hk : K (a.put o.dst (.pointer A)) w) : o.wp P a w K Q := by
  unfold Oper.wp execOp
  simp only [ho, hx]
  simp [Instr.arrayAt, run_underlying ht, show ¬ m < n by omega]
  exact hk
def HasPtr (w : World) (v : Value) (n : Nat) (xs : List Int) : Prop := ∃ A, v = .pointer A ∧ Bs w w.heap.size A n xs
theorem HasPtr.later {w w' : World} {v : Value} {n : Nat} {xs : List Int} (h : HasPtr w v n xs) (hb : Below w.heap.size w w') : HasPtr w' v n xs := by
  obtain ⟨A, e, h1⟩ := h
  exact ⟨A, e, h1.later hb⟩
def HasBss (w : World) (v : Value) (n : Nat) (xss : List (List Int)) : Prop := ∃ A c, v = .slice A n c ∧ Bss w w.heap.size A n xss
theorem HasBss.later {w w' : World} {v : Value} {n : Nat} {xss : List (List Int)} (h : HasBss w v n xss) (hb : Below w.heap.size w w') : HasBss w' v n xss := by
  obtain ⟨A, c, e, h1⟩ := h
  exact ⟨A, c, e, (h1.below hb).up hb.size⟩
/-- Two numbers' bytes, joined, as an array. -/
structure Five (X Y : List Int) (bs : List Bool) (vs : List Value) (w : World) : Prop where
  a : bs.getD 0 false = true → HasBs w (vs.getD 0 undef) 8 X
  b : bs.getD 1 false = true → HasBs w (vs.getD 1 undef) 8 Y
  c : bs.getD 2 false = true → HasBss w (vs.getD 2 undef) 2 [X, Y]
  d : bs.getD 3 false = true → HasBs w (vs.getD 3 undef) 16 (X ++ Y)
  e : bs.getD 4 false = true → HasPtr w (vs.getD 4 undef) 16 (X ++ Y)
theorem Five.later {X Y : List Int} {bs : List Bool} {vs : List Value} {w w' : World} (h : Five X Y bs vs w) (hb : Below w.heap.size w w') : Five X Y bs vs w' :=
  ⟨fun h1 => (h.a h1).later hb, fun h1 => (h.b h1).later hb, fun h1 => (h.c h1).later hb, fun h1 => (h.d h1).later hb, fun h1 => (h.e h1).later hb⟩
def J7 (g T : Nat) (w0 : World) (X Y : List Int) (cur new : List Value) (bs : List Bool) (vs : List Value) (w : World) : Prop :=
  (bs.getD 5 false = false → Five X Y bs vs w) ∧ JB g T w0 5 cur new bs [] w
theorem run_loadC {P : Program} {o : Oper} {a : Act} {w : World} (ty : TypeId) (x : Operand) (g off : Nat) (M : List Value) (d : TypeDesc) (ho : o.op = .load ty x) (hx : a.eval x = .pointer (some ⟨g, off, none⟩)) (h : ∀ j v, M[j]? = some v → w.cell? ⟨g, off + j, none⟩ = some v)
    (hu : P.underlying ty = some d) (hd : (match d with | .struct _ | .array _ _ => true | _ => false) = true) (hi : (P.info? ty).map (·.size) = some M.length) : (execOp a.eval o).run P w = .ok (.value (.agg M.toArray)) w := by
  unfold execOp
  simp only [ho, hx, Instr.loadAt, Instr.sureAddr, Sem.run_bind, Sem.run_pure, Result.andThen_ok, run_loadVar_cells ty g off M d h hu hd hi]
theorem bs_cells {w : World} {B n : Nat} {b o : Nat} {xs : List Int} (h : Bs w B (some ⟨b, o, none⟩) n xs) : ∀ j v, (bv xs)[j]? = some v → w.cell? ⟨b, o + j, none⟩ = some v := by
  intro j v hv
  have := h.cells rfl j v hv
  rwa [addr_plain] at this
theorem slB_info_ : (Try.prog.info? 23).map (fun i => (i.zero, i.size, i.bytes)) = some (some (.slice none 0 0), 1, 24) := by kernel_rfl
theorem slB_info : ∃ i, Try.prog.info? 23 = some i ∧ i.zero = some (.slice none 0 0) ∧ i.size = 1 := by
  obtain ⟨i, h0, h1, h2, h3⟩ := info_parts slB_info_
  exact ⟨i, h0, h1, h2⟩
theorem putLe64_has (x : Int) (w : World) (h0 : 0 ≤ x) (h1 : x < 18446744073709551616) :
    Calls Try.prog 32 #[.slice none 0 0, .int .u64 x] w fun e w' => ∃ v, e = .returned v ∧ HasBs w' v 8 (lowB x 8) ∧ Below w.heap.size w w' := by
  refine (putLe64_any none 0 0 [] x w Bs.nil_ (by omega) h0 (by omega)).mono ?_
  rintro e w' ⟨A, n, c, rfl, h1, h2, h3, h4⟩
  have : n = 8 := by rw [← h1.1]; simp [lowB_length]
  subst this
  exact ⟨_, rfl, ⟨A, c, rfl, h1, h2⟩, h4⟩
theorem lowB_two (x y : Int) (Z : Nat) (hx : x = (nW Z 0 : Int)) (hy : y = (nW Z 1 : Int)) : lowB x 8 ++ lowB y 8 = lowB (Z : Int) 16 := by
  subst hx
  subst hy
  have e0 : nW Z 0 = Z % 256 ^ 8 := by show Z / 1 % _ = _; rw [Nat.div_one]
  have e1 : nW Z 1 = Z / 256 ^ 8 % 256 ^ 8 := rfl
  have h := lowB_leN (xs := lowB (nW Z 0 : Int) 8 ++ lowB (nW Z 1 : Int) 8) ((lowB_by _ _).app (lowB_by _ _))
  rw [← h, leN_append, leN_lowB, leN_lowB, List.length_append, lowB_length, lowB_length, e0, e1, Nat.mod_mod, Nat.mod_mod, ← Nat.mod_mul, ← Nat.pow_add]
  exact lowB_mod Z 16
theorem zero16 : (Try.prog.info? 26).map (fun i => i.zero) = some (some (.agg (bv (List.replicate 16 0)).toArray)) := by kernel_rfl
theorem size16 {xs : List Int} (h : xs.length = 16) : (Try.prog.info? 26).map (·.size) = some (bv xs).length := by rw [bv_len, h]; kernel_rfl
def SS6 (g g3 R S T E n : Nat) (held : List Int) (opn : Nat) (v : Value) : Prop :=
  match opn with
  | 0 => v = .agg (nb E).toArray
  | 1 => v = .agg (nb (red E)).toArray
  | 2 | 3 => v = .pointer (some ⟨g, 0, none⟩)
  | 4 => v = .pointer (some ⟨g, 19, none⟩)
  | 5 => v = .agg (nb S).toArray
  | 6 => v = .agg (nb (red E + S)).toArray
  | _ => True

def SS7 (g3 x0 x1 : Nat) (opn : Nat) (v : Value) : Prop :=
  match opn with
  | 0 => v = .pointer (some ⟨g3, 0, none⟩)
  | 1 => v = .int .u64 (x0 : Int)
  | 3 => v = .pointer (some ⟨g3, 1, none⟩)
  | 4 => v = .int .u64 (x1 : Int)
  | 9 => v = .agg (bv (lowB (x0 : Int) 8 ++ lowB (x1 : Int) 8)).toArray
  | _ => True

set_option maxRecDepth 100000 in
set_option maxHeartbeats 4000000 in
theorem sum_any (g R S : Nat) (xs : List Int) (w : World) (hm : MacAt w g R S xs) (hR : R < 2 ^ 124) (hx : IsBy xs) :
    Calls Try.prog 16 #[.pointer (some ⟨g, 0, none⟩)] w fun e w' => e = .returned (.agg (bv (polyL R S xs)).toArray) ∧ Below w.heap.size w w' := by
  have hTl := totI_lt hR hx (xs.length / 16)
  have hEl := endI_lt hR hx
  have hbl := heldL_by hx
  have hh := heldL_len xs
  have htk := heldL_take xs
  have hEn : Hid (∀ E, E = endI R xs → bv (polyL R S xs) = bv (lowB ((red E + S : Nat) : Int) 16)) := fun E h => by rw [h]; rfl
  have hE0 : xs.length % 16 = 0 → endI R xs = totI R xs (xs.length / 16) := fun h => by unfold endI; rw [if_pos h]
  have hE1 : xs.length % 16 ≠ 0 → endI R xs = stepI R (totI R xs (xs.length / 16)) (restL xs) := fun h => by unfold endI; rw [if_neg h]; rfl
  have HE0 := hide hE0
  have HE1 := hide hE1
  have HTK := hide htk
  have hn : xs.length % 16 < 16 := Nat.mod_lt _ (by decide)
  unfold MacAt at hm
  clear hE0 hE1 htk
  generalize polyL R S xs = out at *
  generalize xs.length % 16 = n at *
  generalize totI R xs (xs.length / 16) = T at *
  generalize endI R xs = EE at *
  generalize restL xs = rl at *
  generalize heldL xs = held at *
  go_enter Try.func16, Try.ntmps16
  go_wp2_with (first
    | (with_reducible refine wl_alloc rfl 26 _ (bv (List.replicate 16 0)) rfl zero16 rfl ?_; intro g2 w1 r1 a1 l1 b1; have hm1 := hm.later b1)
    | (with_reducible refine wl_load_part rfl 46 (.tmp 9) g 22 48 (bv held ++ (.int .i64 (n : Int) :: (fb R ++ nb S))) (nb T) [] _ rfl rfl (by have := hm1; simpa [macL] using this) (by simp [bv_len, fb, nb, hh]) Try.underlying46 rfl (sizeNb _) ?_)
    | (with_reducible refine wl_alloc rfl 46 _ (n3 0 0 0) rfl zeroN3 rfl ?_; intro g3 w2 r2 a2 l2 b2)
    | (with_reducible refine wl_store_row rfl 46 (.tmp 3) (.tmp 10) g3 46 _ (nb T) rfl rfl rfl r2 (sizeNb _) rfl (oneNb _) ?_; intro w3 r3 o3))
  have s1 := b1.size; have s2 := b2.size; have s3 := o3.size
  have hgl := hm.lt
  have hne3 : g ≠ g3 := by omega
  have hne2 : g2 ≠ g3 := by omega
  have hne : g3 ≠ g2 := by omega
  have hg2 : w.heap.size ≤ g2 := a1
  have hg3 : w.heap.size ≤ g3 := by omega
  have hm3 := (hm1.later b2).only o3 hne3
  have rB3 := (r1.later b2).only o3 hne2
  have B3 := (b1.trans (b2.mono (by omega))).trans (o3.below (by omega))
  clear hm hm1 r1 r2 b1 b2 o3
  refine (begun_any g 48 n _ w3 hm3 (mac16 hh n R S T)).mono ?_
  rintro e w4 ⟨rfl, rfl⟩
  by_cases hn0 : n = 0
  · have hdb : decide ((0 : Int) < (n : Int)) = false := by simp; omega
    rw [hdb]
    have hEnd : Hid (bv out = bv (lowB ((red T + S : Nat) : Int) 16)) := hEn.out T (HE0.out hn0).symm
    have hE : T < 2 ^ 132 := by omega
    have hrM := hm3
    have rB := rB3
    have BS := B3
    clear hm3 rB3 B3 hn0
    generalize hTE : T = E at r3 hEnd hE
    clear hTE
    generalize w3 = wS at *
    go_wp2_with fail
    rename_i K1 hK1
    refine wp_region_vals [1, 6, 7] (SS6 g g3 R S T E n held) (JB g3 46 wS 2 (nb E) (nb (red E + S))) (by kernel_rfl) (by kernel_rfl) (by kernel_rfl) (by kernel_rfl) (by kernel_rfl) (JB.start r3 rfl) ?obs ?he
    case obs =>
      refine ⟨?_, ?_, ?_, ?_, ?_, ?_, ?_, ?_, trivial⟩
      · exact .inl ⟨by kernel_rfl, fun L a1 w1 n' h => ⟨_, rfl, run_loadRow 46 (.tmp 3) g3 46 _ _ rfl (h.var n' 3 (by kernel_rfl)) (h.inv.1 (n'.later (by kernel_rfl))) Try.underlying46 rfl (sizeNb _)⟩⟩
      · refine .inr fun L a1 w1 n' h K hK => ?_
        have e0 : a1.eval (.tmp 17) = .agg (nb E).toArray := h.dep n' 0 17 (by kernel_rfl) rfl
        refine st_call 29 _ _ #[.agg (nb E).toArray] rfl Try.call29 ?_ (reduced_any E w1 hE) ?_
        · simp only [List.map_toArray, List.map_cons, List.map_nil, e0]
        · rintro e w3 ⟨rfl, b9⟩
          exact ⟨_, rfl, hK _ w3 rfl (h.inv.call (us := []) b9)⟩
      · exact .inl ⟨by kernel_rfl, fun L a1 w1 n' h => ⟨_, rfl, run_move (.tmp 0) rfl (h.var n' 0 (by kernel_rfl))⟩⟩
      · refine .inl ⟨by kernel_rfl, fun L a1 w1 n' h => ⟨.pointer (some ⟨g, 0, none⟩), rfl, ?_⟩⟩
        have e0 : a1.eval (.tmp 19) = _ := h.dep n' 2 19 (by kernel_rfl) rfl
        unfold execOp
        simp only [e0]
        go_simp
      · refine .inl ⟨by kernel_rfl, fun L a1 w1 n' h => ⟨.pointer (some ⟨g, 19, none⟩), rfl, ?_⟩⟩
        have e0 : a1.eval (.tmp 20) = _ := h.dep n' 3 20 (by kernel_rfl) rfl
        unfold execOp
        simp only [e0]
        go_simp
      · exact .inl ⟨by kernel_rfl, fun L a1 w1 n' h => ⟨_, rfl, run_loadP 46 (.tmp 21) g 19 48 (bv held ++ (.int .i64 (n : Int) :: fb R)) (nb S) (nb T) _ rfl (h.dep n' 4 21 (by kernel_rfl) rfl) (by have := hrM.but h.inv.2.2 hne3; simpa [macL] using this) (by simp [bv_len, fb, nb, hh]) Try.underlying46 rfl (sizeNb _)⟩⟩
      · refine .inr fun L a1 w1 n' h K hK => ?_
        have e0 : a1.eval (.tmp 18) = .agg (nb (red E)).toArray := h.dep n' 1 18 (by kernel_rfl) rfl
        have e1 : a1.eval (.tmp 22) = .agg (nb S).toArray := h.dep n' 5 22 (by kernel_rfl) rfl
        refine st_call 30 _ _ #[.agg (nb (red E)).toArray, .agg (nb S).toArray] rfl Try.call30 ?_ (plus_any (red E) S w1) ?_
        · simp only [List.map_toArray, List.map_cons, List.map_nil, e0, e1]
        · rintro e w3 ⟨rfl, b9⟩
          exact ⟨_, rfl, hK _ w3 rfl (h.inv.call (us := []) b9)⟩
      · refine .inr fun L a1 w1 n' h K hK => ?_
        have no : L.getD 7 false = false := n'.not_yet
        refine st_store_row 46 (.tmp 3) (.tmp 23) g3 46 (nb E) (nb (red E + S)) rfl (h.var n' 3 (by kernel_rfl)) (h.dep n' 6 23 (by kernel_rfl) rfl) (h.inv.1 no) (sizeNb _) rfl (oneNb _) ?_
        intro w3 r3 o3
        exact hK undef w3 trivial (h.inv.store (us := []) o3 r3 rfl)
    case he =>
      intro V w5 hV hJ
      have r5 := hJ.2.1 rfl
      have bx := hJ.2.2
      clear hV hJ
      simp only [putOps, List.setIfInBounds_toArray, List.set_cons_succ, List.set_cons_zero]
      refine hK1 _ _ ?_
      clear hK1 K1
      go_wp2_with fail
      have r2 := rB.but bx hne2
      have cx0 := nb_get (X := red E + S) (i := 0) (by decide)
      have cx1 := nb_get (X := red E + S) (i := 1) (by decide)
      have hxl0 := nW_lt (red E + S) 0
      have hxl1 := nW_lt (red E + S) 1
      have HXY := hide (lowB_two (nW (red E + S) 0 : Int) (nW (red E + S) 1 : Int) (red E + S) rfl rfl)
      clear r3
      have r3 := r5
      generalize nW (red E + S) 0 = x0 at *
      generalize nW (red E + S) 1 = x1 at *
      rename_i K2 hK2
      refine wp_region_vals [2, 5, 6, 7, 8, 10] (SS7 g3 x0 x1) (J7 g2 26 w5 (lowB (x0 : Int) 8) (lowB (x1 : Int) 8) (bv (List.replicate 16 0)) (bv (lowB (x0 : Int) 8 ++ lowB (x1 : Int) 8))) (by kernel_rfl) (by kernel_rfl) (by kernel_rfl) (by kernel_rfl) (by kernel_rfl) ⟨fun _ => ⟨fun h => absurd h (by decide), fun h => absurd h (by decide), fun h => absurd h (by decide), fun h => absurd h (by decide), fun h => absurd h (by decide)⟩, JB.start r2 rfl⟩ ?obs ?he
      case obs =>
        refine ⟨?_, ?_, ?_, ?_, ?_, ?_, ?_, ?_, ?_, ?_, ?_, trivial⟩
        · exact .inl ⟨by kernel_rfl, fun L a1 w1 n' h => ⟨_, rfl, run_index0 46 (.tmp 3) (.const (.int .i64 0)) 3 42 g3 0 rfl Try.underlying46 Try.sizeOf42 (h.var n' 3 (by kernel_rfl)) rfl (by decide)⟩⟩
        · exact .inl ⟨by kernel_rfl, fun L a1 w1 n' h => ⟨_, rfl, run_loadA 42 (.tmp 24) ⟨g3, 0, none⟩ rfl Try.isAgg42 (h.dep n' 0 24 (by kernel_rfl) rfl) ((r3.but h.inv.2.2.2 hne).cell cx0)⟩⟩
        · refine .inr fun L a1 w1 n' h K hK => ?_
          have e1 : a1.eval (.tmp 25) = .int .u64 (x0 : Int) := h.dep n' 1 25 (by kernel_rfl) rfl
          refine st_call 32 _ _ #[.slice none 0 0, .int .u64 (x0 : Int)] rfl Try.call32 ?_ (putLe64_has (x0 : Int) w1 (by omega) (by omega)) ?_
          · simp only [List.map_toArray, List.map_cons, List.map_nil, e1]; rfl
          · rintro e w3 ⟨v9, rfl, hv, b9⟩
            exact ⟨_, rfl, hK _ w3 trivial ⟨(fun h5 => let q := (h.inv.1 (n'.later (by kernel_rfl))).later b9; ⟨fun _ => hv, fun h1 => q.b h1, fun h1 => q.c h1, fun h1 => q.d h1, fun h1 => q.e h1⟩), h.inv.2.call (us := []) b9⟩⟩
        · exact .inl ⟨by kernel_rfl, fun L a1 w1 n' h => ⟨_, rfl, run_index0 46 (.tmp 3) (.const (.int .i64 1)) 3 42 g3 1 rfl Try.underlying46 Try.sizeOf42 (h.var n' 3 (by kernel_rfl)) rfl (by decide)⟩⟩
        · exact .inl ⟨by kernel_rfl, fun L a1 w1 n' h => ⟨_, rfl, run_loadA 42 (.tmp 27) ⟨g3, 1, none⟩ rfl Try.isAgg42 (h.dep n' 3 27 (by kernel_rfl) rfl) ((r3.but h.inv.2.2.2 hne).cell cx1)⟩⟩
        · refine .inr fun L a1 w1 n' h K hK => ?_
          have e1 : a1.eval (.tmp 28) = .int .u64 (x1 : Int) := h.dep n' 4 28 (by kernel_rfl) rfl
          refine st_call 32 _ _ #[.slice none 0 0, .int .u64 (x1 : Int)] rfl Try.call32 ?_ (putLe64_has (x1 : Int) w1 (by omega) (by omega)) ?_
          · simp only [List.map_toArray, List.map_cons, List.map_nil, e1]; rfl
          · rintro e w3 ⟨v9, rfl, hv, b9⟩
            exact ⟨_, rfl, hK _ w3 trivial ⟨(fun h5 => let q := (h.inv.1 (n'.later (by kernel_rfl))).later b9; ⟨fun h1 => q.a h1, fun _ => hv, fun h1 => q.c h1, fun h1 => q.d h1, fun h1 => q.e h1⟩), h.inv.2.call (us := []) b9⟩⟩
        · refine .inr fun L a1 w1 n' h K hK => ?_
          have q0 := h.inv.1 (n'.later (by kernel_rfl))
          obtain ⟨A1, c1, e1, hb1, _⟩ := q0.a (n'.dep (by kernel_rfl))
          obtain ⟨A2, c2, e2, hb2, _⟩ := q0.b (n'.dep (by kernel_rfl))
          obtain ⟨i1, hi1, hz1, hs1⟩ := slB_info
          have b9 : Below w1.heap.size w1 (w1.alloc (.cells #[.slice A1 8 c1, .slice A2 8 c2] 23)) := (Below.refl _ _).alloc (Nat.le_refl _) _
          have hl := Bss.lit w1 23 [(A1, 8, c1, lowB (x0 : Int) 8), (A2, 8, c2, lowB (x1 : Int) 8)] (by
            intro x hx
            simp only [List.mem_cons, List.not_mem_nil, or_false] at hx
            rcases hx with rfl | rfl
            · exact hb1
            · exact hb2)
          refine st_build2 30 (.tmp 26) (.tmp 29) rfl 23 i1 _ (.slice A1 8 c1) (.slice A2 8 c2) Try.underlying30 hi1 hz1 hs1 rfl e1 e2 rfl rfl ?_
          exact hK _ _ trivial ⟨(fun h5 => let q := (h.inv.1 (n'.later (by kernel_rfl))).later b9; ⟨fun h1 => q.a h1, fun h1 => q.b h1, fun _ => ⟨_, _, rfl, hl.up (by simp)⟩, fun h1 => q.d h1, fun h1 => q.e h1⟩), h.inv.2.call (us := []) b9⟩
        · refine .inr fun L a1 w1 n' h K hK => ?_
          have q0 := h.inv.1 (n'.later (by kernel_rfl))
          obtain ⟨A1, c1, e1, hb1⟩ := q0.c (n'.dep (by kernel_rfl))
          have e0 : a1.eval (.tmp 30) = .slice A1 2 c1 := e1
          refine st_call 31 _ _ #[.slice A1 2 c1] rfl Try.call31 ?_ (join_any A1 2 c1 _ w1 hb1 (by omega) (by simp [sumLen, lowB_length])) ?_
          · simp only [List.map_toArray, List.map_cons, List.map_nil, e0]
          · rintro e w3 ⟨A3, n3, c3, rfl, h1, h2, h3, b9⟩
            have hn : n3 = 16 := by rw [← h1.1]; simp [lowB_length]
            subst hn
            simp only [List.flatten_cons, List.flatten_nil, List.append_nil] at h1
            exact ⟨_, rfl, hK _ w3 trivial ⟨(fun h5 => let q := (h.inv.1 (n'.later (by kernel_rfl))).later b9; ⟨fun h1 => q.a h1, fun h1 => q.b h1, fun h1 => q.c h1, fun _ => ⟨_, _, rfl, h1, h2⟩, fun h1 => q.e h1⟩), h.inv.2.call (us := []) b9⟩⟩
        · refine .inr fun L a1 w1 n' h K hK => ?_
          have q0 := h.inv.1 (n'.later (by kernel_rfl))
          obtain ⟨A1, c1, e1, hb1, _⟩ := q0.d (n'.dep (by kernel_rfl))
          refine st_arr 26 (.tmp 31) rfl 16 5 Try.underlying26 A1 16 c1 e1 (Nat.le_refl _) ?_
          exact hK _ _ trivial ⟨fun h5 => ⟨fun h1 => q0.a h1, fun h1 => q0.b h1, fun h1 => q0.c h1, fun h1 => q0.d h1, fun _ => ⟨A1, rfl, hb1⟩⟩, h.inv.2⟩
        · refine .inl ⟨by kernel_rfl, fun L a1 w1 n' h => ⟨_, rfl, ?_⟩⟩
          obtain ⟨A1, e1, hb1⟩ := (h.inv.1 (n'.later (by kernel_rfl))).e (n'.dep (by kernel_rfl))
          obtain ⟨b1, o1, rfl, _, _⟩ := hb1.2 (by decide)
          exact run_loadC 26 (.tmp 32) b1 o1 (bv (lowB (x0 : Int) 8 ++ lowB (x1 : Int) 8)) _ rfl e1 (bs_cells hb1) Try.underlying26 rfl (size16 (by simp [lowB_length]))
        · refine .inr fun L a1 w1 n' h K hK => ?_
          have no : L.getD 10 false = false := n'.not_yet
          refine st_store_row 26 (.tmp 2) (.tmp 33) g2 26 (bv (List.replicate 16 0)) (bv (lowB (x0 : Int) 8 ++ lowB (x1 : Int) 8)) rfl (h.var n' 2 (by kernel_rfl)) (h.dep n' 9 33 (by kernel_rfl) rfl) (h.inv.2.1 no) (size16 (by simp [lowB_length])) (by simp [bv_len, lowB_length]) (bv_one _) ?_
          intro w3 r3 o3
          exact hK undef w3 trivial ⟨fun h5 => absurd (show true = false from h5) (by decide), h.inv.2.store (us := []) o3 r3 rfl⟩
      case he =>
        intro V w6 hV hJ
        have r6 := hJ.2.2.1 rfl
        have by6 := hJ.2.2.2
        clear hV hJ
        simp only [putOps, List.setIfInBounds_toArray, List.set_cons_succ, List.set_cons_zero]
        refine hK2 _ _ ?_
        go_wp2
        rw [HXY.out] at r6
        have sx := bx.size
        refine bodyPost_ret (v := .agg (bv (lowB ((red E + S : Nat) : Int) 16)).toArray) ?_ rfl ⟨by rw [hEnd.out], ?_⟩
        · exact results_cell_row Try.results16 _ _ g2 26 _ (0, 0) _ rfl r6 Try.underlying26 rfl (by simpa using size16 (lowB_length _ _))
        · exact (BS.trans (bx.below hg3 BS.size)).trans (by6.below hg2 (by omega))
  · have hdb : decide ((0 : Int) < (n : Int)) = true := by simp; omega
    rw [hdb]
    have hN := next_any g n R S T held w3 hm3 hh hbl (by omega) (by omega) hR hTl
    have hEnd := hEn.out _ (HE1.out hn0).symm
    rw [HTK.out] at hN
    rw [HE1.out hn0] at hEl
    have HEnd := hide hEnd
    clear hEnd HE0 HE1 hEn HTK
    generalize stepI R T rl = E at *
    go_wp2_with fail
    refine hN.mono ?_
    rintro e w4 ⟨rfl, b4⟩
    have r3' := r3.later b4
    go_wp2_with (first
      | (with_reducible refine wl_store_row rfl 46 (.tmp 3) (.tmp 16) g3 46 _ (nb E) rfl rfl rfl r3' (sizeNb _) rfl (oneNb _) ?_; intro wS rS oS))
    have s4 := b4.size; have s5 := oS.size
    have hEnd : Hid (bv out = bv (lowB ((red E + S : Nat) : Int) 16)) := HEnd.out
    have hE : E < 2 ^ 132 := by omega
    have hrM := (hm3.later b4).only oS hne3
    have rB := (rB3.later b4).only oS hne2
    have BS := (B3.trans (b4.mono (by omega))).trans (oS.below (by omega))
    clear hm3 rB3 B3 hn0 r3 r3' oS b4
    have r3 := rS
    clear rS
    rename_i K1 hK1
    refine wp_region_vals [1, 6, 7] (SS6 g g3 R S T E n held) (JB g3 46 wS 2 (nb E) (nb (red E + S))) (by kernel_rfl) (by kernel_rfl) (by kernel_rfl) (by kernel_rfl) (by kernel_rfl) (JB.start r3 rfl) ?obs ?he
    case obs =>
      refine ⟨?_, ?_, ?_, ?_, ?_, ?_, ?_, ?_, trivial⟩
      · exact .inl ⟨by kernel_rfl, fun L a1 w1 n' h => ⟨_, rfl, run_loadRow 46 (.tmp 3) g3 46 _ _ rfl (h.var n' 3 (by kernel_rfl)) (h.inv.1 (n'.later (by kernel_rfl))) Try.underlying46 rfl (sizeNb _)⟩⟩
      · refine .inr fun L a1 w1 n' h K hK => ?_
        have e0 : a1.eval (.tmp 17) = .agg (nb E).toArray := h.dep n' 0 17 (by kernel_rfl) rfl
        refine st_call 29 _ _ #[.agg (nb E).toArray] rfl Try.call29 ?_ (reduced_any E w1 hE) ?_
        · simp only [List.map_toArray, List.map_cons, List.map_nil, e0]
        · rintro e w3 ⟨rfl, b9⟩
          exact ⟨_, rfl, hK _ w3 rfl (h.inv.call (us := []) b9)⟩
      · exact .inl ⟨by kernel_rfl, fun L a1 w1 n' h => ⟨_, rfl, run_move (.tmp 0) rfl (h.var n' 0 (by kernel_rfl))⟩⟩
      · refine .inl ⟨by kernel_rfl, fun L a1 w1 n' h => ⟨.pointer (some ⟨g, 0, none⟩), rfl, ?_⟩⟩
        have e0 : a1.eval (.tmp 19) = _ := h.dep n' 2 19 (by kernel_rfl) rfl
        unfold execOp
        simp only [e0]
        go_simp
      · refine .inl ⟨by kernel_rfl, fun L a1 w1 n' h => ⟨.pointer (some ⟨g, 19, none⟩), rfl, ?_⟩⟩
        have e0 : a1.eval (.tmp 20) = _ := h.dep n' 3 20 (by kernel_rfl) rfl
        unfold execOp
        simp only [e0]
        go_simp
      · exact .inl ⟨by kernel_rfl, fun L a1 w1 n' h => ⟨_, rfl, run_loadP 46 (.tmp 21) g 19 48 (bv held ++ (.int .i64 (n : Int) :: fb R)) (nb S) (nb T) _ rfl (h.dep n' 4 21 (by kernel_rfl) rfl) (by have := hrM.but h.inv.2.2 hne3; simpa [macL] using this) (by simp [bv_len, fb, nb, hh]) Try.underlying46 rfl (sizeNb _)⟩⟩
      · refine .inr fun L a1 w1 n' h K hK => ?_
        have e0 : a1.eval (.tmp 18) = .agg (nb (red E)).toArray := h.dep n' 1 18 (by kernel_rfl) rfl
        have e1 : a1.eval (.tmp 22) = .agg (nb S).toArray := h.dep n' 5 22 (by kernel_rfl) rfl
        refine st_call 30 _ _ #[.agg (nb (red E)).toArray, .agg (nb S).toArray] rfl Try.call30 ?_ (plus_any (red E) S w1) ?_
        · simp only [List.map_toArray, List.map_cons, List.map_nil, e0, e1]
        · rintro e w3 ⟨rfl, b9⟩
          exact ⟨_, rfl, hK _ w3 rfl (h.inv.call (us := []) b9)⟩
      · refine .inr fun L a1 w1 n' h K hK => ?_
        have no : L.getD 7 false = false := n'.not_yet
        refine st_store_row 46 (.tmp 3) (.tmp 23) g3 46 (nb E) (nb (red E + S)) rfl (h.var n' 3 (by kernel_rfl)) (h.dep n' 6 23 (by kernel_rfl) rfl) (h.inv.1 no) (sizeNb _) rfl (oneNb _) ?_
        intro w3 r3 o3
        exact hK undef w3 trivial (h.inv.store (us := []) o3 r3 rfl)
    case he =>
      intro V w5 hV hJ
      have r5 := hJ.2.1 rfl
      have bx := hJ.2.2
      clear hV hJ
      simp only [putOps, List.setIfInBounds_toArray, List.set_cons_succ, List.set_cons_zero]
      refine hK1 _ _ ?_
      clear hK1 K1
      go_wp2_with fail
      have r2 := rB.but bx hne2
      have cx0 := nb_get (X := red E + S) (i := 0) (by decide)
      have cx1 := nb_get (X := red E + S) (i := 1) (by decide)
      have hxl0 := nW_lt (red E + S) 0
      have hxl1 := nW_lt (red E + S) 1
      have HXY := hide (lowB_two (nW (red E + S) 0 : Int) (nW (red E + S) 1 : Int) (red E + S) rfl rfl)
      clear r3
      have r3 := r5
      generalize nW (red E + S) 0 = x0 at *
      generalize nW (red E + S) 1 = x1 at *
      rename_i K2 hK2
      refine wp_region_vals [2, 5, 6, 7, 8, 10] (SS7 g3 x0 x1) (J7 g2 26 w5 (lowB (x0 : Int) 8) (lowB (x1 : Int) 8) (bv (List.replicate 16 0)) (bv (lowB (x0 : Int) 8 ++ lowB (x1 : Int) 8))) (by kernel_rfl) (by kernel_rfl) (by kernel_rfl) (by kernel_rfl) (by kernel_rfl) ⟨fun _ => ⟨fun h => absurd h (by decide), fun h => absurd h (by decide), fun h => absurd h (by decide), fun h => absurd h (by decide), fun h => absurd h (by decide)⟩, JB.start r2 rfl⟩ ?obs ?he
      case obs =>
        refine ⟨?_, ?_, ?_, ?_, ?_, ?_, ?_, ?_, ?_, ?_, ?_, trivial⟩
        · exact .inl ⟨by kernel_rfl, fun L a1 w1 n' h => ⟨_, rfl, run_index0 46 (.tmp 3) (.const (.int .i64 0)) 3 42 g3 0 rfl Try.underlying46 Try.sizeOf42 (h.var n' 3 (by kernel_rfl)) rfl (by decide)⟩⟩
        · exact .inl ⟨by kernel_rfl, fun L a1 w1 n' h => ⟨_, rfl, run_loadA 42 (.tmp 24) ⟨g3, 0, none⟩ rfl Try.isAgg42 (h.dep n' 0 24 (by kernel_rfl) rfl) ((r3.but h.inv.2.2.2 hne).cell cx0)⟩⟩
        · refine .inr fun L a1 w1 n' h K hK => ?_
          have e1 : a1.eval (.tmp 25) = .int .u64 (x0 : Int) := h.dep n' 1 25 (by kernel_rfl) rfl
          refine st_call 32 _ _ #[.slice none 0 0, .int .u64 (x0 : Int)] rfl Try.call32 ?_ (putLe64_has (x0 : Int) w1 (by omega) (by omega)) ?_
          · simp only [List.map_toArray, List.map_cons, List.map_nil, e1]; rfl
          · rintro e w3 ⟨v9, rfl, hv, b9⟩
            exact ⟨_, rfl, hK _ w3 trivial ⟨(fun h5 => let q := (h.inv.1 (n'.later (by kernel_rfl))).later b9; ⟨fun _ => hv, fun h1 => q.b h1, fun h1 => q.c h1, fun h1 => q.d h1, fun h1 => q.e h1⟩), h.inv.2.call (us := []) b9⟩⟩
        · exact .inl ⟨by kernel_rfl, fun L a1 w1 n' h => ⟨_, rfl, run_index0 46 (.tmp 3) (.const (.int .i64 1)) 3 42 g3 1 rfl Try.underlying46 Try.sizeOf42 (h.var n' 3 (by kernel_rfl)) rfl (by decide)⟩⟩
        · exact .inl ⟨by kernel_rfl, fun L a1 w1 n' h => ⟨_, rfl, run_loadA 42 (.tmp 27) ⟨g3, 1, none⟩ rfl Try.isAgg42 (h.dep n' 3 27 (by kernel_rfl) rfl) ((r3.but h.inv.2.2.2 hne).cell cx1)⟩⟩
        · refine .inr fun L a1 w1 n' h K hK => ?_
          have e1 : a1.eval (.tmp 28) = .int .u64 (x1 : Int) := h.dep n' 4 28 (by kernel_rfl) rfl
          refine st_call 32 _ _ #[.slice none 0 0, .int .u64 (x1 : Int)] rfl Try.call32 ?_ (putLe64_has (x1 : Int) w1 (by omega) (by omega)) ?_
          · simp only [List.map_toArray, List.map_cons, List.map_nil, e1]; rfl
          · rintro e w3 ⟨v9, rfl, hv, b9⟩
            exact ⟨_, rfl, hK _ w3 trivial ⟨(fun h5 => let q := (h.inv.1 (n'.later (by kernel_rfl))).later b9; ⟨fun h1 => q.a h1, fun _ => hv, fun h1 => q.c h1, fun h1 => q.d h1, fun h1 => q.e h1⟩), h.inv.2.call (us := []) b9⟩⟩
        · refine .inr fun L a1 w1 n' h K hK => ?_
          have q0 := h.inv.1 (n'.later (by kernel_rfl))
          obtain ⟨A1, c1, e1, hb1, _⟩ := q0.a (n'.dep (by kernel_rfl))
          obtain ⟨A2, c2, e2, hb2, _⟩ := q0.b (n'.dep (by kernel_rfl))
          obtain ⟨i1, hi1, hz1, hs1⟩ := slB_info
          have b9 : Below w1.heap.size w1 (w1.alloc (.cells #[.slice A1 8 c1, .slice A2 8 c2] 23)) := (Below.refl _ _).alloc (Nat.le_refl _) _
          have hl := Bss.lit w1 23 [(A1, 8, c1, lowB (x0 : Int) 8), (A2, 8, c2, lowB (x1 : Int) 8)] (by
            intro x hx
            simp only [List.mem_cons, List.not_mem_nil, or_false] at hx
            rcases hx with rfl | rfl
            · exact hb1
            · exact hb2)
          refine st_build2 30 (.tmp 26) (.tmp 29) rfl 23 i1 _ (.slice A1 8 c1) (.slice A2 8 c2) Try.underlying30 hi1 hz1 hs1 rfl e1 e2 rfl rfl ?_
          exact hK _ _ trivial ⟨(fun h5 => let q := (h.inv.1 (n'.later (by kernel_rfl))).later b9; ⟨fun h1 => q.a h1, fun h1 => q.b h1, fun _ => ⟨_, _, rfl, hl.up (by simp)⟩, fun h1 => q.d h1, fun h1 => q.e h1⟩), h.inv.2.call (us := []) b9⟩
        · refine .inr fun L a1 w1 n' h K hK => ?_
          have q0 := h.inv.1 (n'.later (by kernel_rfl))
          obtain ⟨A1, c1, e1, hb1⟩ := q0.c (n'.dep (by kernel_rfl))
          have e0 : a1.eval (.tmp 30) = .slice A1 2 c1 := e1
          refine st_call 31 _ _ #[.slice A1 2 c1] rfl Try.call31 ?_ (join_any A1 2 c1 _ w1 hb1 (by omega) (by simp [sumLen, lowB_length])) ?_
          · simp only [List.map_toArray, List.map_cons, List.map_nil, e0]
          · rintro e w3 ⟨A3, n3, c3, rfl, h1, h2, h3, b9⟩
            have hn : n3 = 16 := by rw [← h1.1]; simp [lowB_length]
            subst hn
            simp only [List.flatten_cons, List.flatten_nil, List.append_nil] at h1
            exact ⟨_, rfl, hK _ w3 trivial ⟨(fun h5 => let q := (h.inv.1 (n'.later (by kernel_rfl))).later b9; ⟨fun h1 => q.a h1, fun h1 => q.b h1, fun h1 => q.c h1, fun _ => ⟨_, _, rfl, h1, h2⟩, fun h1 => q.e h1⟩), h.inv.2.call (us := []) b9⟩⟩
        · refine .inr fun L a1 w1 n' h K hK => ?_
          have q0 := h.inv.1 (n'.later (by kernel_rfl))
          obtain ⟨A1, c1, e1, hb1, _⟩ := q0.d (n'.dep (by kernel_rfl))
          refine st_arr 26 (.tmp 31) rfl 16 5 Try.underlying26 A1 16 c1 e1 (Nat.le_refl _) ?_
          exact hK _ _ trivial ⟨fun h5 => ⟨fun h1 => q0.a h1, fun h1 => q0.b h1, fun h1 => q0.c h1, fun h1 => q0.d h1, fun _ => ⟨A1, rfl, hb1⟩⟩, h.inv.2⟩
        · refine .inl ⟨by kernel_rfl, fun L a1 w1 n' h => ⟨_, rfl, ?_⟩⟩
          obtain ⟨A1, e1, hb1⟩ := (h.inv.1 (n'.later (by kernel_rfl))).e (n'.dep (by kernel_rfl))
          obtain ⟨b1, o1, rfl, _, _⟩ := hb1.2 (by decide)
          exact run_loadC 26 (.tmp 32) b1 o1 (bv (lowB (x0 : Int) 8 ++ lowB (x1 : Int) 8)) _ rfl e1 (bs_cells hb1) Try.underlying26 rfl (size16 (by simp [lowB_length]))
        · refine .inr fun L a1 w1 n' h K hK => ?_
          have no : L.getD 10 false = false := n'.not_yet
          refine st_store_row 26 (.tmp 2) (.tmp 33) g2 26 (bv (List.replicate 16 0)) (bv (lowB (x0 : Int) 8 ++ lowB (x1 : Int) 8)) rfl (h.var n' 2 (by kernel_rfl)) (h.dep n' 9 33 (by kernel_rfl) rfl) (h.inv.2.1 no) (size16 (by simp [lowB_length])) (by simp [bv_len, lowB_length]) (bv_one _) ?_
          intro w3 r3 o3
          exact hK undef w3 trivial ⟨fun h5 => absurd (show true = false from h5) (by decide), h.inv.2.store (us := []) o3 r3 rfl⟩
      case he =>
        intro V w6 hV hJ
        have r6 := hJ.2.2.1 rfl
        have by6 := hJ.2.2.2
        clear hV hJ
        simp only [putOps, List.setIfInBounds_toArray, List.set_cons_succ, List.set_cons_zero]
        refine hK2 _ _ ?_
        go_wp2
        rw [HXY.out] at r6
        have sx := bx.size
        refine bodyPost_ret (v := .agg (bv (lowB ((red E + S : Nat) : Int) 16)).toArray) ?_ rfl ⟨by rw [hEnd.out], ?_⟩
        · exact results_cell_row Try.results16 _ _ g2 26 _ (0, 0) _ rfl r6 Try.underlying26 rfl (by simpa using size16 (lowB_length _ _))
        · exact (BS.trans (bx.below hg3 BS.size)).trans (by6.below hg2 (by omega))
end Go.Proofs.Ytcinhofapkddpaa

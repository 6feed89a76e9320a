/-
  The law ZsetPlaces. Own work.
-/
import Derived.Test.YtfklfgaomcbchaaZsetZa
namespace Go.Proofs.Ytfklfgaomcbchaa
open Go.RowKit Go.Shelf
set_option linter.unusedVariables false
set_option linter.unusedSimpArgs false
def SPlA (g10 gx ln cx i : Nat) (am : Nm) (as' : Int) (opn : Nat) (v : Value) : Prop :=
  match opn with
  | 0 | 1 | 10 => v = .bool true
  | 2 | 6 => v = .agg ([encStr am, .int .i64 as']).toArray
  | 3 => v = .slice (some ⟨gx, 0, none⟩) ln cx
  | 4 => v = .int .i64 (i : Int)
  | 5 => v = .pointer (some ⟨gx, 0 + i * 2, none⟩)
  | 7 | 8 | 9 | 11 | 12 | 16 | 17 => v = .bool false
  | 13 | 14 | 15 => v = undef
  | _ => True

def SPlB (g10 : Nat) (opn : Nat) (v : Value) : Prop :=
  match opn with
  | 0 | 1 | 8 | 9 | 10 | 15 | 16 | 17 => v = .bool false
  | 2 | 3 | 4 | 5 | 6 | 7 => v = undef
  | 11 | 12 => v = .bool true
  | 13 | 14 => v = .agg ([encStr [], .int .i64 0]).toArray
  | _ => True

set_option maxRecDepth 100000 in
set_option maxHeartbeats 2000000 in
theorem zsetPlaces_any (w : World) (A : Option Addr) (n c : Nat) (f : Nat → ZA) (x y : Int) (h : ZActs w w.heap.size A n f) : Calls Try.prog 4 #[.slice A n c, .int .i64 x, .int .i64 y] w fun e w' => e = .returned (.bool true) ∧ Below w.heap.size w w' := by
  have HF := few_any w A n c f w.heap.size h
  have HA := awake_any
  go_enter Try.func4, Try.ntmps4
  go_wp2_with fail
  refine HF.mono ?_
  rintro e w1 ⟨⟨b, rfl, hb⟩, rfl⟩
  clear HF
  cases b with
  | false =>
    clear hb
    go_wp2_with fail
    refine (HA w).mono ?_
    rintro e w2 ⟨rfl, b2⟩
    go_wp2_with fail
    go_ret
    exact ⟨rfl, b2⟩
  | true =>
    have hfew := hb rfl
    clear hb
    go_wp2_with fail
    refine (lmade_any w A n c f h hfew).mono ?_
    rintro e w2 ⟨gz, mb, hd, Ls, v, rfl, hz, own, hll, hnm, hfold, B2⟩
    have hwb := B2.size
    have hLs : Ls.length ≤ 120 := Nat.le_trans hll hfew.1
    have hsl : (scs Ls).length = Ls.length := by simp
    clear hfold hfew
    have hs2 := own_scv own
    obtain ⟨Ax, cx, rfl⟩ := hs2.sl
    rw [hsl] at hs2 ⊢
    go_wp2_with fail
    have fin : ∀ w9, Below w2.heap.size w2 w9 → Calls Try.prog 13 #[ptr gz, .int .i64 x, .int .i64 y] w9 fun e w' => ∃ v, e = .returned v ∧ OwnS w' w9.heap.size v (rng (scs Ls) x y) ∧ Below w9.heap.size w9 w' := by
      intro w9 b9
      have := range_any w9 w.heap.size gz mb hd Ls x y (hz.later b9) (by omega)
      rw [← hsl] at this
      exact this
    have fin2 : ∀ w9, Below w2.heap.size w2 w9 → Calls Try.prog 18 #[.slice Ax Ls.length cx, .int .i64 x, .int .i64 y] w9 fun e w' => ∃ v, e = .returned v ∧ OwnS w' w9.heap.size v (rng (scs Ls) x y) ∧ Below w9.heap.size w9 w' :=
      fun w9 b9 => rrange_any w9 _ (scs Ls) x y (hs2.later b9) (by omega)
    have hle : (rng (scs Ls) x y).length ≤ 1000001 := by unfold rng; rw [List.length_take, List.length_drop]; omega
    by_cases hin : 0 ≤ x ∧ x < (Ls.length : Int)
    · obtain ⟨h1, h2⟩ := hin
      obtain ⟨i, rfl⟩ : ∃ i : Nat, x = (i : Int) := ⟨x.toNat, by omega⟩
      have hlt := hide (show i < Ls.length by omega)
      obtain ⟨a, ha⟩ : ∃ a, (scs Ls)[i]? = some a := ⟨_, List.getElem?_eq_getElem (by rw [hsl]; exact hlt.out)⟩
      obtain ⟨gx, cap, e, hg, x0, x1, hc⟩ := hs2.at ha
      injection e with q1 q2 q3
      subst q1
      subst q3
      clear q2 x0 x1 hc own
      have hac : ∀ w1, Below w2.heap.size w2 w1 → ∀ j u, a.cells[j]? = some u → w1.cell? ⟨gx, (0 + i * 2) + j, none⟩ = some u := by
        intro w1 hb1 j u hj
        obtain ⟨g, cc, e, _, _, _, hc⟩ := (hs2.later hb1).at ha
        injection e with q1 q2 q3
        injection q1 with q1
        injection q1 with q1
        subst q1
        rw [Nat.zero_add]; exact hc j u hj
      refine (at_yes w2 w.heap.size gz mb hd Ls i a hz (by omega) ha).mono ?_
      rintro e w3 ⟨rfl, b3⟩
      obtain ⟨am, as'⟩ := a
      clear ha
      go_wp2_with (first
        | (with_reducible refine wl_alloc (o := ⟨some 10, _, _, _, _, _⟩) rfl 35 _ [encStr [], .int .i64 0] rfl rfl rfl ?_; intro g10 w4 r4 p4 l4 b4)
        | (with_reducible refine wl_store_row rfl 35 (.tmp 10) (.tmp 26) g10 35 _ [encStr am, .int .i64 as'] rfl rfl rfl r4 (szSc ⟨am, as'⟩) rfl (by simp [Value.oneCell', encStr]) ?_; intro w5 r10 o5; have b5 : Below w2.heap.size w2 w5 := b3.trans ((b4.trans (o5.below p4)).mono b3.size)))
      have hac5 := fun w1 (hb1 : Below w5.heap.size w5 w1) => hac w1 (b5.trans (hb1.mono b5.size))
      replace hac := hac5
      have hz2 := b5.size
      clear hac5 b3 b4 o5 r4 p4 l4
      rename_i K7 hK7
      refine wp_region_valsS [] (SPlA g10 gx Ls.length cx i am as') (fun _ _ wz => Below w5.heap.size w5 wz) (by kernel_rfl) (by kernel_rfl) (by kernel_rfl) (by kernel_rfl) ((Below.refl _ _).drew) ?obs7 ?he7
      case obs7 =>
        refine ⟨?_, ?_, ?_, ?_, ?_, ?_, ?_, ?_, ?_, ?_, ?_, ?_, ?_, ?_, ?_, ?_, ?_, ?_, trivial⟩
        · refine .inl ⟨.inl rfl, ?_⟩
          exact .inl ⟨by kernel_rfl, fun L a1 w1 n h => ⟨_, rfl, run_move (.tmp 11) rfl (h.var n 11 (by kernel_rfl))⟩⟩
        · refine .inl ⟨.inl rfl, ?_⟩
          exact .inl ⟨by kernel_rfl, fun L a1 w1 n h => ⟨_, rfl, run_move (.tmp 42) rfl (h.dep n 0 42 (by kernel_rfl) rfl)⟩⟩
        · refine .inl ⟨.inr ⟨1, true, 43, rfl, by kernel_rfl, rfl, by simp, fun v h => h⟩, ?_⟩
          exact .inl ⟨by kernel_rfl, fun L a1 w1 n h => ⟨_, rfl, run_loadRow 35 (.tmp 10) g10 35 _ _ rfl (h.var n 10 (by kernel_rfl)) (Row.later r10 h.inv) Try.underlying35 rfl (szSc ⟨am, as'⟩)⟩⟩
        · refine .inl ⟨.inr ⟨1, true, 43, rfl, by kernel_rfl, rfl, by simp, fun v h => h⟩, ?_⟩
          exact .inl ⟨by kernel_rfl, fun L a1 w1 n h => ⟨_, rfl, run_move (.tmp 8) rfl (h.var n 8 (by kernel_rfl))⟩⟩
        · refine .inl ⟨.inr ⟨1, true, 43, rfl, by kernel_rfl, rfl, by simp, fun v h => h⟩, ?_⟩
          exact .inl ⟨by kernel_rfl, fun L a1 w1 n h => ⟨_, rfl, run_move (.tmp 1) rfl (h.var n 1 (by kernel_rfl))⟩⟩
        · refine .inl ⟨.inr ⟨1, true, 43, rfl, by kernel_rfl, rfl, by simp, fun v h => h⟩, ?_⟩
          exact .inl ⟨by kernel_rfl, fun L a1 w1 n h => ⟨_, rfl, run_indexSlN 26 (.tmp 45) (.tmp 46) 35 2 gx 0 Ls.length cx i rfl Try.underlying26 Try.sizeOf35 (h.dep n 3 45 (by kernel_rfl) rfl) (h.dep n 4 46 (by kernel_rfl) rfl) hlt.out⟩⟩
        · refine .inl ⟨.inr ⟨1, true, 43, rfl, by kernel_rfl, rfl, by simp, fun v h => h⟩, ?_⟩
          exact .inl ⟨by kernel_rfl, fun L a1 w1 n h => ⟨_, rfl, run_loadCs 35 (.tmp 47) gx (0 + i * 2) [encStr am, .int .i64 as'] _ rfl (h.dep n 5 47 (by kernel_rfl) rfl) (hac w1 h.inv) Try.underlying35 rfl (szSc ⟨am, as'⟩)⟩⟩
        · refine .inl ⟨.inr ⟨1, true, 43, rfl, by kernel_rfl, rfl, by simp, fun v h => h⟩, ?_⟩
          exact .inl ⟨by kernel_rfl, fun L a1 w1 n h => ⟨_, rfl, run_neqS (.tmp 44) (.tmp 48) rfl (fun w => by rw [show (!false) = decide ((⟨am, as'⟩ : Sc) = ⟨am, as'⟩) by simp]; exact eqScore ⟨am, as'⟩ ⟨am, as'⟩ w) (h.dep n 2 44 (by kernel_rfl) rfl) (h.dep n 6 48 (by kernel_rfl) rfl) (by kernel_rfl)⟩⟩
        · refine .inl ⟨.inl rfl, ?_⟩
          exact .inl ⟨by kernel_rfl, fun L a1 w1 n h => ⟨_, rfl, run_pickT (.tmp 43) _ _ rfl (h.dep n 1 43 (by kernel_rfl) rfl) (h.dep n 7 49 (by kernel_rfl) rfl)⟩⟩
        · refine .inl ⟨.inl rfl, ?_⟩
          exact .inl ⟨by kernel_rfl, fun L a1 w1 n h => ⟨_, rfl, run_move (.tmp 50) rfl (h.dep n 8 50 (by kernel_rfl) rfl)⟩⟩
        · refine .inl ⟨.inr ⟨9, false, 51, rfl, by kernel_rfl, rfl, by simp, fun v h => h⟩, ?_⟩
          exact .inl ⟨by kernel_rfl, fun L a1 w1 n h => ⟨_, rfl, run_move (.tmp 11) rfl (h.var n 11 (by kernel_rfl))⟩⟩
        · refine .inl ⟨.inr ⟨9, false, 51, rfl, by kernel_rfl, rfl, by simp, fun v h => h⟩, ?_⟩
          exact .inl ⟨by kernel_rfl, fun L a1 w1 n h => ⟨_, rfl, run_notB (.tmp 52) true rfl (h.dep n 10 52 (by kernel_rfl) rfl) rfl⟩⟩
        · refine .inl ⟨.inr ⟨9, false, 51, rfl, by kernel_rfl, rfl, by simp, fun v h => h⟩, ?_⟩
          exact .inl ⟨by kernel_rfl, fun L a1 w1 n h => ⟨_, rfl, run_move (.tmp 53) rfl (h.dep n 11 53 (by kernel_rfl) rfl)⟩⟩
        · exact .inr ⟨⟨12, true, 54, rfl, by kernel_rfl, rfl, by simp, fun v h => by rw [show v = .bool false from h]; first | exact ne_tf | exact ne_ft | exact ne_undef _⟩, by kernel_rfl, rfl⟩
        · exact .inr ⟨⟨12, true, 54, rfl, by kernel_rfl, rfl, by simp, fun v h => by rw [show v = .bool false from h]; first | exact ne_tf | exact ne_ft | exact ne_undef _⟩, by kernel_rfl, rfl⟩
        · exact .inr ⟨⟨12, true, 54, rfl, by kernel_rfl, rfl, by simp, fun v h => by rw [show v = .bool false from h]; first | exact ne_tf | exact ne_ft | exact ne_undef _⟩, by kernel_rfl, rfl⟩
        · refine .inl ⟨.inr ⟨9, false, 51, rfl, by kernel_rfl, rfl, by simp, fun v h => h⟩, ?_⟩
          exact .inl ⟨by kernel_rfl, fun L a1 w1 n h => ⟨_, rfl, run_pickF (.tmp 54) _ _ rfl (h.dep n 12 54 (by kernel_rfl) rfl) rfl⟩⟩
        · refine .inl ⟨.inl rfl, ?_⟩
          exact .inl ⟨by kernel_rfl, fun L a1 w1 n h => ⟨_, rfl, run_pickF (.tmp 51) _ _ rfl (h.dep n 9 51 (by kernel_rfl) rfl) (h.dep n 16 58 (by kernel_rfl) rfl)⟩⟩
      case he7 =>
        intro V w11 hV hJ
        have b11 : Below w5.heap.size w5 w11 := hJ
        have hE : V 17 = .bool false := hV 17 _ rfl
        clear hV hJ
        simp only [putOps, List.setIfInBounds_toArray, List.set_cons_succ, List.set_cons_zero, Nat.reduceAdd]
        rw [hE]
        refine hK7 _ _ ?_
        have b12 := b5.trans (b11.mono hz2)
        have hz12 := b12.size
        go_wp2_with fail
        refine (fin w11 b12).mono ?_
        rintro e w13 ⟨v13, rfl, own13, b13⟩
        have c13 := b12.trans (b13.mono hz12)
        have hz13 := c13.size
        go_wp2_with fail
        refine (fin2 w13 c13).mono ?_
        rintro e w14 ⟨v14, rfl, own14, b14⟩
        have own13' := own_later own13 b14
        have c14 := c13.trans (b14.mono hz13)
        have hz14 := c14.size
        go_wp2_with fail
        refine (rsame_any w14 v13 v14 _ _ (own_scv own13') (own_scv own14) hle hle).mono ?_
        rintro e w15 ⟨rfl, b15⟩
        have c15 := c14.trans (b15.mono hz14)
        have hz15 := c15.size
        rw [show decide (rng (scs Ls) (i : Int) y = rng (scs Ls) (i : Int) y) = true from decide_eq_true rfl]
        go_wp2_with fail
        refine (HA w15).mono ?_
        rintro e w16 ⟨rfl, b16⟩
        go_wp2_with fail
        go_ret
        exact ⟨rfl, B2.trans ((c15.trans (b16.mono hz15)).mono hwb)⟩
    · have hor : x < 0 ∨ (Ls.length : Int) ≤ x := by omega
      refine (at_no w2 w.heap.size gz mb hd Ls x hz hor).mono ?_
      rintro e w3 ⟨rfl, b3⟩
      by_cases h1 : 0 ≤ x
      · have h2 : ¬ x < (Ls.length : Int) := by omega
        go_wp2_with (first
          | (with_reducible refine wl_alloc (o := ⟨some 10, _, _, _, _, _⟩) rfl 35 _ [encStr [], .int .i64 0] rfl rfl rfl ?_; intro g10 w4 r4 p4 l4 b4)
          | (with_reducible refine wl_store_row rfl 35 (.tmp 10) (.tmp 26) g10 35 _ [encStr [], .int .i64 0] rfl rfl rfl r4 szSc0 rfl (by simp [Value.oneCell', encStr]) ?_; intro w5 r10 o5; have b5 : Below w2.heap.size w2 w5 := b3.trans ((b4.trans (o5.below p4)).mono b3.size)))
        have hz2 := b5.size
        clear b3 b4 o5 r4 p4 l4
        rename_i K7 hK7
        refine wp_region_valsS [] (SPlB g10) (fun _ _ wz => Below w5.heap.size w5 wz) (by kernel_rfl) (by kernel_rfl) (by kernel_rfl) (by kernel_rfl) ((Below.refl _ _).drew) ?obs8 ?he8
        case obs8 =>
          refine ⟨?_, ?_, ?_, ?_, ?_, ?_, ?_, ?_, ?_, ?_, ?_, ?_, ?_, ?_, ?_, ?_, ?_, ?_, trivial⟩
          · refine .inl ⟨.inl rfl, ?_⟩
            exact .inl ⟨by kernel_rfl, fun L a1 w1 n h => ⟨_, rfl, run_move (.tmp 11) rfl (h.var n 11 (by kernel_rfl))⟩⟩
          · refine .inl ⟨.inl rfl, ?_⟩
            exact .inl ⟨by kernel_rfl, fun L a1 w1 n h => ⟨_, rfl, run_move (.tmp 42) rfl (h.dep n 0 42 (by kernel_rfl) rfl)⟩⟩
          · exact .inr ⟨⟨1, true, 43, rfl, by kernel_rfl, rfl, by simp, fun v h => by rw [show v = .bool false from h]; first | exact ne_tf | exact ne_ft | exact ne_undef _⟩, by kernel_rfl, rfl⟩
          · exact .inr ⟨⟨1, true, 43, rfl, by kernel_rfl, rfl, by simp, fun v h => by rw [show v = .bool false from h]; first | exact ne_tf | exact ne_ft | exact ne_undef _⟩, by kernel_rfl, rfl⟩
          · exact .inr ⟨⟨1, true, 43, rfl, by kernel_rfl, rfl, by simp, fun v h => by rw [show v = .bool false from h]; first | exact ne_tf | exact ne_ft | exact ne_undef _⟩, by kernel_rfl, rfl⟩
          · exact .inr ⟨⟨1, true, 43, rfl, by kernel_rfl, rfl, by simp, fun v h => by rw [show v = .bool false from h]; first | exact ne_tf | exact ne_ft | exact ne_undef _⟩, by kernel_rfl, rfl⟩
          · exact .inr ⟨⟨1, true, 43, rfl, by kernel_rfl, rfl, by simp, fun v h => by rw [show v = .bool false from h]; first | exact ne_tf | exact ne_ft | exact ne_undef _⟩, by kernel_rfl, rfl⟩
          · exact .inr ⟨⟨1, true, 43, rfl, by kernel_rfl, rfl, by simp, fun v h => by rw [show v = .bool false from h]; first | exact ne_tf | exact ne_ft | exact ne_undef _⟩, by kernel_rfl, rfl⟩
          · refine .inl ⟨.inl rfl, ?_⟩
            exact .inl ⟨by kernel_rfl, fun L a1 w1 n h => ⟨_, rfl, run_pickF (.tmp 43) _ _ rfl (h.dep n 1 43 (by kernel_rfl) rfl) rfl⟩⟩
          · refine .inl ⟨.inl rfl, ?_⟩
            exact .inl ⟨by kernel_rfl, fun L a1 w1 n h => ⟨_, rfl, run_move (.tmp 50) rfl (h.dep n 8 50 (by kernel_rfl) rfl)⟩⟩
          · refine .inl ⟨.inr ⟨9, false, 51, rfl, by kernel_rfl, rfl, by simp, fun v h => h⟩, ?_⟩
            exact .inl ⟨by kernel_rfl, fun L a1 w1 n h => ⟨_, rfl, run_move (.tmp 11) rfl (h.var n 11 (by kernel_rfl))⟩⟩
          · refine .inl ⟨.inr ⟨9, false, 51, rfl, by kernel_rfl, rfl, by simp, fun v h => h⟩, ?_⟩
            exact .inl ⟨by kernel_rfl, fun L a1 w1 n h => ⟨_, rfl, run_notB (.tmp 52) false rfl (h.dep n 10 52 (by kernel_rfl) rfl) rfl⟩⟩
          · refine .inl ⟨.inr ⟨9, false, 51, rfl, by kernel_rfl, rfl, by simp, fun v h => h⟩, ?_⟩
            exact .inl ⟨by kernel_rfl, fun L a1 w1 n h => ⟨_, rfl, run_move (.tmp 53) rfl (h.dep n 11 53 (by kernel_rfl) rfl)⟩⟩
          · refine .inl ⟨.inr ⟨12, true, 54, rfl, by kernel_rfl, rfl, by simp, fun v h => h⟩, ?_⟩
            exact .inl ⟨by kernel_rfl, fun L a1 w1 n h => ⟨_, rfl, run_loadRow 35 (.tmp 10) g10 35 _ _ rfl (h.var n 10 (by kernel_rfl)) (Row.later r10 h.inv) Try.underlying35 rfl (szSc0)⟩⟩
          · refine .inl ⟨.inr ⟨12, true, 54, rfl, by kernel_rfl, rfl, by simp, fun v h => h⟩, ?_⟩
            exact .inl ⟨by kernel_rfl, fun L a1 w1 n h => ⟨_, rfl, run_buildX 35 [] rfl [] rfl [encStr [], .int .i64 0] builtSc0⟩⟩
          · refine .inl ⟨.inr ⟨12, true, 54, rfl, by kernel_rfl, rfl, by simp, fun v h => h⟩, ?_⟩
            exact .inl ⟨by kernel_rfl, fun L a1 w1 n h => ⟨_, rfl, run_neqS (.tmp 55) (.tmp 56) rfl (fun w => by rw [show (!false) = decide ((⟨[], 0⟩ : Sc) = ⟨[], 0⟩) by simp]; exact eqScore ⟨[], 0⟩ ⟨[], 0⟩ w) (h.dep n 13 55 (by kernel_rfl) rfl) (h.dep n 14 56 (by kernel_rfl) rfl) (by kernel_rfl)⟩⟩
          · refine .inl ⟨.inr ⟨9, false, 51, rfl, by kernel_rfl, rfl, by simp, fun v h => h⟩, ?_⟩
            exact .inl ⟨by kernel_rfl, fun L a1 w1 n h => ⟨_, rfl, run_pickT (.tmp 54) _ _ rfl (h.dep n 12 54 (by kernel_rfl) rfl) (h.dep n 15 57 (by kernel_rfl) rfl)⟩⟩
          · refine .inl ⟨.inl rfl, ?_⟩
            exact .inl ⟨by kernel_rfl, fun L a1 w1 n h => ⟨_, rfl, run_pickF (.tmp 51) _ _ rfl (h.dep n 9 51 (by kernel_rfl) rfl) (h.dep n 16 58 (by kernel_rfl) rfl)⟩⟩
        case he8 =>
          intro V w11 hV hJ
          have b11 : Below w5.heap.size w5 w11 := hJ
          have hE : V 17 = .bool false := hV 17 _ rfl
          clear hV hJ
          simp only [putOps, List.setIfInBounds_toArray, List.set_cons_succ, List.set_cons_zero, Nat.reduceAdd]
          rw [hE]
          refine hK7 _ _ ?_
          have b12 := b5.trans (b11.mono hz2)
          have hz12 := b12.size
          go_wp2_with fail
          refine (fin w11 b12).mono ?_
          rintro e w13 ⟨v13, rfl, own13, b13⟩
          have c13 := b12.trans (b13.mono hz12)
          have hz13 := c13.size
          go_wp2_with fail
          refine (fin2 w13 c13).mono ?_
          rintro e w14 ⟨v14, rfl, own14, b14⟩
          have own13' := own_later own13 b14
          have c14 := c13.trans (b14.mono hz13)
          have hz14 := c14.size
          go_wp2_with fail
          refine (rsame_any w14 v13 v14 _ _ (own_scv own13') (own_scv own14) hle hle).mono ?_
          rintro e w15 ⟨rfl, b15⟩
          have c15 := c14.trans (b15.mono hz14)
          have hz15 := c15.size
          rw [show decide (rng (scs Ls) x y = rng (scs Ls) x y) = true from decide_eq_true rfl]
          go_wp2_with fail
          refine (HA w15).mono ?_
          rintro e w16 ⟨rfl, b16⟩
          go_wp2_with fail
          go_ret
          exact ⟨rfl, B2.trans ((c15.trans (b16.mono hz15)).mono hwb)⟩
      · have h1b : ¬ 0 ≤ x := h1
        go_wp2_with (first
          | (with_reducible refine wl_alloc (o := ⟨some 10, _, _, _, _, _⟩) rfl 35 _ [encStr [], .int .i64 0] rfl rfl rfl ?_; intro g10 w4 r4 p4 l4 b4)
          | (with_reducible refine wl_store_row rfl 35 (.tmp 10) (.tmp 26) g10 35 _ [encStr [], .int .i64 0] rfl rfl rfl r4 szSc0 rfl (by simp [Value.oneCell', encStr]) ?_; intro w5 r10 o5; have b5 : Below w2.heap.size w2 w5 := b3.trans ((b4.trans (o5.below p4)).mono b3.size)))
        have hz2 := b5.size
        clear b3 b4 o5 r4 p4 l4
        rename_i K7 hK7 hx7
        refine wp_region_valsS [] (SPlB g10) (fun _ _ wz => Below w5.heap.size w5 wz) (by kernel_rfl) (by kernel_rfl) (by kernel_rfl) (by kernel_rfl) ((Below.refl _ _).drew) ?obs8 ?he8
        case obs8 =>
          refine ⟨?_, ?_, ?_, ?_, ?_, ?_, ?_, ?_, ?_, ?_, ?_, ?_, ?_, ?_, ?_, ?_, ?_, ?_, trivial⟩
          · refine .inl ⟨.inl rfl, ?_⟩
            exact .inl ⟨by kernel_rfl, fun L a1 w1 n h => ⟨_, rfl, run_move (.tmp 11) rfl (h.var n 11 (by kernel_rfl))⟩⟩
          · refine .inl ⟨.inl rfl, ?_⟩
            exact .inl ⟨by kernel_rfl, fun L a1 w1 n h => ⟨_, rfl, run_move (.tmp 42) rfl (h.dep n 0 42 (by kernel_rfl) rfl)⟩⟩
          · exact .inr ⟨⟨1, true, 43, rfl, by kernel_rfl, rfl, by simp, fun v h => by rw [show v = .bool false from h]; first | exact ne_tf | exact ne_ft | exact ne_undef _⟩, by kernel_rfl, rfl⟩
          · exact .inr ⟨⟨1, true, 43, rfl, by kernel_rfl, rfl, by simp, fun v h => by rw [show v = .bool false from h]; first | exact ne_tf | exact ne_ft | exact ne_undef _⟩, by kernel_rfl, rfl⟩
          · exact .inr ⟨⟨1, true, 43, rfl, by kernel_rfl, rfl, by simp, fun v h => by rw [show v = .bool false from h]; first | exact ne_tf | exact ne_ft | exact ne_undef _⟩, by kernel_rfl, rfl⟩
          · exact .inr ⟨⟨1, true, 43, rfl, by kernel_rfl, rfl, by simp, fun v h => by rw [show v = .bool false from h]; first | exact ne_tf | exact ne_ft | exact ne_undef _⟩, by kernel_rfl, rfl⟩
          · exact .inr ⟨⟨1, true, 43, rfl, by kernel_rfl, rfl, by simp, fun v h => by rw [show v = .bool false from h]; first | exact ne_tf | exact ne_ft | exact ne_undef _⟩, by kernel_rfl, rfl⟩
          · exact .inr ⟨⟨1, true, 43, rfl, by kernel_rfl, rfl, by simp, fun v h => by rw [show v = .bool false from h]; first | exact ne_tf | exact ne_ft | exact ne_undef _⟩, by kernel_rfl, rfl⟩
          · refine .inl ⟨.inl rfl, ?_⟩
            exact .inl ⟨by kernel_rfl, fun L a1 w1 n h => ⟨_, rfl, run_pickF (.tmp 43) _ _ rfl (h.dep n 1 43 (by kernel_rfl) rfl) rfl⟩⟩
          · refine .inl ⟨.inl rfl, ?_⟩
            exact .inl ⟨by kernel_rfl, fun L a1 w1 n h => ⟨_, rfl, run_move (.tmp 50) rfl (h.dep n 8 50 (by kernel_rfl) rfl)⟩⟩
          · refine .inl ⟨.inr ⟨9, false, 51, rfl, by kernel_rfl, rfl, by simp, fun v h => h⟩, ?_⟩
            exact .inl ⟨by kernel_rfl, fun L a1 w1 n h => ⟨_, rfl, run_move (.tmp 11) rfl (h.var n 11 (by kernel_rfl))⟩⟩
          · refine .inl ⟨.inr ⟨9, false, 51, rfl, by kernel_rfl, rfl, by simp, fun v h => h⟩, ?_⟩
            exact .inl ⟨by kernel_rfl, fun L a1 w1 n h => ⟨_, rfl, run_notB (.tmp 52) false rfl (h.dep n 10 52 (by kernel_rfl) rfl) rfl⟩⟩
          · refine .inl ⟨.inr ⟨9, false, 51, rfl, by kernel_rfl, rfl, by simp, fun v h => h⟩, ?_⟩
            exact .inl ⟨by kernel_rfl, fun L a1 w1 n h => ⟨_, rfl, run_move (.tmp 53) rfl (h.dep n 11 53 (by kernel_rfl) rfl)⟩⟩
          · refine .inl ⟨.inr ⟨12, true, 54, rfl, by kernel_rfl, rfl, by simp, fun v h => h⟩, ?_⟩
            exact .inl ⟨by kernel_rfl, fun L a1 w1 n h => ⟨_, rfl, run_loadRow 35 (.tmp 10) g10 35 _ _ rfl (h.var n 10 (by kernel_rfl)) (Row.later r10 h.inv) Try.underlying35 rfl (szSc0)⟩⟩
          · refine .inl ⟨.inr ⟨12, true, 54, rfl, by kernel_rfl, rfl, by simp, fun v h => h⟩, ?_⟩
            exact .inl ⟨by kernel_rfl, fun L a1 w1 n h => ⟨_, rfl, run_buildX 35 [] rfl [] rfl [encStr [], .int .i64 0] builtSc0⟩⟩
          · refine .inl ⟨.inr ⟨12, true, 54, rfl, by kernel_rfl, rfl, by simp, fun v h => h⟩, ?_⟩
            exact .inl ⟨by kernel_rfl, fun L a1 w1 n h => ⟨_, rfl, run_neqS (.tmp 55) (.tmp 56) rfl (fun w => by rw [show (!false) = decide ((⟨[], 0⟩ : Sc) = ⟨[], 0⟩) by simp]; exact eqScore ⟨[], 0⟩ ⟨[], 0⟩ w) (h.dep n 13 55 (by kernel_rfl) rfl) (h.dep n 14 56 (by kernel_rfl) rfl) (by kernel_rfl)⟩⟩
          · refine .inl ⟨.inr ⟨9, false, 51, rfl, by kernel_rfl, rfl, by simp, fun v h => h⟩, ?_⟩
            exact .inl ⟨by kernel_rfl, fun L a1 w1 n h => ⟨_, rfl, run_pickT (.tmp 54) _ _ rfl (h.dep n 12 54 (by kernel_rfl) rfl) (h.dep n 15 57 (by kernel_rfl) rfl)⟩⟩
          · refine .inl ⟨.inl rfl, ?_⟩
            exact .inl ⟨by kernel_rfl, fun L a1 w1 n h => ⟨_, rfl, run_pickF (.tmp 51) _ _ rfl (h.dep n 9 51 (by kernel_rfl) rfl) (h.dep n 16 58 (by kernel_rfl) rfl)⟩⟩
        case he8 =>
          intro V w11 hV hJ
          have b11 : Below w5.heap.size w5 w11 := hJ
          have hE : V 17 = .bool false := hV 17 _ rfl
          clear hV hJ
          simp only [putOps, List.setIfInBounds_toArray, List.set_cons_succ, List.set_cons_zero, Nat.reduceAdd]
          rw [hE]
          refine hK7 _ _ ?_
          have b12 := b5.trans (b11.mono hz2)
          have hz12 := b12.size
          go_wp2_with fail
          refine (fin w11 b12).mono ?_
          rintro e w13 ⟨v13, rfl, own13, b13⟩
          have c13 := b12.trans (b13.mono hz12)
          have hz13 := c13.size
          go_wp2_with fail
          refine (fin2 w13 c13).mono ?_
          rintro e w14 ⟨v14, rfl, own14, b14⟩
          have own13' := own_later own13 b14
          have c14 := c13.trans (b14.mono hz13)
          have hz14 := c14.size
          go_wp2_with fail
          refine (rsame_any w14 v13 v14 _ _ (own_scv own13') (own_scv own14) hle hle).mono ?_
          rintro e w15 ⟨rfl, b15⟩
          have c15 := c14.trans (b15.mono hz14)
          have hz15 := c15.size
          rw [show decide (rng (scs Ls) x y = rng (scs Ls) x y) = true from decide_eq_true rfl]
          go_wp2_with fail
          refine (HA w15).mono ?_
          rintro e w16 ⟨rfl, b16⟩
          go_wp2_with fail
          go_ret
          exact ⟨rfl, B2.trans ((c15.trans (b16.mono hz15)).mono hwb)⟩
end Go.Proofs.Ytfklfgaomcbchaa

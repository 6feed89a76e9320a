/-
  Two numbers added; the law PolyShift: contracts. Own work.
-/
import Derived.Test.YtcinhofapkddpaaPolySum
namespace Go.Proofs.Ytcinhofapkddpaa
open Go.RowKit
set_option linter.unusedVariables false
set_option linter.unusedSimpArgs false
def HasD (w : World) (v : Value) (X : Nat) : Prop := ∃ g, v = .slice (some ⟨g, 0, none⟩) 40 40 ∧ DR w g (dg X)
theorem HasD.later {w w' : World} {v : Value} {X : Nat} (h : HasD w v X) (hb : Below w.heap.size w w') : HasD w' v X := by
  obtain ⟨g, e, h1⟩ := h
  exact ⟨g, e, Row.later h1 hb⟩
structure Thr (X Y : Nat) (bs : List Bool) (vs : List Value) (w : World) : Prop where
  a : bs.getD 0 false = true → HasD w (vs.getD 0 undef) X
  b : bs.getD 1 false = true → HasD w (vs.getD 1 undef) Y
  c : bs.getD 2 false = true → HasD w (vs.getD 2 undef) (X + Y)
theorem Thr.later {X Y : Nat} {bs : List Bool} {vs : List Value} {w w' : World} (h : Thr X Y bs vs w) (hb : Below w.heap.size w w') : Thr X Y bs vs w' :=
  ⟨fun h1 => (h.a h1).later hb, fun h1 => (h.b h1).later hb, fun h1 => (h.c h1).later hb⟩
def JAd (g T : Nat) (w0 : World) (X Y : Nat) (cur new : List Value) (bs : List Bool) (vs : List Value) (w : World) : Prop :=
  (bs.getD 4 false = false → Thr X Y bs vs w) ∧ JB g T w0 4 cur new bs [] w
def SAd (g2 g3 g4 X Y : Nat) (AL : List Int) (opn : Nat) (v : Value) : Prop :=
  match opn with
  | 0 => v = .slice (some ⟨g2, 0, none⟩) 16 16
  | 2 => v = .slice (some ⟨g3, 0, none⟩) 16 16
  | 5 => v = .agg (bv AL).toArray
  | _ => True

theorem addL_eq (xs ys : List Int) : addL xs ys = lowB ((leN xs + leN ys : Nat) : Int) 16 := rfl
set_option maxRecDepth 100000 in
set_option maxHeartbeats 600000 in
theorem radd_any (xs ys : List Int) (w : World) (lx : xs.length = 16) (ly : ys.length = 16) (bx : IsBy xs) (by' : IsBy ys) :
    Calls Try.prog 17 #[.agg (bv xs).toArray, .agg (bv ys).toArray] w fun e w' => e = .returned (.agg (bv (addL xs ys)).toArray) ∧ Below w.heap.size w w' := by
  have hX : leN xs < 256 ^ 40 := Nat.lt_of_lt_of_le (leN_lt bx) (by rw [lx]; decide +kernel)
  have hY : leN ys < 256 ^ 40 := Nat.lt_of_lt_of_le (leN_lt by') (by rw [ly]; decide +kernel)
  have HX : ∀ g w, Row w 26 g (bv xs) → _ := fun g w h => number_any xs (some ⟨g, 0, none⟩) 16 16 w bx (by have := (Row.toOwn h).bs (B := w.heap.size) h.lt; rwa [lx] at this) (by decide)
  have HY : ∀ g w, Row w 26 g (bv ys) → _ := fun g w h => number_any ys (some ⟨g, 0, none⟩) 16 16 w by' (by have := (Row.toOwn h).bs (B := w.heap.size) h.lt; rwa [ly] at this) (by decide)
  have hal := addL_eq xs ys
  have z16 := size16 (show (addL xs ys).length = 16 from lowB_length _ _)
  have lz : (bv (List.replicate 16 0)).length = (bv (addL xs ys)).length := by rw [bv_len, bv_len, show (addL xs ys).length = 16 from lowB_length _ _, List.length_replicate]
  generalize addL xs ys = AL at *
  generalize leN xs = X at *
  generalize leN ys = Y at *
  have HAL := hide hal
  clear hal
  have hX40 := hX
  have hY40 := hY
  clear hX hY
  go_enter Try.func17, Try.ntmps17
  go_wp2_with (first
    | (with_reducible refine wl_box rfl 26 (.tmp 0) _ (bv xs) rfl rfl rfl ?_; intro g2 w1 r1 p1 l1 b1)
    | (with_reducible refine wl_box rfl 26 (.tmp 1) _ (bv ys) rfl rfl rfl ?_; intro g3 w2 r2 p2 l2 b2)
    | (with_reducible refine wl_alloc rfl 26 _ (bv (List.replicate 16 0)) rfl zero16 rfl ?_; intro g4 w3 r3 p3 l3 b3))
  have s1 := b1.size; have s2 := b2.size; have s3 := b3.size
  have rX := (r1.later b2).later b3
  have rY := r2.later b3
  have hne2 : g2 ≠ g4 := by omega
  have hne3 : g3 ≠ g4 := by omega
  have B3 := (b1.trans (b2.mono s1)).trans (b3.mono (by omega))
  rename_i K1 hK1
  refine wp_region_vals [1, 3, 4, 5, 6] (SAd g2 g3 g4 X Y AL) (JAd g4 26 w3 X Y (bv (List.replicate 16 0)) (bv AL)) (by kernel_rfl) (by kernel_rfl) (by kernel_rfl) (by kernel_rfl) (by kernel_rfl) ⟨fun _ => ⟨fun h => absurd h (by decide), fun h => absurd h (by decide), fun h => absurd h (by decide)⟩, JB.start r3 rfl⟩ ?obs ?he
  case obs =>
    refine ⟨?_, ?_, ?_, ?_, ?_, ?_, ?_, trivial⟩
    · exact .inl ⟨by kernel_rfl, fun L a1 w1 n' h => ⟨_, rfl, run_sliceAll 26 (.tmp 2) 16 5 g2 rfl Try.underlying26 Try.sizeOf5 (h.var n' 2 (by kernel_rfl))⟩⟩
    · refine .inr fun L a1 w1 n' h K hK => ?_
      have e0 : a1.eval (.tmp 5) = .slice (some ⟨g2, 0, none⟩) 16 16 := h.dep n' 0 5 (by kernel_rfl) rfl
      refine st_call 18 _ _ #[.slice (some ⟨g2, 0, none⟩) 16 16] rfl Try.call18 ?_ (HX _ w1 (rX.but h.inv.2.2.2 hne2)) ?_
      · simp only [List.map_toArray, List.map_cons, List.map_nil, e0]
      · rintro e w3 ⟨g9, rfl, p9, hD, b9⟩
        exact ⟨_, rfl, hK _ w3 trivial ⟨(fun h5 => let q := (h.inv.1 (n'.later (by kernel_rfl))).later b9; ⟨fun _ => ⟨g9, rfl, hD⟩, fun h1 => q.b h1, fun h1 => q.c h1⟩), h.inv.2.call (us := []) b9⟩⟩
    · exact .inl ⟨by kernel_rfl, fun L a1 w1 n' h => ⟨_, rfl, run_sliceAll 26 (.tmp 3) 16 5 g3 rfl Try.underlying26 Try.sizeOf5 (h.var n' 3 (by kernel_rfl))⟩⟩
    · refine .inr fun L a1 w1 n' h K hK => ?_
      have e0 : a1.eval (.tmp 7) = .slice (some ⟨g3, 0, none⟩) 16 16 := h.dep n' 2 7 (by kernel_rfl) rfl
      refine st_call 18 _ _ #[.slice (some ⟨g3, 0, none⟩) 16 16] rfl Try.call18 ?_ (HY _ w1 (rY.but h.inv.2.2.2 hne3)) ?_
      · simp only [List.map_toArray, List.map_cons, List.map_nil, e0]
      · rintro e w3 ⟨g9, rfl, p9, hD, b9⟩
        exact ⟨_, rfl, hK _ w3 trivial ⟨(fun h5 => let q := (h.inv.1 (n'.later (by kernel_rfl))).later b9; ⟨fun h1 => q.a h1, fun _ => ⟨g9, rfl, hD⟩, fun h1 => q.c h1⟩), h.inv.2.call (us := []) b9⟩⟩
    · refine .inr fun L a1 w1 n' h K hK => ?_
      have q0 := h.inv.1 (n'.later (by kernel_rfl))
      obtain ⟨ga, ea, ra⟩ := q0.a (n'.dep (by kernel_rfl))
      obtain ⟨gb, eb, rb⟩ := q0.b (n'.dep (by kernel_rfl))
      have e0 : a1.eval (.tmp 6) = _ := ea
      have e1 : a1.eval (.tmp 8) = _ := eb
      refine st_call 22 _ _ #[.slice (some ⟨ga, 0, none⟩) 40 40, .slice (some ⟨gb, 0, none⟩) 40 40] rfl Try.call22 ?_ (rplus_any ga gb (dg X) (dg Y) w1 (dg_len _) (dg_len _) (dg_nn _) (dg_nn _) (fun i h => Int.le_trans (dg_le h) (by decide)) (fun i h => Int.le_trans (dg_le h) (by decide)) ra rb) ?_
      · simp only [List.map_toArray, List.map_cons, List.map_nil, e0, e1]
      · rintro e w3 ⟨g9, rfl, p9, hD, b9⟩
        rw [dg_val hX40, dg_val hY40] at hD
        exact ⟨_, rfl, hK _ w3 trivial ⟨(fun h5 => let q := (h.inv.1 (n'.later (by kernel_rfl))).later b9; ⟨fun h1 => q.a h1, fun h1 => q.b h1, fun _ => ⟨g9, rfl, hD⟩⟩), h.inv.2.call (us := []) b9⟩⟩
    · refine .inr fun L a1 w1 n' h K hK => ?_
      have q0 := h.inv.1 (n'.later (by kernel_rfl))
      obtain ⟨ga, ea, ra⟩ := q0.c (n'.dep (by kernel_rfl))
      have e0 : a1.eval (.tmp 9) = _ := ea
      refine st_call 23 _ _ #[.slice (some ⟨ga, 0, none⟩) 40 40] rfl Try.call23 ?_ (bytes16_any ga (X + Y) w1 ra) ?_
      · simp only [List.map_toArray, List.map_cons, List.map_nil, e0]
      · rintro e w3 ⟨rfl, b9⟩
        rw [← HAL.out]
        exact ⟨_, rfl, hK _ w3 rfl ⟨(fun h5 => let q := (h.inv.1 (n'.later (by kernel_rfl))).later b9; ⟨fun h1 => q.a h1, fun h1 => q.b h1, fun h1 => q.c h1⟩), h.inv.2.call (us := []) b9⟩⟩
    · refine .inr fun L a1 w1 n' h K hK => ?_
      have no : L.getD 6 false = false := n'.not_yet
      refine st_store_row 26 (.tmp 4) (.tmp 10) g4 26 (bv (List.replicate 16 0)) (bv AL) rfl (h.var n' 4 (by kernel_rfl)) (h.dep n' 5 10 (by kernel_rfl) rfl) (h.inv.2.1 no) z16 lz (bv_one _) ?_
      intro w3 r3 o3
      exact hK undef w3 trivial ⟨fun h5 => absurd (show true = false from h5) (by decide), h.inv.2.store (us := []) o3 r3 rfl⟩
  case he =>
    intro V w6 hV hJ
    have r6 := hJ.2.2.1 rfl
    have by6 := hJ.2.2.2
    clear hV hJ
    simp only [putOps, Act.put, List.setIfInBounds_toArray, List.set_cons_succ, List.set_cons_zero]
    refine hK1 _ _ ?_
    go_wp2
    refine bodyPost_ret (v := .agg (bv AL).toArray) ?_ rfl ⟨rfl, ?_⟩
    · exact results_cell_row Try.results17 _ _ g4 26 _ (0, 0) _ rfl r6 Try.underlying26 rfl (by simpa using z16)
    · exact B3.trans (by6.below (by omega) B3.size)
/-! ### The law -/
def halfL (ks : List Int) (i : Nat) : List Int := ks.take 16 ++ (List.replicate i 0 ++ ks.drop (16 + i))
theorem halfL_len {ks : List Int} (h : ks.length = 32) {i : Nat} (hi : i ≤ 16) : (halfL ks i).length = 32 := by simp [halfL, h]; omega
theorem halfL_0 (ks : List Int) : halfL ks 0 = ks := by simp [halfL]
theorem halfL_set {ks : List Int} (h : ks.length = 32) {i : Nat} (hi : i < 16) : (halfL ks i).set (16 + i) 0 = halfL ks (i + 1) := by
  unfold halfL
  rw [List.set_append_right _ _ (by rw [List.length_take]; omega), List.length_take, h, Nat.min_eq_left (by decide), Nat.add_sub_cancel_left, List.set_append_right _ _ (by simp), List.length_replicate, Nat.sub_self, List.drop_eq_getElem_cons (by omega), List.set_cons_zero, List.replicate_succ', List.append_assoc]
  rfl
theorem halfL_all {ks : List Int} (h : ks.length = 32) : halfL ks 16 = ks.take 16 ++ List.replicate 16 0 := by
  unfold halfL
  rw [List.drop_eq_nil_of_le (by omega), List.append_nil]
theorem halfL_by {ks : List Int} (hb : IsBy ks) (i : Nat) : IsBy (halfL ks i) := (hb.take 16).app ((IsBy.rep i).app (hb.drop _))
theorem shift_eq {ks : List Int} (h : ks.length = 32) (xs : List Int) : pS ks xs = addL (pS (halfL ks 16) xs) (ks.drop 16) := by
  have e1 : (halfL ks 16).take 16 = ks.take 16 := by
    rw [halfL_all h, List.take_append_of_le_length (by rw [List.length_take]; omega), List.take_of_length_le (by rw [List.length_take]; omega)]
  have e2 : leN ((halfL ks 16).drop 16) = 0 := by
    rw [halfL_all h, List.drop_append, List.drop_eq_nil_of_le (by rw [List.length_take]; omega), List.nil_append, List.drop_replicate, leN_zeros]
  unfold pS addL polyL
  rw [e1, e2, Nat.add_zero, leN_lowB, ← lowB_mod, ← lowB_mod (_ % 256 ^ 16 + _), Nat.mod_add_mod]
def SLsh (ks hs xs : List Int) (A : Option Addr) (g2 g5 g6 m c : Nat) (opn : Nat) (v : Value) : Prop :=
  match opn with
  | 0 => v = .agg (bv ks).toArray
  | 1 | 4 => v = .slice A m c
  | 2 | 7 => v = .agg (bv (pS ks xs)).toArray
  | 3 => v = .agg (bv hs).toArray
  | 5 => v = .agg (bv (pS hs xs)).toArray
  | 6 => v = .agg (bv (ks.drop 16)).toArray
  | 8 | 9 | 10 | 11 | 12 => v = .bool true
  | _ => True

set_option maxRecDepth 100000 in
set_option maxHeartbeats 2000000 in
theorem polyShift_any (ks xs : List Int) (A : Option Addr) (m c : Nat) (w : World) (hk : ks.length = 32) (hkb : IsBy ks) (hbs : Bs w w.heap.size A m xs) (hby : IsBy xs) (hc : m ≤ c) :
    Calls Try.prog 6 #[.agg (bv ks).toArray, .slice A m c] w fun e w' => e = .returned (.bool true) ∧ Below w.heap.size w w' := by
  have Hk := hide hk
  have h32 := hide (size32 hk)
  have heq := shift_eq hk xs
  have HEQ := hide heq
  clear hk heq
  by_cases hlong : (1000 : Int) < (m : Int)
  · have hd : decide ((1000 : Int) < (m : Int)) = true := by simp; omega
    go_enter Try.func6, Try.ntmps6
    go_wp2_with (first
      | (with_reducible refine wl_box rfl 22 (.tmp 0) _ (bv ks) rfl rfl rfl ?_; intro g1 w1 r1 p1 l1 b1))
    refine (awake_any _).mono ?_
    rintro e w2 ⟨rfl, b2⟩
    go_wp2
    go_ret
    exact ⟨rfl, b1.trans (b2.mono b1.size)⟩
  · have hd : decide ((1000 : Int) < (m : Int)) = false := by simp; omega
    have l32 : (bv (List.replicate 32 0)).length = (bv ks).length := by rw [bv_len, bv_len, Hk.out, List.length_replicate]
    have L32 := hide l32
    clear l32
    go_enter Try.func6, Try.ntmps6
    go_wp2_with (first
      | (with_reducible refine wl_box rfl 22 (.tmp 0) _ (bv ks) rfl rfl rfl ?_; intro g2 w1 r1 p1 l1 b1)
      | (with_reducible refine wl_load_row rfl 22 (.tmp 2) g2 22 _ _ rfl rfl r1 Try.underlying22 rfl h32.out ?_)
      | (with_reducible refine wl_alloc rfl 22 _ (bv (List.replicate 32 0)) rfl zero32 rfl ?_; intro g5 w2 r2 p2 l2 b2)
      | (with_reducible refine wl_store_row rfl 22 (.tmp 5) (.tmp 12) g5 22 _ (bv ks) rfl rfl rfl r2 h32.out L32.out (bv_one _) ?_; intro w3 r3 o3)
      | (with_reducible refine wl_alloc rfl 26 _ (bv (List.replicate 16 0)) rfl zero16 rfl ?_; intro g6 w4 r4 p4 l4 b4))
    have s1 := b1.size; have s2 := b2.size; have s3 := o3.size; have s4 := b4.size
    have h25 : g2 ≠ g5 := by have := r1.lt; omega
    have h26 : g2 ≠ g6 := by have := r1.lt; omega
    have h56 : g5 ≠ g6 := by have := r2.lt; omega
    have rk := ((r1.later b2).only o3 h25).later b4
    have rh : Row w4 22 g5 (bv (halfL ks 0)) := by rw [halfL_0]; exact r3.later b4
    have B4 := ((b1.trans (b2.mono s1)).trans (o3.below (by omega))).trans (b4.mono (by omega))
    clear r1 r2 r3 b1 b2 o3 b4
    go_loopw [7] (fun iv wr => ∃ i : Nat, i ≤ 16 ∧ iv = .int .i64 i ∧ Row wr 22 g2 (bv ks) ∧ Row wr 22 g5 (bv (halfL ks i)) ∧ Row wr 26 g6 (bv ((ks.drop 16).take i ++ List.replicate (16 - i) 0)) ∧ Below w.heap.size w wr) (fun iv _ => 16 - (intOf iv).toNat)
    case atStart => exact ⟨0, Nat.zero_le _, rfl, rk, rh, r4, B4⟩
    case round =>
      clear rk rh r4 B4
      obtain ⟨i, hi, rfl, rk, rh, rs, br⟩ := hrel
      by_cases hlt : i < 16
      · have hd16 : (ks.drop 16).length = 16 := by rw [List.length_drop, Hk.out]
        have cell := rk.cell (show (bv ks)[16 + i]? = some (.int .u8 ((ks.drop 16).getD i 0)) by
          simp [bv, List.getD, List.getElem?_drop, show 16 + i < ks.length by rw [Hk.out]; omega])
        have hset := fill_at (xs := ks.drop 16) (zs := []) (i := i) (n := 16) (v := (ks.drop 16).getD i 0) hlt (Nat.le_of_eq hd16.symm) rfl 16 (Nat.le_refl _)
        have hst2 := halfL_set Hk.out hlt
        have HS := hide hset
        have HT := hide hst2
        have hl1 : i < (bv ((ks.drop 16).take i ++ List.replicate (16 - i) 0)).length := by rw [bv_len, List.length_append, List.length_replicate, List.length_take, hd16]; omega
        have hl2 : 16 + i < (bv (halfL ks i)).length := by rw [bv_len, halfL_len Hk.out hi]; omega
        have h32i : 16 + i < 32 := by omega
        clear hset hst2 hd16
        generalize (ks.drop 16).getD i 0 = x at *
        generalize hq : 16 + i = q at *
        have hqi : (16 : Int) + (i : Int) = (q : Int) := by omega
        have HQ := hide hq
        clear hq
        go_wp2_with (first
          | (with_reducible refine wl_store rfl 5 (.tmp 22) (.tmp 21) g6 i 26 _ (.int .u8 x) rfl (by kernel_rfl) rfl rfl rs hl1 rfl ?_; intro w5 r5 o5; rw [bv_set, HS.out] at r5; have rh5 := rh.only o5 h56; have rk5 := rk.only o5 h26)
          | (with_reducible refine wl_store rfl 5 (.tmp 25) (.const (.int .u8 0)) g5 q 22 _ (.int .u8 0) rfl (by kernel_rfl) rfl rfl rh5 hl2 rfl ?_; intro w6 r6 o6; rw [bv_set, HT.out] at r6))
        have s5 := o5.size; have s6 := o6.size
        exact ⟨⟨i + 1, by omega, rfl, rk5.only o6 h25, r6, r5.only o6 (Ne.symm h56), (br.trans (o5.below (by omega))).trans (o6.below (by omega))⟩, by simp [intOf]; omega⟩
      · have h16 : i = 16 := by omega
        have ld16 : (ks.drop 16).length = 16 := by rw [List.length_drop, Hk.out]
        rw [h16] at rh rs
        rw [List.take_of_length_le (by omega), Nat.sub_self, List.replicate_zero, List.append_nil] at rs
        have lhs := halfL_len Hk.out (i := 16) (Nat.le_refl _)
        have bhs := halfL_by hkb 16
        have hxS : Bs wr wr.heap.size A m xs := hbs.later br
        have r2 := rk
        have r5 := rh
        have r6 := rs
        have BS := br
        clear rk rh rs br h16
        generalize halfL ks 16 = hs at *
        go_wp2_with fail
        rename_i K1 hK1
        refine wp_region_valsG [2, 5, 7, 10] (SLsh ks hs xs A g2 g5 g6 m c) (JR wr) (by kernel_rfl) (by kernel_rfl) (by kernel_rfl) (by kernel_rfl) (Below.refl _ _).drew ?obs ?he
        case obs =>
          refine ⟨?_, ?_, ?_, ?_, ?_, ?_, ?_, ?_, ?_, ?_, ?_, ?_, ?_, trivial⟩
          · refine ⟨.inl rfl, ?_⟩
            exact .inl ⟨by kernel_rfl, fun L a1 w1 n' h => ⟨_, rfl, run_loadRow 22 (.tmp 2) g2 22 _ _ rfl (h.var n' 2 (by kernel_rfl)) (r2.later h.inv) Try.underlying22 rfl (h32.out)⟩⟩
          · refine ⟨.inl rfl, ?_⟩
            exact .inl ⟨by kernel_rfl, fun L a1 w1 n' h => ⟨_, rfl, run_move (.tmp 1) rfl (h.var n' 1 (by kernel_rfl))⟩⟩
          · refine ⟨.inl rfl, ?_⟩
            refine .inr fun L a1 w1 n' h K hK => ?_
            have e0 : a1.eval (.tmp 26) = .agg (bv ks).toArray := h.dep n' 0 26 (by kernel_rfl) rfl
            have e1 : a1.eval (.tmp 27) = .slice A m c := h.dep n' 1 27 (by kernel_rfl) rfl
            refine st_call 11 _ _ #[.agg (bv ks).toArray, .slice A m c] rfl Try.call11 ?_ (psum_any ks xs A m c w1 Hk.out hkb hby (hxS.later h.inv) hc) ?_
            · simp only [List.map_toArray, List.map_cons, List.map_nil, e0, e1]
            · rintro e w3 ⟨rfl, b9⟩
              exact ⟨_, rfl, hK _ w3 rfl (JR.call h.inv b9)⟩
          · refine ⟨.inl rfl, ?_⟩
            exact .inl ⟨by kernel_rfl, fun L a1 w1 n' h => ⟨_, rfl, run_loadRow 22 (.tmp 5) g5 22 _ _ rfl (h.var n' 5 (by kernel_rfl)) (r5.later h.inv) Try.underlying22 rfl (size32 lhs)⟩⟩
          · refine ⟨.inl rfl, ?_⟩
            exact .inl ⟨by kernel_rfl, fun L a1 w1 n' h => ⟨_, rfl, run_move (.tmp 1) rfl (h.var n' 1 (by kernel_rfl))⟩⟩
          · refine ⟨.inl rfl, ?_⟩
            refine .inr fun L a1 w1 n' h K hK => ?_
            have e0 : a1.eval (.tmp 29) = .agg (bv hs).toArray := h.dep n' 3 29 (by kernel_rfl) rfl
            have e1 : a1.eval (.tmp 30) = .slice A m c := h.dep n' 4 30 (by kernel_rfl) rfl
            refine st_call 11 _ _ #[.agg (bv hs).toArray, .slice A m c] rfl Try.call11 ?_ (psum_any hs xs A m c w1 lhs bhs hby (hxS.later h.inv) hc) ?_
            · simp only [List.map_toArray, List.map_cons, List.map_nil, e0, e1]
            · rintro e w3 ⟨rfl, b9⟩
              exact ⟨_, rfl, hK _ w3 rfl (JR.call h.inv b9)⟩
          · refine ⟨.inl rfl, ?_⟩
            exact .inl ⟨by kernel_rfl, fun L a1 w1 n' h => ⟨_, rfl, run_loadRow 26 (.tmp 6) g6 26 _ _ rfl (h.var n' 6 (by kernel_rfl)) (r6.later h.inv) Try.underlying26 rfl (size16 ld16)⟩⟩
          · refine ⟨.inl rfl, ?_⟩
            refine .inr fun L a1 w1 n' h K hK => ?_
            have e0 : a1.eval (.tmp 31) = .agg (bv (pS hs xs)).toArray := h.dep n' 5 31 (by kernel_rfl) rfl
            have e1 : a1.eval (.tmp 32) = .agg (bv (ks.drop 16)).toArray := h.dep n' 6 32 (by kernel_rfl) rfl
            refine st_call 17 _ _ #[.agg (bv (pS hs xs)).toArray, .agg (bv (ks.drop 16)).toArray] rfl Try.call17 ?_ (radd_any (pS hs xs) (ks.drop 16) w1 (pS_len _ _) ld16 (pS_by _ _) (hkb.drop 16)) ?_
            · simp only [List.map_toArray, List.map_cons, List.map_nil, e0, e1]
            · rintro e w3 ⟨rfl, b9⟩
              rw [← HEQ.out]
              exact ⟨_, rfl, hK _ w3 rfl (JR.call h.inv b9)⟩
          · refine ⟨.inl rfl, ?_⟩
            exact .inl ⟨by kernel_rfl, fun L a1 w1 n' h => ⟨_, rfl, run_eqlT (.tmp 28) (.tmp 33) rfl Try.underlying26 (Classical.choose_spec u8_info).1 (by kernel_rfl) Try.underlying5 Try.isAgg5 (pS ks xs) (h.dep n' 2 28 (by kernel_rfl) rfl) (h.dep n' 7 33 (by kernel_rfl) rfl) (pS_len _ _) (by kernel_rfl)⟩⟩
          · refine ⟨.inl rfl, ?_⟩
            exact .inl ⟨by kernel_rfl, fun L a1 w1 n' h => ⟨_, rfl, run_move (.tmp 34) rfl (h.dep n' 8 34 (by kernel_rfl) rfl)⟩⟩
          · refine ⟨.inr ⟨9, true, 35, rfl, by kernel_rfl, rfl, by simp, fun v h => h⟩, ?_⟩
            refine .inr fun L a1 w1 n' h K hK => ?_
            refine st_call 9 _ _ #[] rfl Try.call9 ?_ (awake_any w1) ?_
            · simp
            · rintro e w3 ⟨rfl, b9⟩
              exact ⟨_, rfl, hK _ w3 rfl (JR.call h.inv b9)⟩
          · refine ⟨.inl rfl, ?_⟩
            exact .inl ⟨by kernel_rfl, fun L a1 w1 n' h => ⟨_, rfl, run_pickT (.tmp 35) _ _ rfl (h.dep n' 9 35 (by kernel_rfl) rfl) (h.dep n' 10 36 (by kernel_rfl) rfl)⟩⟩
          · refine ⟨.inl rfl, ?_⟩
            exact .inl ⟨by kernel_rfl, fun L a1 w1 n' h => ⟨_, rfl, run_assign (.tmp 37) rfl (h.dep n' 11 37 (by kernel_rfl) rfl)⟩⟩
        case he =>
          intro V w5 hV hJ
          have h12 : V 12 = .bool true := hV 12 4 rfl
          have hB : Below wr.heap.size wr w5 := hJ
          clear hV hJ
          simp only [putOps, List.setIfInBounds_toArray, List.set_cons_succ, List.set_cons_zero]
          refine hK1 _ _ ?_
          go_wp2
          go_ret
          exact ⟨congrArg Ending.returned h12, BS.trans (hB.mono BS.size)⟩
end Go.Proofs.Ytcinhofapkddpaa

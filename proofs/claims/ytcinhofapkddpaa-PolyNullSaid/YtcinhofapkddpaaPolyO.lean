/-
  Poly: a sum of nothing; the sum of a text: contracts. Own work.
-/
import Derived.Test.YtcinhofapkddpaaPolyL
import Derived.Test.YtcinhofapkddpaaEqArr
namespace Go.Proofs.Ytcinhofapkddpaa
open Go.RowKit
set_option linter.unusedVariables false
set_option linter.unusedSimpArgs false
/-- Of the number of the key's first half, the bits that count. -/
def clN (X : Nat) : Nat := (nW X 0 &&& 1152921487695413247) + 18446744073709551616 * (nW X 1 &&& 1152921487695413244)
theorem and_lt60 (x m : Nat) (hm : m < 1152921504606846976) : x &&& m < 1152921504606846976 := Nat.lt_of_le_of_lt Nat.and_le_right hm
theorem clN_lt (X : Nat) : clN X < 2 ^ 124 := by
  unfold clN
  have h1 := and_lt60 (nW X 0) 1152921487695413247 (by decide)
  have h2 := and_lt60 (nW X 1) 1152921487695413244 (by decide)
  omega
theorem fb_clN (X : Nat) : uL [nW X 0 &&& 1152921487695413247, nW X 1 &&& 1152921487695413244] = fb (clN X) := by
  have h1 := and_lt60 (nW X 0) 1152921487695413247 (by decide)
  have h2 := and_lt60 (nW X 1) 1152921487695413244 (by decide)
  have e0 : nW (clN X) 0 = nW X 0 &&& 1152921487695413247 := by
    show clN X / 1 % 18446744073709551616 = _
    rw [Nat.div_one]
    unfold clN
    omega
  have e1 : nW (clN X) 1 = nW X 1 &&& 1152921487695413244 := by
    show clN X / 18446744073709551616 % 18446744073709551616 = _
    unfold clN
    omega
  simp only [uL, fb, e0, e1, List.map_cons, List.map_nil]
theorem builtF (a b : Nat) : Try.prog.built 44 [(0, .int .u64 (a : Int)), (1, .int .u64 (b : Int))] = some (uL [a, b]).toArray := by kernel_rfl
theorem builtMac (R S : Nat) : Try.prog.built 48 [(1, .agg (fb R).toArray), (2, .agg (nb S).toArray)] = some (macL (List.replicate 16 0) 0 R S 0).toArray := by kernel_rfl
theorem size32 {xs : List Int} (h : xs.length = 32) : (Try.prog.info? 22).map (·.size) = some (bv xs).length := by rw [bv_len, h]; kernel_rfl
theorem zero32 : (Try.prog.info? 22).map (fun i => i.zero) = some (some (.agg (bv (List.replicate 32 0)).toArray)) := by kernel_rfl
def JNew (w0 : World) (R S : Nat) (bs : List Bool) (vs : List Value) (w : World) : Prop :=
  Below w0.heap.size w0 w ∧ (bs.getD 1 false = true → ∃ g, vs.getD 1 undef = .pointer (some ⟨g, 0, none⟩) ∧ w0.heap.size ≤ g ∧ Row w 48 g (macL (List.replicate 16 0) 0 R S 0)) ∧
    (bs.getD 2 false = true → ∃ g, vs.getD 2 undef = .pointer (some ⟨g, 0, none⟩) ∧ w0.heap.size ≤ g ∧ Row w 48 g (macL (List.replicate 16 0) 0 R S 0))
def SNew (g1 g3 x0 x1 a0 a1' R S : Nat) (opn : Nat) (v : Value) : Prop :=
  match opn with
  | 0 => v = .pointer (some ⟨g3, 0, none⟩)
  | 1 => v = .int .u64 (x0 : Int)
  | 2 => v = .int .u64 (a0 : Int)
  | 3 => v = .pointer (some ⟨g3, 1, none⟩)
  | 4 => v = .int .u64 (x1 : Int)
  | 5 => v = .int .u64 (a1' : Int)
  | 6 => v = .agg (uL [a0, a1']).toArray
  | 7 => v = .slice (some ⟨g1, 16, none⟩) 16 16
  | 8 => v = .agg (nb S).toArray
  | 9 => v = .agg (macL (List.replicate 16 0) 0 R S 0).toArray
  | _ => True

theorem row_bs_at {w : World} {t g B off n : Nat} {ks : List Int} (h : Row w t g (bv ks)) (hn : off + n ≤ ks.length) (hB : g < B) : Bs w B (some ⟨g, off, none⟩) n ((ks.drop off).take n) := by
  have e : bv ks = bv (ks.take off) ++ (bv ((ks.drop off).take n) ++ bv ((ks.drop off).drop n)) := by
    rw [← bv_app, List.take_append_drop, ← bv_app, List.take_append_drop]
  rw [e] at h
  have := h.bs (B := B) (off := off) (by rw [bv_len, List.length_take]; omega) hB
  rwa [show ((ks.drop off).take n).length = n by rw [List.length_take, List.length_drop]; omega] at this
set_option maxRecDepth 100000 in
set_option maxHeartbeats 2000000 in
theorem new_any (ks : List Int) (w : World) (hk : ks.length = 32) (hb : IsBy ks) :
    Calls Try.prog 14 #[.agg (bv ks).toArray] w fun e w' => ∃ g, e = .returned (.pointer (some ⟨g, 0, none⟩)) ∧ w.heap.size ≤ g ∧ MacAt w' g (clN (leN (ks.take 16))) (leN (ks.drop 16)) [] ∧ Below w.heap.size w w' := by
  have h16 : (ks.take 16).length = 16 := by rw [List.length_take]; omega
  have hF1 : ∀ A m c w, Bs w w.heap.size A m (ks.take 16) → m ≤ 1000000 → _ := fun A m c w h1 h2 => fromBytes_any A m c (ks.take 16) w h1 (hb.take 16) h2
  have hF2 : ∀ A m c w, Bs w w.heap.size A m (ks.drop 16) → m ≤ 1000000 → _ := fun A m c w h1 h2 => fromBytes_any A m c (ks.drop 16) w h1 (hb.drop 16) h2
  rw [n3_nb (hb.take 16)] at hF1
  rw [n3_nb (hb.drop 16)] at hF2
  have hFB : ∀ A m c w, Bs w w.heap.size A m (ks.drop 16) → _ := fun A m c w h1 => hF2 A m c w h1 (by have := h1.1; rw [List.length_drop, hk] at this; omega)
  have hRf := fb_clN (leN (ks.take 16))
  have cx0 := nb_get (X := leN (ks.take 16)) (i := 0) (by decide)
  have cx1 := nb_get (X := leN (ks.take 16)) (i := 1) (by decide)
  have hA0 := bits_and_u64_nat (nW (leN (ks.take 16)) 0) 1152921487695413247 (nW_lt _ _) (by decide)
  have hA1 := bits_and_u64_nat (nW (leN (ks.take 16)) 1) 1152921487695413244 (nW_lt _ _) (by decide)
  have h00 : ∀ (g : Nat) (w' : World) (R S : Nat), Row w' 48 g (macL (List.replicate 16 0) 0 R S 0) → MacAt w' g R S [] := fun g w' R S h => h
  have hl0 := nW_lt (leN (ks.take 16)) 0
  have hl1' := nW_lt (leN (ks.take 16)) 1
  generalize clN (leN (ks.take 16)) = R at *
  generalize leN (ks.drop 16) = S at *
  generalize nW (leN (ks.take 16)) 0 &&& 1152921487695413247 = a0 at *
  generalize nW (leN (ks.take 16)) 1 &&& 1152921487695413244 = a1' at *
  generalize nW (leN (ks.take 16)) 0 = x0 at *
  generalize nW (leN (ks.take 16)) 1 = x1 at *
  generalize leN (ks.take 16) = X at *
  have HK := hide hk
  clear hk h16 hF2
  go_enter Try.func14, Try.ntmps14
  go_wp2_with (first
    | (with_reducible refine wl_box rfl 22 (.tmp 0) _ (bv ks) rfl rfl rfl ?_; intro g1 w1 r1 p1 l1 b1))
  have hb1 : Bs w1 w1.heap.size (some ⟨g1, 0, none⟩) 16 (ks.take 16) := by
    have := row_bs_at (off := 0) (n := 16) (B := w1.heap.size) r1 (by rw [HK.out]; decide) r1.lt
    rwa [List.drop_zero] at this
  refine (hF1 _ 16 32 w1 hb1 (by decide)).mono ?_
  rintro e w2 ⟨rfl, b2⟩
  go_wp2_with (first
    | (with_reducible refine wl_alloc rfl 46 _ (n3 0 0 0) rfl zeroN3 rfl ?_; intro g3 w3 r3 p3 l3 b3)
    | (with_reducible refine wl_store_row rfl 46 (.tmp 3) (.tmp 5) g3 46 _ (nb X) rfl rfl rfl r3 (sizeNb _) rfl (oneNb _) ?_; intro w4 r4 o4))
  have s1 := b1.size; have s2 := b2.size; have s3 := b3.size; have s4 := o4.size
  have B4 := ((b1.trans (b2.mono (by omega))).trans (b3.mono (by omega))).trans (o4.below (by omega))
  have r1' := ((r1.later b2).later b3).only o4 (by have := r1.lt; omega)
  have HB2 : ∀ w', Row w' 22 g1 (bv ks) → Bs w' w'.heap.size (some ⟨g1, 16, none⟩) 16 (ks.drop 16) := fun w' h => by
    have := row_bs_at (off := 16) (n := 16) (B := w'.heap.size) h (by rw [HK.out]; decide) h.lt
    rwa [List.take_of_length_le (by rw [List.length_drop, HK.out]; decide)] at this
  clear r1 r3 b1 b2 b3 o4 hb1 hF1
  have r1 := r1'
  have r3 := r4
  have hl1 := r1.lt
  have hl3 := r3.lt
  rename_i K1 hK1
  refine wp_region_vals [8, 10, 11] (SNew g1 g3 x0 x1 a0 a1' R S) (JNew w4 R S) (by kernel_rfl) (by kernel_rfl) (by kernel_rfl) (by kernel_rfl) (by kernel_rfl) ⟨(Below.refl _ _).drew, fun h => absurd h (by decide), fun h => absurd h (by decide)⟩ ?obs ?he
  case obs =>
    refine ⟨?_, ?_, ?_, ?_, ?_, ?_, ?_, ?_, ?_, ?_, ?_, ?_, trivial⟩
    · exact .inl ⟨by kernel_rfl, fun L a1 w1 n' h => ⟨_, rfl, run_index0 46 (.tmp 3) (.const (.int .i64 0)) 3 42 g3 0 rfl Try.underlying46 Try.sizeOf42 (h.var n' 3 (by kernel_rfl)) rfl (by decide)⟩⟩
    · exact .inl ⟨by kernel_rfl, fun L a1 w1 n' h => ⟨_, rfl, run_loadA 42 (.tmp 6) ⟨g3, 0, none⟩ rfl Try.isAgg42 (h.dep n' 0 6 (by kernel_rfl) rfl) ((r3.below h.inv.1 hl3).cell cx0)⟩⟩
    · refine .inl ⟨by kernel_rfl, fun L a1 w1 n' h => ⟨.int .u64 (a0 : Int), rfl, ?_⟩⟩
      have e0 : a1.eval (.tmp 7) = _ := h.dep n' 1 7 (by kernel_rfl) rfl
      unfold execOp
      simp only [e0]
      go_simp
      exact hA0
    · exact .inl ⟨by kernel_rfl, fun L a1 w1 n' h => ⟨_, rfl, run_index0 46 (.tmp 3) (.const (.int .i64 1)) 3 42 g3 1 rfl Try.underlying46 Try.sizeOf42 (h.var n' 3 (by kernel_rfl)) rfl (by decide)⟩⟩
    · exact .inl ⟨by kernel_rfl, fun L a1 w1 n' h => ⟨_, rfl, run_loadA 42 (.tmp 9) ⟨g3, 1, none⟩ rfl Try.isAgg42 (h.dep n' 3 9 (by kernel_rfl) rfl) ((r3.below h.inv.1 hl3).cell cx1)⟩⟩
    · refine .inl ⟨by kernel_rfl, fun L a1 w1 n' h => ⟨.int .u64 (a1' : Int), rfl, ?_⟩⟩
      have e0 : a1.eval (.tmp 10) = _ := h.dep n' 4 10 (by kernel_rfl) rfl
      unfold execOp
      simp only [e0]
      go_simp
      exact hA1
    · exact .inl ⟨by kernel_rfl, fun L a1 w1 n' h => ⟨_, rfl, run_buildX 44 [(0, .tmp 8), (1, .tmp 11)] rfl [(0, .int .u64 (a0 : Int)), (1, .int .u64 (a1' : Int))] (by
        have e0 : a1.eval (.tmp 8) = _ := h.dep n' 2 8 (by kernel_rfl) rfl
        have e1 : a1.eval (.tmp 11) = _ := h.dep n' 5 11 (by kernel_rfl) rfl
        simp only [List.map_cons, List.map_nil, e0, e1]) _ (builtF a0 a1')⟩⟩
    · exact .inl ⟨by kernel_rfl, fun L a1 w1 n' h => ⟨_, rfl, run_sliceLo 22 (.tmp 1) (.const (.int .i64 16)) 32 5 g1 16 rfl Try.underlying22 Try.sizeOf5 (h.var n' 1 (by kernel_rfl)) rfl (by decide)⟩⟩
    · refine .inr fun L a1 w1 n' h K hK => ?_
      have e0 : a1.eval (.tmp 13) = .slice (some ⟨g1, 16, none⟩) 16 16 := h.dep n' 7 13 (by kernel_rfl) rfl
      refine st_call 24 _ _ #[.slice (some ⟨g1, 16, none⟩) 16 16] rfl Try.call24 ?_ (hFB (some ⟨g1, 16, none⟩) 16 16 w1 (HB2 w1 (r1.below h.inv.1 hl1))) ?_
      · simp only [List.map_toArray, List.map_cons, List.map_nil, e0]
      · rintro e w3 ⟨rfl, b9⟩
        exact ⟨_, rfl, hK _ w3 rfl ⟨h.inv.1.trans (b9.mono h.inv.1.size), fun h1 => let ⟨g, e, k1, k2⟩ := h.inv.2.1 h1; ⟨g, e, k1, k2.later b9⟩, fun h1 => let ⟨g, e, k1, k2⟩ := h.inv.2.2 h1; ⟨g, e, k1, k2.later b9⟩⟩⟩
    · exact .inl ⟨by kernel_rfl, fun L a1 w1 n' h => ⟨_, rfl, run_buildX 48 [(1, .tmp 12), (2, .tmp 14)] rfl [(1, .agg (fb R).toArray), (2, .agg (nb S).toArray)] (by
        have e0 : a1.eval (.tmp 12) = _ := h.dep n' 6 12 (by kernel_rfl) rfl
        have e1 : a1.eval (.tmp 14) = _ := h.dep n' 8 14 (by kernel_rfl) rfl
        simp only [List.map_cons, List.map_nil, e0, e1, hRf]) _ (builtMac R S)⟩⟩
    · refine .inr fun L a1 w1 n' h K hK => ?_
      refine st_box 48 (.tmp 15) _ (macL (List.replicate 16 0) 0 R S 0) rfl (h.dep n' 9 15 (by kernel_rfl) rfl) rfl ?_
      intro g9 w3 r9 l9 m9 b9
      exact hK _ w3 trivial ⟨h.inv.1.trans (b9.mono h.inv.1.size), fun _ => ⟨g9, rfl, Nat.le_trans h.inv.1.size l9, r9⟩, fun h1 => let ⟨g, e, k1, k2⟩ := h.inv.2.2 h1; ⟨g, e, k1, k2.later b9⟩⟩
    · refine .inr fun L a1 w1 n' h K hK => ?_
      obtain ⟨g9, e9, l9, r9⟩ := h.inv.2.1 (n'.dep (by kernel_rfl))
      refine st_assign (.tmp 16) _ rfl e9 ?_
      exact hK _ _ trivial ⟨h.inv.1, h.inv.2.1, fun _ => ⟨g9, rfl, l9, r9⟩⟩
  case he =>
    intro V w5 hV hJ
    obtain ⟨hJ1, _, hJ2⟩ := hJ
    obtain ⟨g9, e9, l9, r9⟩ := hJ2 rfl
    have h11 : V 11 = .pointer (some ⟨g9, 0, none⟩) := e9
    clear hV hJ2
    simp only [putOps, List.setIfInBounds_toArray, List.set_cons_succ, List.set_cons_zero]
    refine hK1 _ _ ?_
    go_wp2
    go_ret
    exact ⟨g9, congrArg Ending.returned h11, by omega, h00 _ _ _ _ r9, B4.trans (hJ1.mono B4.size)⟩
end Go.Proofs.Ytcinhofapkddpaa

/-
  ChachaBlock: the Go text of the law answers true for every input, and writes nothing that was there. Own work.
-/
import Derived.Test.YtfpemnihknbihaaDoorRefBlock
namespace Go.Proofs.YtfpemnihknbihaaDoor
open Go.RowKit
set_option linter.unusedVariables false
set_option linter.unusedSimpArgs false
def JCb (w0 : World) (ys : List Int) (bs : List Bool) (vs : List Value) (w : World) : Prop :=
  Below w0.heap.size w0 w ∧ (bs.getD 0 false = true → ∃ A c, vs.getD 0 undef = .slice A 64 c ∧ Bs w w.heap.size A 64 ys)
def SCb (g1 g3 : Nat) (ks ns : List Int) (c : Nat) (opn : Nat) (v : Value) : Prop :=
  match opn with
  | 0 => v = .slice (some ⟨g3, 0, none⟩) 64 64
  | 1 => v = .agg (atL ks c ns).toArray
  | 2 => IsSl 64 v
  | 3 | 4 | 5 | 6 | 7 => v = .bool true
  | _ => True
set_option maxRecDepth 100000 in
set_option maxHeartbeats 4000000 in
theorem chachaBlock_any (ks ns : List Int) (c : Nat) (w : World) (hT : Tabs w) (hk : ks.length = 32) (hn : ns.length = 12) (hk' : IsBy ks) (hn' : IsBy ns) (hc : c < 4294967296) :
    Calls Tryd.prog 3 #[.agg (atL ks c ns).toArray] w fun e w' => e = .returned (.bool true) ∧ Below w.heap.size w w' := by
  have zk := hide (size_b (P := Tryd.prog) (T := 22) (by kernel_rfl) hk)
  have zn := hide (size_b (P := Tryd.prog) (T := 24) (by kernel_rfl) hn)
  have h32 := hide (show (bv ks).length = 32 by rw [bv_len, hk])
  have h33 := hide (show (bv ks ++ [Value.int .u32 c]).length = 33 by rw [List.length_append, bv_len, hk]; rfl)
  have zA := hide (show (Tryd.prog.info? 26).map (·.size) = some (atL ks c ns).length by rw [at_len' hk hn]; kernel_rfl)
  have zB := hide (size_b (P := Tryd.prog) (T := 27) (n := 64) (by kernel_rfl) (blockL_len ks c ns))
  have z6 := hide (show (bv (List.replicate 64 0)).length = (bv (blockL ks c ns)).length by rw [bv_len, bv_len, blockL_len, List.length_replicate])
  have Hk := hide hk
  have Hn := hide hn
  clear hk hn
  go_enter Tryd.func3, Tryd.ntmps3
  go_wp2_with (first
    | (with_reducible refine wl_box rfl 26 (.tmp 0) _ (atL ks c ns) rfl rfl rfl ?_; intro g1 w1 r1 a1 l1 b1)
    | (with_reducible refine wl_load_part rfl 22 (.tmp 4) g1 0 26 _ (bv ks) _ _ rfl rfl (atRowA r1) rfl Tryd.underlying22 rfl zk.out ?_)
    | (with_reducible refine wl_load rfl 23 (.tmp 6) g1 32 26 _ (.int .u32 (c : Int)) rfl Tryd.isAgg23 rfl r1 (atCtr h32.out) ?_)
    | (with_reducible refine wl_load_part rfl 24 (.tmp 8) g1 33 26 _ (bv ns) _ _ rfl rfl (atRowC r1) h33.out Tryd.underlying24 rfl zn.out ?_))
  refine (block_any ks ns c w1 (hT.later b1) Hk.out Hn.out hk' hn' ⟨by omega, by omega⟩).mono ?_
  rintro e w2 ⟨rfl, b2⟩
  have r2 := r1.later b2
  have B2 := b1.trans (b2.mono b1.size)
  clear r1
  go_wp2_with (first
    | (with_reducible refine wl_alloc rfl 27 _ (bv (List.replicate 64 0)) rfl zero64 rfl ?_; intro g3 w3 r3 a3 l3 b3)
    | (with_reducible refine wl_store_row rfl 27 (.tmp 3) (.tmp 10) g3 27 _ (bv (blockL ks c ns)) rfl rfl rfl r3 zB.out z6.out (bv_one' _) ?_; intro w4 r4 o4))
  have q4 : w4.heap.size = w3.heap.size := o4.size
  have R1 := (r2.later b3).only o4 (by have := r2.lt; omega)
  have B4 := (B2.trans (b3.mono B2.size)).trans (o4.below (show w.heap.size ≤ g3 by have := B2.size; omega))
  clear r2 r3 b3 o4 b1 b2 B2
  rename_i Q1 K1 hK1
  refine wp_region_valsG [2, 3, 5] (SCb g1 g3 ks ns c) (JCb w4 (blockL ks c ns)) (by kernel_rfl) (by kernel_rfl) (by kernel_rfl) (by kernel_rfl) ⟨(Below.refl _ _).drew, fun h => absurd h (by decide)⟩ ?obs ?he
  case obs =>
    refine ⟨?_, ?_, ?_, ?_, ?_, ?_, ?_, ?_, trivial⟩
    · refine ⟨.inl rfl, ?_⟩
      exact .inl ⟨by kernel_rfl, fun L a1 w1 n h => ⟨_, rfl, run_sliceAll 27 (.tmp 3) 64 5 g3 rfl Tryd.underlying27 Tryd.sizeOf5 (h.var n 3 (by kernel_rfl))⟩⟩
    · refine ⟨.inl rfl, ?_⟩
      exact .inl ⟨by kernel_rfl, fun L a1 w1 n h => ⟨_, rfl, run_loadP 26 (.tmp 1) g1 0 26 [] (atL ks c ns) [] _ rfl (h.var n 1 (by kernel_rfl)) (by simpa using R1.later h.inv.1) rfl Tryd.underlying26 rfl zA.out⟩⟩
    · refine ⟨.inl rfl, ?_⟩
      refine .inr fun L a1 w1 n h K hK => ?_
      have e : a1.eval (.tmp 12) = _ := h.dep n 1 12 (by kernel_rfl) rfl
      refine st_call 17 _ _ #[.agg (atL ks c ns).toArray] rfl Tryd.call17 ?_ (refBlock_any ks ns c w1 Hk.out Hn.out hk' hn' hc) ?_
      · simp only [List.map_toArray, List.map_cons, List.map_nil, e]
      · rintro e2 w3 ⟨A, n2, c2, rfl, hbs, hn2, hc2, hb2⟩
        have h4 : n2 = 64 := by rw [← hbs.1, blockL_len]
        subst h4
        exact ⟨_, rfl, hK _ _ ⟨A, c2, rfl⟩ ⟨h.inv.1.trans (hb2.mono h.inv.1.size), fun _ => ⟨A, c2, rfl, hbs⟩⟩⟩
    · refine ⟨.inl rfl, ?_⟩
      refine .inr fun L a1 w1 n h K hK => ?_
      have yes : L.getD 2 false = true := n.dep (by kernel_rfl)
      obtain ⟨A, c2, hA, hbs⟩ := h.inv.2 yes
      have e : a1.eval (.tmp 11) = _ := h.dep n 0 11 (by kernel_rfl) rfl
      have e' : a1.eval (.tmp 13) = .slice A 64 c2 := hA
      have hrow : Bs w1 w1.heap.size (some ⟨g3, 0, none⟩) 64 (blockL ks c ns) := bs_mid (q := 0) (r4.later h.inv.1) (by rw [List.drop_zero, List.take_of_length_le (by rw [blockL_len]; exact Nat.le_refl _)]) (by rw [blockL_len]; omega)
      refine st_call 16 _ _ #[.slice (some ⟨g3, 0, none⟩) 64 64, .slice A 64 c2] rfl Tryd.call16 ?_ (equal_any _ _ _ _ _ _ _ _ _ hrow hbs) ?_
      · simp only [List.map_toArray, List.map_cons, List.map_nil, e, e']
      · rintro e2 w3 ⟨rfl, rfl⟩
        rw [equal_self]
        exact ⟨_, rfl, hK _ _ rfl h.inv⟩
    · refine ⟨.inl rfl, ?_⟩
      exact .inl ⟨by kernel_rfl, fun L a1 w1 n h => ⟨_, rfl, run_move (.tmp 14) rfl (h.dep n 3 14 (by kernel_rfl) rfl)⟩⟩
    · refine ⟨.inr ⟨4, true, 15, rfl, by kernel_rfl, rfl, by simp, fun v h => h⟩, ?_⟩
      refine .inr fun L a1 w1 n h K hK => ?_
      refine st_call 18 _ _ #[] rfl Tryd.call18 (by simp) (awake_any w1) ?_
      rintro e2 w3 ⟨rfl, rfl⟩
      exact ⟨_, rfl, hK _ _ rfl h.inv⟩
    · refine ⟨.inl rfl, ?_⟩
      exact .inl ⟨by kernel_rfl, fun L a1 w1 n h => ⟨_, rfl, run_pickT (.tmp 15) _ _ rfl (h.dep n 4 15 (by kernel_rfl) rfl) (h.dep n 5 16 (by kernel_rfl) rfl)⟩⟩
    · refine ⟨.inl rfl, ?_⟩
      exact .inl ⟨by kernel_rfl, fun L a1 w1 n h => ⟨_, rfl, run_assign (.tmp 17) rfl (h.dep n 6 17 (by kernel_rfl) rfl)⟩⟩
  case he =>
    intro V w5 hV hJ
    have hb5 : Below w4.heap.size w4 w5 := hJ.1
    have h7 : V 7 = .bool true := hV 7 2 rfl
    clear hV hJ
    simp only [putOps, List.setIfInBounds_toArray, List.set_cons_succ, List.set_cons_zero]
    rw [h7]
    refine hK1 _ _ ?_
    go_wp2
    go_ret
    exact ⟨rfl, B4.trans (hb5.mono B4.size)⟩
end Go.Proofs.YtfpemnihknbihaaDoor

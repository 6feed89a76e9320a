/-
  A stream, next part: what is left, the next bytes. Own work.
-/
import Derived.Test.YtfpemnihknbihaaDoorStream
namespace Go.Proofs.YtfpemnihknbihaaDoor
open Go.RowKit
set_option linter.unusedVariables false
set_option linter.unusedSimpArgs false
theorem left_any (ks ns : List Int) (l : Int) (g : Nat) (w : World) (hk : ks.length = 32) (hn : ns.length = 12) (hr : Row w 73 g (strm ks ns l)) :
    Calls Tryd.prog 25 #[.pointer (some ⟨g, 0, none⟩)] w fun e w' => e = .returned (.int .u64 l) ∧ w = w' := by
  have hc := hr.cell (strm_left hk hn)
  clear hk hn
  go_enter Tryd.func25, Tryd.ntmps25
  go_wp2
  go_ret
  exact ⟨rfl, rfl⟩
theorem left_nil (w : World) : Calls Tryd.prog 25 #[.pointer none] w fun e w' => e = .returned (.int .u64 0) ∧ w = w' := by
  go_enter Tryd.func25, Tryd.ntmps25
  go_wp2
  go_ret
  exact ⟨rfl, rfl⟩
/-- Bytes in the middle of a row of bytes. -/
theorem bs_mid {w : World} {t g : Nat} {xs ys : List Int} {q n : Nat} (h : Row w t g (bv xs)) (hy : ys = (xs.drop q).take n) (hl : q + n ≤ xs.length) : Bs w w.heap.size (some ⟨g, q, none⟩) n ys := by
  refine ⟨by rw [hy, List.length_take, List.length_drop]; omega, fun _ => ⟨g, q, rfl, h.lt, fun j hj => ?_⟩⟩
  rw [hy]
  have e : ((xs.drop q).take n).getD j 0 = xs.getD (q + j) 0 := by simp [List.getD, List.getElem?_take, hj, List.getElem?_drop]
  rw [e]
  exact h.cell (vk_get (kd := .u8) (by omega))
/-- What 'next' hands back. -/
def RetNext (ks ns : List Int) (l k g : Nat) (w : World) (e : Ending) (w' : World) : Prop :=
  ∃ b o n c, e = .returned (.slice (some ⟨b, o, none⟩) n c) ∧ w.heap.size ≤ b ∧ n = min k (64 - pos l % 64) ∧ Bs w' w'.heap.size (some ⟨b, o, none⟩) n (ksl ks ns (pos l) n) ∧ Row w' 73 g (strm ks ns ((l - n : Nat) : Int)) ∧ But g w w'
def S3 (g : Nat) (ks ns : List Int) (c : Int) (n : Nat) (v : Value) : Prop :=
  match n with
  | 0 | 1 | 5 | 6 | 2 => v = .pointer (some ⟨g, 0, none⟩) | 7 => v = .pointer (some ⟨g, 32, none⟩)
  | 3 => v = .agg (bv ks).toArray | 8 => v = .agg (bv ns).toArray | 4 => v = .int .u32 c | 9 => v = .agg (bv (blockL ks c ns)).toArray | _ => True
def J3 (w0 : World) (blk : List Value) (bs : List Bool) (vs : List Value) (w : World) : Prop :=
  Below w0.heap.size w0 w ∧ (bs.getD 1 false = true → ∃ g7, vs.getD 1 undef = .pointer (some ⟨g7, 0, none⟩) ∧ w0.heap.size ≤ g7 ∧ Row w 27 g7 (bif bs.getD 2 false then blk else bv (List.replicate 64 0)))
set_option maxRecDepth 100000 in
set_option maxHeartbeats 2000000 in
theorem next_any (ks ns : List Int) (l k g : Nat) (w : World) (hT : Tabs w) (hk : ks.length = 32) (hn : ns.length = 12) (hk' : IsBy ks) (hn' : IsBy ns) (hl0 : 0 < l) (hl : l ≤ 274877906944) (k0 : 0 < k) (hkl : k ≤ l)
    (hr : Row w 73 g (strm ks ns l)) (h2 : 2 ≤ g) :
    Calls Tryd.prog 40 #[.pointer (some ⟨g, 0, none⟩), .int .i64 k] w (RetNext ks ns l k g w) := by
  have hc := hr.cell (strm_left hk hn)
  have zk := hide (size_b (P := Tryd.prog) (T := 22) (by kernel_rfl) hk)
  have zn := hide (size_b (P := Tryd.prog) (T := 24) (by kernel_rfl) hn)
  have Hk := hide hk
  have Hn := hide hn
  have d1 : (0 : Int) ≤ 4294967296 - ((l : Int) + 64 - 1) / 64 := by omega
  have d2 : 4294967296 - ((l : Int) + 64 - 1) / 64 < 4294967296 := by omega
  have e5 := hide (show 4294967296 - ((l : Int) + 64 - 1) / 64 = ((pos l / 64 : Nat) : Int) by unfold pos; omega)
  have e6 := hide (show (64 - (l : Int) % 64) % 64 = ((pos l % 64 : Nat) : Int) by unfold pos; omega)
  clear hk hn
  go_enter Tryd.func40, Tryd.ntmps40
  go_wp2_with fail
  rw [e5.out, e6.out]
  have zB := hide (size_b (P := Tryd.prog) (T := 27) (n := 64) (by kernel_rfl) (blockL_len ks ((pos l / 64 : Nat) : Int) ns))
  have z6 := hide (show (bv (List.replicate 64 0)).length = (bv (blockL ks ((pos l / 64 : Nat) : Int) ns)).length by rw [bv_len, bv_len, blockL_len, List.length_replicate])
  rename_i K1 hK1
  refine wp_region_vals [9, 10, 11] (S3 g ks ns ((pos l / 64 : Nat) : Int)) (J3 w (bv (blockL ks ((pos l / 64 : Nat) : Int) ns))) (by kernel_rfl) (by kernel_rfl) (by kernel_rfl) (by kernel_rfl) (by kernel_rfl) ⟨(Below.refl _ _).drew, fun h => by cases h⟩ ?obs ?he
  case obs =>
    refine ⟨?_, ?_, ?_, ?_, ?_, ?_, ?_, ?_, ?_, ?_, ?_, ?_, trivial⟩
    · exact .inl ⟨by kernel_rfl, fun L a1 w1 n h => ⟨_, rfl, run_move (.tmp 0) rfl (h.var n 0 (by kernel_rfl))⟩⟩
    · refine .inl ⟨by kernel_rfl, fun L a1 w1 n h => ⟨.pointer (some ⟨g, 0, none⟩), rfl, ?_⟩⟩
      have e0 : a1.eval (.tmp 25) = _ := h.dep n 0 25 (by kernel_rfl) rfl
      unfold execOp
      simp only [e0]
      go_simp
    · refine .inl ⟨by kernel_rfl, fun L a1 w1 n h => ⟨.pointer (some ⟨g, 0, none⟩), rfl, ?_⟩⟩
      have e0 : a1.eval (.tmp 26) = _ := h.dep n 1 26 (by kernel_rfl) rfl
      unfold execOp
      simp only [e0]
      go_simp
    · refine .inl ⟨by kernel_rfl, fun L a1 w1 n h => ⟨_, rfl, ?_⟩⟩
      exact run_loadP 22 (.tmp 27) g 0 73 [] (bv ks) _ _ rfl (h.dep n 2 27 (by kernel_rfl) rfl) (hr.later h.inv.1) rfl Tryd.underlying22 rfl zk.out
    · exact .inl ⟨by kernel_rfl, fun L a1 w1 n h => ⟨_, rfl, run_move (.tmp 5) rfl (h.var n 5 (by kernel_rfl))⟩⟩
    · exact .inl ⟨by kernel_rfl, fun L a1 w1 n h => ⟨_, rfl, run_move (.tmp 0) rfl (h.var n 0 (by kernel_rfl))⟩⟩
    · refine .inl ⟨by kernel_rfl, fun L a1 w1 n h => ⟨.pointer (some ⟨g, 0, none⟩), rfl, ?_⟩⟩
      have e0 : a1.eval (.tmp 30) = _ := h.dep n 5 30 (by kernel_rfl) rfl
      unfold execOp
      simp only [e0]
      go_simp
    · refine .inl ⟨by kernel_rfl, fun L a1 w1 n h => ⟨.pointer (some ⟨g, 32, none⟩), rfl, ?_⟩⟩
      have e0 : a1.eval (.tmp 31) = _ := h.dep n 6 31 (by kernel_rfl) rfl
      unfold execOp
      simp only [e0]
      go_simp
    · refine .inl ⟨by kernel_rfl, fun L a1 w1 n h => ⟨_, rfl, ?_⟩⟩
      exact run_loadP 24 (.tmp 32) g 32 73 (bv ks) (bv ns) _ _ rfl (h.dep n 7 32 (by kernel_rfl) rfl) (hr.later h.inv.1) (by rw [bv_len]; exact Hk.out) Tryd.underlying24 rfl zn.out
    · refine .inr fun L a1 w1 n h K hK => ?_
      have e0 : a1.eval (.tmp 28) = _ := h.dep n 3 28 (by kernel_rfl) rfl
      have e1 : a1.eval (.tmp 29) = _ := h.dep n 4 29 (by kernel_rfl) rfl
      have e2 : a1.eval (.tmp 33) = _ := h.dep n 8 33 (by kernel_rfl) rfl
      refine st_call 15 _ _ #[.agg (bv ks).toArray, .int .u32 ((pos l / 64 : Nat) : Int), .agg (bv ns).toArray] rfl Tryd.call15 ?_ (block_any ks ns _ w1 (hT.later h.inv.1) Hk.out Hn.out hk' hn' ⟨by omega, by unfold pos; omega⟩) ?_
      · simp only [List.map_toArray, List.map_cons, List.map_nil, e0, e1, e2]
      · rintro e2 w3 ⟨rfl, hb⟩
        refine ⟨_, rfl, hK _ _ rfl ⟨h.inv.1.trans (hb.mono h.inv.1.size), fun h10 => ?_⟩⟩
        obtain ⟨g7, p7, n7, r7⟩ := h.inv.2 h10
        exact ⟨g7, p7, n7, r7.later hb⟩
    · refine .inr fun L a1 w1 n h K hK => ?_
      have no : L.getD 11 false = false := n.later (by kernel_rfl)
      refine st_alloc 27 _ (bv (List.replicate 64 0)) rfl zero64 rfl ?_
      intro g7 w3 r7 a7 l7 b7
      refine hK _ _ trivial ⟨h.inv.1.trans (b7.mono h.inv.1.size), fun _ => ⟨g7, rfl, by have := h.inv.1.size; omega, ?_⟩⟩
      show Row w3 27 g7 (bif L.getD 11 false then _ else _)
      rw [no]
      exact r7
    · refine .inr fun L a1 w1 n h K hK => ?_
      have yes : L.getD 10 false = true := n.dep (by kernel_rfl)
      have no : L.getD 11 false = false := n.not_yet
      obtain ⟨g7, p7, n7, r7⟩ := h.inv.2 yes
      have r7' : Row w1 27 g7 (bif L.getD 11 false then bv (blockL ks ((pos l / 64 : Nat) : Int) ns) else bv (List.replicate 64 0)) := r7
      rw [no] at r7'
      refine st_store_row 27 (.tmp 7) (.tmp 34) g7 27 _ (bv (blockL ks ((pos l / 64 : Nat) : Int) ns)) rfl p7 (h.dep n 9 34 (by kernel_rfl) rfl) r7' zB.out z6.out (bv_one' _) ?_
      intro w3 r3 o3
      exact hK undef w3 trivial ⟨h.inv.1.trans (o3.below n7), fun _ => ⟨g7, p7, n7, r3⟩⟩
  case he =>
    intro V w3 hV hJ
    obtain ⟨hb3, hJ2⟩ := hJ
    obtain ⟨g7, p7, n7, r7⟩ := hJ2 rfl
    have r7' : Row w3 27 g7 (bv (blockL ks ((pos l / 64 : Nat) : Int) ns)) := r7
    have hr3 := hr.later hb3
    have hc3 := hr3.cell (strm_left Hk.out Hn.out)
    have hp : V 10 = .pointer (some ⟨g7, 0, none⟩) := p7
    have hl3 : g < w3.heap.size := hr3.lt
    have hg7 : g ≠ g7 := by have := hr.lt; omega
    have hsl := hide (strm_len (l := (l : Int)) Hk.out Hn.out)
    clear hJ2 p7 r7 hV hc d1 d2
    simp only [putOps, List.setIfInBounds_toArray, List.set_cons_succ, List.set_cons_zero]
    rw [hp]
    refine hK1 _ _ ?_
    clear hK1 hp
    have hq : pos l % 64 < 64 := by omega
    have hB := hide (ksl_block (ks := ks) (ns := ns) (p := pos l) (n := min k (64 - pos l % 64)) (by omega))
    generalize hqq : pos l % 64 = q at *
    have Hqq := hide hqq
    clear hqq
    have hS1 := fun w => run_sliceArr (P := Tryd.prog) w 27 64 5 Tryd.underlying27 Tryd.sizeOf5 .u64 g7 q hq
    by_cases hkq : k ≤ 64 - q
    · have hS2 := fun w => run_sliceTo (P := Tryd.prog) w 30 5 1 Tryd.underlying30 Tryd.sizeOf5 (some ⟨g7, q, none⟩) (64 - q) (64 - q) .i64 (k : Int) k rfl hkq
      go_wp2_with (first
        | (with_reducible refine wl_store rfl 44 (.tmp 48) (.tmp 46) g 44 73 _ (.int .u64 ((l : Int) - (k : Int))) rfl (by kernel_rfl) rfl rfl hr3 (by rw [hsl.out]; omega) rfl ?_; intro w4 r4 o4))
      go_ret
      rw [strm_set Hk.out Hn.out, show (l : Int) - (k : Int) = ((l - k : Nat) : Int) from by omega] at r4
      have r8 := r7'.only o4 (by omega)
      refine ⟨_, _, _, _, rfl, n7, by rw [Hqq.out]; omega, ?_, r4, (But.of hb3 g).trans (But.only o4)⟩
      rw [show min k (64 - q) = k from by omega] at hB
      exact bs_mid r8 hB.out (by rw [blockL_len]; omega)
    · have hS2 := fun w => run_sliceTo (P := Tryd.prog) w 30 5 1 Tryd.underlying30 Tryd.sizeOf5 (some ⟨g7, q, none⟩) (64 - q) (64 - q) .i64 (64 - (q : Int)) (64 - q) (by omega) (by omega)
      go_wp2_with (first
        | (with_reducible refine wl_store rfl 44 (.tmp 48) (.tmp 46) g 44 73 _ (.int .u64 ((l : Int) - (64 - (q : Int)))) rfl (by kernel_rfl) rfl rfl hr3 (by rw [hsl.out]; omega) rfl ?_; intro w4 r4 o4))
      go_ret
      rw [strm_set Hk.out Hn.out, show (l : Int) - (64 - (q : Int)) = ((l - (64 - q) : Nat) : Int) from by omega] at r4
      have r8 := r7'.only o4 (by omega)
      refine ⟨_, _, _, _, rfl, n7, by rw [Hqq.out]; omega, ?_, r4, (But.of hb3 g).trans (But.only o4)⟩
      rw [show min k (64 - q) = 64 - q from by omega] at hB
      exact bs_mid r8 hB.out (by rw [blockL_len]; omega)
end Go.Proofs.YtfpemnihknbihaaDoor

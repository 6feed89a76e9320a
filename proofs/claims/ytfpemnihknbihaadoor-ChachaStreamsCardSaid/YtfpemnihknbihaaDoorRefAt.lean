/-
  The document's quarter round in its places: a contract. Own work.
-/
import Derived.Test.YtfpemnihknbihaaDoorChaMath
import Derived.Test.YtfpemnihknbihaaDoorMem2
namespace Go.Proofs.YtfpemnihknbihaaDoor
open Go.RowKit
set_option linter.unusedVariables false
set_option linter.unusedSimpArgs false
/-- A call whose answer is laid into a new box. -/
def JBox (w0 : World) (T : Nat) (zs us : List Value) (bs : List Bool) (vs : List Value) (w : World) : Prop :=
  Below w0.heap.size w0 w ∧ (bs.getD 1 false = true → ∃ g : Nat, vs.getD 1 undef = .pointer (some ⟨g, 0, none⟩) ∧ w0.heap.size ≤ g ∧ Row w T g (bif bs.getD 2 false then us else zs))
def q4 (q : Int × Int × Int × Int) : List Int := [q.1, q.2.1, q.2.2.1, q.2.2.2]
theorem qrow {w : World} {T g : Nat} {xs : List Int} {i j k l : Nat} (r : Row w T g (((((vk .u32 xs).set i (.int .u32 (qr (xs.getD i 0) (xs.getD j 0) (xs.getD k 0) (xs.getD l 0)).1)).set j (.int .u32 (qr (xs.getD i 0) (xs.getD j 0) (xs.getD k 0) (xs.getD l 0)).2.1)).set k (.int .u32 (qr (xs.getD i 0) (xs.getD j 0) (xs.getD k 0) (xs.getD l 0)).2.2.1)).set l (.int .u32 (qr (xs.getD i 0) (xs.getD j 0) (xs.getD k 0) (xs.getD l 0)).2.2.2))) : Row w T g (vk .u32 (qat xs i j k l)) := by
  rw [vk_set, vk_set, vk_set, vk_set] at r
  exact r
theorem zero16' : (Tryd.prog.info? 62).map (fun i => i.zero) = some (some (.agg (vk .u32 (List.replicate 16 0)).toArray)) := by kernel_rfl
theorem zero4u : (Tryd.prog.info? 86).map (fun i => i.zero) = some (some (.agg (vk .u32 (List.replicate 4 0)).toArray)) := by kernel_rfl
def SAt (g5 : Nat) (xs : List Int) (i j k l : Nat) (opn : Nat) (v : Value) : Prop :=
  match opn with
  | 0 => v = .int .i64 (i : Int)
  | 1 => v = .pointer (some ⟨g5, i, none⟩)
  | 2 => v = .int .u32 (xs.getD i 0)
  | 3 => v = .int .i64 (j : Int)
  | 4 => v = .pointer (some ⟨g5, j, none⟩)
  | 5 => v = .int .u32 (xs.getD j 0)
  | 6 => v = .int .i64 (k : Int)
  | 7 => v = .pointer (some ⟨g5, k, none⟩)
  | 8 => v = .int .u32 (xs.getD k 0)
  | 9 => v = .int .i64 (l : Int)
  | 10 => v = .pointer (some ⟨g5, l, none⟩)
  | 11 => v = .int .u32 (xs.getD l 0)
  | 12 => v = .agg (vk .u32 (q4 (qr (xs.getD i 0) (xs.getD j 0) (xs.getD k 0) (xs.getD l 0)))).toArray
  | _ => True
set_option maxRecDepth 100000 in
set_option maxHeartbeats 2000000 in
theorem refAt_any (xs : List Int) (i j k l : Nat) (w : World) (hx : xs.length = 16) (hw : IsW xs) (hi : i < 16) (hj : j < 16) (hk : k < 16) (hl : l < 16) :
    Calls Tryd.prog 38 #[.agg (vk .u32 xs).toArray, .int .i64 i, .int .i64 j, .int .i64 k, .int .i64 l] w fun e w' => e = .returned (.agg (vk .u32 (qat xs i j k l)).toArray) ∧ Below w.heap.size w w' := by
  have hlen : 16 ≤ xs.length := by omega
  have zq := hide (size_k (P := Tryd.prog) (T := 62) (kd := .u32) (n := 16) (by kernel_rfl) (show (qat xs i j k l).length = 16 by rw [qat_len, hx]))
  have lq := hide (show (vk .u32 (List.replicate 16 0)).length = (vk .u32 (qat xs i j k l)).length by rw [vk_len, vk_len, qat_len, hx]; rfl)
  clear hx
  go_enter Tryd.func38, Tryd.ntmps38
  go_wp2_with (first
    | (with_reducible refine wl_box rfl 62 (.tmp 0) _ (vk .u32 xs) rfl rfl rfl ?_; intro g5 w1 r1 a1 l1 b1)
    | (with_reducible refine wl_alloc rfl 62 _ (vk .u32 (List.replicate 16 0)) rfl zero16' rfl ?_; intro g10 w2 r2 a2 l2 b2))
  have hr := r1.later b2
  have B2 := b1.trans (b2.mono b1.size)
  clear r1 b2
  rename_i Q1 K1 hK1
  refine wp_region_vals [12, 13, 14] (SAt g5 xs i j k l) (JBox w2 86 (vk .u32 (List.replicate 4 0)) (vk .u32 (q4 (qr (xs.getD i 0) (xs.getD j 0) (xs.getD k 0) (xs.getD l 0))))) (by kernel_rfl) (by kernel_rfl) (by kernel_rfl) (by kernel_rfl) (by kernel_rfl) ⟨(Below.refl _ _).drew, fun h => by cases h⟩ ?obs ?he
  case obs =>
    refine ⟨?_, ?_, ?_, ?_, ?_, ?_, ?_, ?_, ?_, ?_, ?_, ?_, ?_, ?_, ?_, trivial⟩
    · exact .inl ⟨by kernel_rfl, fun L a1 w1 n h => ⟨_, rfl, run_move (.tmp 1) rfl (h.var n 1 (by kernel_rfl))⟩⟩
    · exact .inl ⟨by kernel_rfl, fun L a1 w1 n h => ⟨_, rfl, run_index0 62 (.tmp 5) (.tmp 12) 16 23 g5 i rfl Tryd.underlying62 Tryd.sizeOf23 (h.var n 5 (by kernel_rfl)) (h.dep n 0 12 (by kernel_rfl) rfl) hi⟩⟩
    · exact .inl ⟨by kernel_rfl, fun L a1 w1 n h => ⟨_, rfl, run_loadA 23 (.tmp 13) ⟨g5, i, none⟩ rfl Tryd.isAgg23 (h.dep n 1 13 (by kernel_rfl) rfl) ((hr.later h.inv.1).cell (vk_get (by omega)))⟩⟩
    · exact .inl ⟨by kernel_rfl, fun L a1 w1 n h => ⟨_, rfl, run_move (.tmp 2) rfl (h.var n 2 (by kernel_rfl))⟩⟩
    · exact .inl ⟨by kernel_rfl, fun L a1 w1 n h => ⟨_, rfl, run_index0 62 (.tmp 5) (.tmp 15) 16 23 g5 j rfl Tryd.underlying62 Tryd.sizeOf23 (h.var n 5 (by kernel_rfl)) (h.dep n 3 15 (by kernel_rfl) rfl) hj⟩⟩
    · exact .inl ⟨by kernel_rfl, fun L a1 w1 n h => ⟨_, rfl, run_loadA 23 (.tmp 16) ⟨g5, j, none⟩ rfl Tryd.isAgg23 (h.dep n 4 16 (by kernel_rfl) rfl) ((hr.later h.inv.1).cell (vk_get (by omega)))⟩⟩
    · exact .inl ⟨by kernel_rfl, fun L a1 w1 n h => ⟨_, rfl, run_move (.tmp 3) rfl (h.var n 3 (by kernel_rfl))⟩⟩
    · exact .inl ⟨by kernel_rfl, fun L a1 w1 n h => ⟨_, rfl, run_index0 62 (.tmp 5) (.tmp 18) 16 23 g5 k rfl Tryd.underlying62 Tryd.sizeOf23 (h.var n 5 (by kernel_rfl)) (h.dep n 6 18 (by kernel_rfl) rfl) hk⟩⟩
    · exact .inl ⟨by kernel_rfl, fun L a1 w1 n h => ⟨_, rfl, run_loadA 23 (.tmp 19) ⟨g5, k, none⟩ rfl Tryd.isAgg23 (h.dep n 7 19 (by kernel_rfl) rfl) ((hr.later h.inv.1).cell (vk_get (by omega)))⟩⟩
    · exact .inl ⟨by kernel_rfl, fun L a1 w1 n h => ⟨_, rfl, run_move (.tmp 4) rfl (h.var n 4 (by kernel_rfl))⟩⟩
    · exact .inl ⟨by kernel_rfl, fun L a1 w1 n h => ⟨_, rfl, run_index0 62 (.tmp 5) (.tmp 21) 16 23 g5 l rfl Tryd.underlying62 Tryd.sizeOf23 (h.var n 5 (by kernel_rfl)) (h.dep n 9 21 (by kernel_rfl) rfl) hl⟩⟩
    · exact .inl ⟨by kernel_rfl, fun L a1 w1 n h => ⟨_, rfl, run_loadA 23 (.tmp 22) ⟨g5, l, none⟩ rfl Tryd.isAgg23 (h.dep n 10 22 (by kernel_rfl) rfl) ((hr.later h.inv.1).cell (vk_get (by omega)))⟩⟩
    · refine .inr fun L a1 w1 n h K hK => ?_
      have e0 : a1.eval (.tmp 14) = _ := h.dep n 2 14 (by kernel_rfl) rfl
      have e1 : a1.eval (.tmp 17) = _ := h.dep n 5 17 (by kernel_rfl) rfl
      have e2 : a1.eval (.tmp 20) = _ := h.dep n 8 20 (by kernel_rfl) rfl
      have e3 : a1.eval (.tmp 23) = _ := h.dep n 11 23 (by kernel_rfl) rfl
      refine st_call 55 _ _ #[.int .u32 (xs.getD i 0), .int .u32 (xs.getD j 0), .int .u32 (xs.getD k 0), .int .u32 (xs.getD l 0)] rfl Tryd.call55 ?_ (refQuarter_any (xs.getD i 0) (xs.getD j 0) (xs.getD k 0) (xs.getD l 0) w1 (hw.getD _) (hw.getD _) (hw.getD _) (hw.getD _)) ?_
      · simp only [List.map_toArray, List.map_cons, List.map_nil, e0, e1, e2, e3]
      · rintro e w3 ⟨x, y, z, t, rfl, hq, _, _, _, _, hb⟩
        refine ⟨_, rfl, hK _ _ ?_ ⟨h.inv.1.trans (hb.mono h.inv.1.size), fun h10 => ?_⟩⟩
        · show _ = Value.agg (vk .u32 (q4 _)).toArray
          rw [← hq.out]; rfl
        · obtain ⟨g7, p7, n7, r7⟩ := h.inv.2 h10
          exact ⟨g7, p7, n7, r7.later hb⟩
    · refine .inr fun L a1 w1 n h K hK => ?_
      have no : L.getD 14 false = false := n.later (by kernel_rfl)
      refine st_alloc 86 _ (vk .u32 (List.replicate 4 0)) rfl zero4u rfl ?_
      intro g7 w3 r7 a7 l7 b7
      refine hK _ _ trivial ⟨h.inv.1.trans (b7.mono h.inv.1.size), fun _ => ⟨g7, rfl, by have := h.inv.1.size; omega, ?_⟩⟩
      show Row w3 86 g7 (bif L.getD 14 false then _ else _)
      rw [no]
      exact r7
    · refine .inr fun L a1 w1 n h K hK => ?_
      have yes : L.getD 13 false = true := n.dep (by kernel_rfl)
      have no : L.getD 14 false = false := n.not_yet
      obtain ⟨g7, p7, n7, r7⟩ := h.inv.2 yes
      have r7' : Row w1 86 g7 (bif L.getD 14 false then vk .u32 (q4 (qr (xs.getD i 0) (xs.getD j 0) (xs.getD k 0) (xs.getD l 0))) else vk .u32 (List.replicate 4 0)) := r7
      rw [no] at r7'
      refine st_store_row 86 (.tmp 11) (.tmp 24) g7 86 _ (vk .u32 (q4 (qr (xs.getD i 0) (xs.getD j 0) (xs.getD k 0) (xs.getD l 0)))) rfl p7 (h.dep n 12 24 (by kernel_rfl) rfl) r7' (by kernel_rfl) rfl (vk_one' _ _) ?_
      intro w3 r3 o3
      exact hK undef w3 trivial ⟨h.inv.1.trans (o3.below n7), fun _ => ⟨g7, p7, n7, r3⟩⟩
  case he =>
    intro V w3 hV hJ
    obtain ⟨hb3, hJ2⟩ := hJ
    obtain ⟨gq, pq, nq, rq⟩ := hJ2 rfl
    have rq' : Row w3 86 gq (vk .u32 (q4 (qr (xs.getD i 0) (xs.getD j 0) (xs.getD k 0) (xs.getD l 0)))) := rq
    have hp : V 13 = .pointer (some ⟨gq, 0, none⟩) := pq
    have r3 := hr.later hb3
    have r10 := r2.later hb3
    have B3 := B2.trans (hb3.mono B2.size)
    have n5 : g5 ≠ gq := by omega
    have n5' : gq ≠ g5 := by omega
    have n10 : g10 ≠ g5 := by omega
    have n10q : g10 ≠ gq := by omega
    clear hV hJ2 pq rq hr r2 hb3 B2
    simp only [putOps, List.setIfInBounds_toArray, List.set_cons_succ, List.set_cons_zero]
    rw [hp]
    refine hK1 _ _ ?_
    clear hK1 hp
    generalize hqq : qr (xs.getD i 0) (xs.getD j 0) (xs.getD k 0) (xs.getD l 0) = q at *
    have Hq := hide hqq
    clear hqq
    go_wp2_with (first
      | (with_reducible refine wl_load rfl 23 (.tmp 26) gq 0 86 _ (.int .u32 q.1) rfl Tryd.isAgg23 rfl rq' rfl ?_)
      | (with_reducible refine wl_store rfl 23 (.tmp 28) (.tmp 27) g5 i 62 _ (.int .u32 q.1) rfl (by kernel_rfl) rfl rfl r3 (by rw [vk_len]; omega) rfl ?_; intro w4 r4 o4)
      | (with_reducible refine wl_load rfl 23 (.tmp 30) gq 1 86 _ (.int .u32 q.2.1) rfl Tryd.isAgg23 rfl (rq'.only o4 n5') rfl ?_)
      | (with_reducible refine wl_store rfl 23 (.tmp 32) (.tmp 31) g5 j 62 _ (.int .u32 q.2.1) rfl (by kernel_rfl) rfl rfl r4 (by rw [List.length_set, vk_len]; omega) rfl ?_; intro w5 r5 o5)
      | (with_reducible refine wl_load rfl 23 (.tmp 34) gq 2 86 _ (.int .u32 q.2.2.1) rfl Tryd.isAgg23 rfl ((rq'.only o4 n5').only o5 n5') rfl ?_)
      | (with_reducible refine wl_store rfl 23 (.tmp 36) (.tmp 35) g5 k 62 _ (.int .u32 q.2.2.1) rfl (by kernel_rfl) rfl rfl r5 (by rw [List.length_set, List.length_set, vk_len]; omega) rfl ?_; intro w6 r6 o6)
      | (with_reducible refine wl_load rfl 23 (.tmp 38) gq 3 86 _ (.int .u32 q.2.2.2) rfl Tryd.isAgg23 rfl (((rq'.only o4 n5').only o5 n5').only o6 n5') rfl ?_)
      | (with_reducible refine wl_store rfl 23 (.tmp 40) (.tmp 39) g5 l 62 _ (.int .u32 q.2.2.2) rfl (by kernel_rfl) rfl rfl r6 (by rw [List.length_set, List.length_set, List.length_set, vk_len]; omega) rfl ?_; intro w7 r7 o7; rw [← Hq.out] at r7; have r8 := qrow r7)
      | (with_reducible refine wl_load_row rfl 62 (.tmp 5) g5 62 _ _ rfl rfl r8 Tryd.underlying62 rfl zq.out ?_)
      | (with_reducible refine wl_store_row rfl 62 (.tmp 10) (.tmp 41) g10 62 _ _ rfl rfl rfl ((((r10.only o4 n10).only o5 n10).only o6 n10).only o7 n10) zq.out lq.out (vk_one' _ _) ?_; intro w9 r9 o9))
    refine bodyPost_ret (v := .agg (vk .u32 (qat xs i j k l)).toArray) ?_ rfl ⟨rfl, ?_⟩
    · exact results_cell_row Tryd.results38 _ _ g10 62 _ (0, 0) _ rfl r9 Tryd.underlying62 rfl (by simpa using zq.out)
    · exact B3.trans (((((o4.trans o5).trans o6).trans o7).below (show w.heap.size ≤ g5 by omega)).trans (o9.below (by have := b1.size; omega)))
end Go.Proofs.YtfpemnihknbihaaDoor

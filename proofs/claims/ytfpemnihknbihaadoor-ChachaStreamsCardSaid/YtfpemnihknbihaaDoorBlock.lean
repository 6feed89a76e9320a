/-
  The block: a contract. Own work.
-/
import Derived.Test.YtfpemnihknbihaaDoorBlockR
import Derived.IntWalk
import Derived.Laws.BitsAllLaws
namespace Go.Proofs.YtfpemnihknbihaaDoor
open Go.RowKit
set_option linter.unusedVariables false
set_option linter.unusedSimpArgs false
def plL (k : Nat) : List Int := [((pl k).1 : Int), (pl k).2.1, (pl k).2.2.1, (pl k).2.2.2]
theorem quarter_index (k : Nat) (hk : k < 8) (w : World) : (Instr.index 65 (.agg (vk .i64 quartersL).toArray) (.int .i64 k)).run Tryd.prog w = .ok (.agg (vk .i64 (plL k)).toArray) w := by
  rw [run_index_part w 65 64 8 4 (vk .i64 quartersL) k Tryd.underlying65 Tryd.isAgg64 Tryd.sizeOf64 hk]
  rcases k with _ | _ | _ | _ | _ | _ | _ | _ | k
  all_goals first
    | rfl
    | omega
theorem pl_lt (k : Nat) (hk : k < 8) : (pl k).1 < 16 ∧ (pl k).2.1 < 16 ∧ (pl k).2.2.1 < 16 ∧ (pl k).2.2.2 < 16 := by
  rcases k with _ | _ | _ | _ | _ | _ | _ | _ | k
  all_goals first
    | exact ⟨by decide, by decide, by decide, by decide⟩
    | omega
theorem zero64 : (Tryd.prog.info? 27).map (fun i => i.zero) = some (some (.agg (bv (List.replicate 64 0)).toArray)) := by kernel_rfl
theorem zero16 : (Tryd.prog.info? 62).map (fun i => i.zero) = some (some (.agg (vk .u32 (List.replicate 16 0)).toArray)) := by kernel_rfl
theorem zero4 : (Tryd.prog.info? 64).map (fun i => i.zero) = some (some (.agg (vk .i64 (List.replicate 4 0)).toArray)) := by kernel_rfl
theorem Tabs.cells {w : World} (hT : Tabs w) : ∀ (j : Nat) (v : Value), (vk .i64 quartersL)[j]? = some v → w.cell? ⟨0, 0 + j, none⟩ = some v := by
  intro j v hv
  have hj : j < 32 := by
    have := (List.getElem?_eq_some_iff.1 hv).1
    simpa [vk_len, quartersL] using this
  rw [Nat.zero_add, hT.2.2 j hj, ← hv, vk_get (by simp [quartersL]; omega)]
set_option maxRecDepth 100000 in
set_option maxHeartbeats 4000000 in
theorem block_any (ks ns : List Int) (c : Int) (w : World) (hT : Tabs w) (hk : ks.length = 32) (hn : ns.length = 12) (hk' : IsBy ks) (hn' : IsBy ns) (hc : w32 c) :
    Calls Tryd.prog 15 #[.agg (bv ks).toArray, .int .u32 c, .agg (bv ns).toArray] w fun e w' => e = .returned (.agg (bv (blockL ks c ns)).toArray) ∧ Below w.heap.size w w' := by
  have hlen : Hid ((begL ks c ns).length = 16) := begL_len ks c ns
  have hF := fun w hT => first_any ks ns c w hT hk hn hk' hn' hc
  have zk := hide (size_b (P := Tryd.prog) (T := 22) (by kernel_rfl) hk)
  have zn := hide (size_b (P := Tryd.prog) (T := 24) (by kernel_rfl) hn)
  have zb := hide (size_k (P := Tryd.prog) (T := 62) (kd := .u32) (n := 16) (by kernel_rfl) hlen.out)
  have z0 := hide (show (vk .u32 (List.replicate 16 0)).length = (vk .u32 (begL ks c ns)).length by rw [vk_len, vk_len, hlen.out]; rfl)
  clear hk hn
  go_enter Tryd.func15, Tryd.ntmps15
  go_wp2_with (first
    | (with_reducible refine wl_box rfl 22 (.tmp 0) _ (bv ks) rfl rfl rfl ?_; intro g3 w3 r3 a3 l3 b3)
    | (with_reducible refine wl_box rfl 24 (.tmp 2) _ (bv ns) rfl rfl rfl ?_; intro g5 w5 r5 a5 l5 b5)
    | (with_reducible refine wl_alloc rfl 27 _ (bv (List.replicate 64 0)) rfl zero64 rfl ?_; intro g6 w6 r6 a6 l6 b6)
    | (with_reducible refine wl_load_row rfl 22 (.tmp 3) g3 22 (bv ks) _ rfl rfl ((r3.later b5).later b6) Tryd.underlying22 rfl zk.out ?_)
    | (with_reducible refine wl_load_row rfl 24 (.tmp 5) g5 24 (bv ns) _ rfl rfl (r5.later b6) Tryd.underlying24 rfl zn.out ?_))
  have B6 := (b3.trans (b5.mono b3.size)).trans (b6.mono (Nat.le_trans b3.size b5.size))
  have A6 : w.heap.size ≤ g6 := by have := b3.size; have := b5.size; omega
  refine (hF _ (hT.later B6)).mono ?_
  rintro e w7 ⟨rfl, b7⟩
  have B7 := B6.trans (b7.mono B6.size)
  have r6' := r6.later b7
  have s6 : w6.heap.size ≤ w7.heap.size := b7.size
  clear hF b3 b5 b6 b7 r3 r5 r6
  go_wp2_with (first
    | (with_reducible refine wl_alloc (o := ⟨some 7, _, _, _, _, _⟩) rfl 62 _ (vk .u32 (List.replicate 16 0)) rfl zero16 rfl ?_; intro gs w8 r8 a8 l8 b8)
    | (with_reducible refine wl_alloc (o := ⟨some 8, _, _, _, _, _⟩) rfl 62 _ (vk .u32 (List.replicate 16 0)) rfl zero16 rfl ?_; intro gx w10 r10 a10 l10 b10)
    | (with_reducible refine wl_store_row rfl 62 (.tmp 7) (.tmp 16) _ 62 _ (vk .u32 (begL ks c ns)) rfl rfl rfl r8 zb.out z0.out (vk_one' _ _) ?_; intro w9 r9 o9)
    | (with_reducible refine wl_load_row rfl 62 (.tmp 7) _ 62 (vk .u32 (begL ks c ns)) _ rfl rfl r9 Tryd.underlying62 rfl zb.out ?_)
    | (with_reducible refine wl_store_row rfl 62 (.tmp 8) (.tmp 17) _ 62 _ (vk .u32 (begL ks c ns)) rfl rfl rfl r10 zb.out z0.out (vk_one' _ _) ?_; intro w11 r11 o11))
  have q8 : w8.heap.size = w9.heap.size := o9.size.symm
  have q10 : w10.heap.size = w11.heap.size := o11.size.symm
  have B8 := B7.trans (b8.mono B7.size)
  have B9 := B8.trans (o9.below (show w.heap.size ≤ gs by have := B7.size; omega))
  have B10 := B9.trans (b10.mono B9.size)
  have B11 := B10.trans (o11.below (show w.heap.size ≤ gx by have := B9.size; omega))
  have ls : gs < gx := by omega
  have l6' : g6 < gs := by omega
  have rs := (r9.later b10).only o11 (by omega)
  have r6 := (((r6'.later b8).only o9 (by omega)).later b10).only o11 (by omega)
  have hT11 := hT.later B11
  have h2 : 2 ≤ gx := by have := hT.1; omega
  have lx : gx < w11.heap.size := by omega
  clear r8 r9 r10 b8 b10 o9 o11 B6 B7 B8 B9 B10 r6' q8 q10
  go_loopw [18] (fun i wr => ∃ k : Nat, k ≤ 10 ∧ i = .int .i64 k ∧ Row wr 62 gx (vk .u32 (rounds (begL ks c ns) k)) ∧ Below gx w11 wr) (fun i _ => 10 - (intOf i).toNat)
  case atStart => exact ⟨0, by omega, rfl, r11, Below.refl _ _⟩
  case round =>
    clear r11
    obtain ⟨k, hk, rfl, rx, bx⟩ := hrel
    by_cases hlt : k < 10
    · have hcl := (hT11.below bx h2).cells
      go_wp2_with (first
        | (with_reducible refine wl_load_cells rfl 65 (.global 0) _ 0 (vk .i64 quartersL) _ rfl rfl hcl Tryd.underlying65 rfl (by kernel_rfl) ?_))
      clear hcl
      go_loopw [21] (fun i wr => ∃ m : Nat, m ≤ 8 ∧ i = .int .i64 m ∧ Row wr 62 gx (vk .u32 (quarts (rounds (begL ks c ns) k) m)) ∧ Below gx w11 wr) (fun i _ => 8 - (intOf i).toNat)
      case atStart => exact ⟨0, by omega, rfl, rx, bx⟩
      case round =>
        clear rx bx
        obtain ⟨m, hm, rfl, rx, bx⟩ := hrel
        by_cases hlm : m < 8
        · have hqi := quarter_index m hlm
          obtain ⟨ha, hb, hc', hd⟩ := pl_lt m hlm
          go_wp2_with (first
            | (with_reducible refine wl_alloc rfl 64 _ (vk .i64 (List.replicate 4 0)) rfl zero4 rfl ?_; intro gp w1 r1 a1 l1 b1)
            | (with_reducible refine wl_store_row rfl 64 (.tmp 10) (.tmp 23) _ 64 _ (vk .i64 (plL m)) rfl rfl rfl r1 (by kernel_rfl) rfl (vk_one' _ _) ?_; intro w2 r2 o2))
          have q1 : w1.heap.size = w2.heap.size := o2.size.symm
          have hgp : gx < gp := by have := bx.size; omega
          have hne : gp ≠ gx := by omega
          have rx2 := (rx.later b1).only o2 (by omega)
          have bx2 := (bx.trans (b1.mono (by have := bx.size; omega))).trans (o2.below (show gx ≤ gp by omega))
          have lq : (quarts (rounds (begL ks c ns) k) m).length = 16 := by rw [quarts_len, rounds_len]; exact hlen.out
          have hw : IsW (quarts (rounds (begL ks c ns) k) m) := quarts_w (rounds_w (begL_w hk' hn' hc) _) _
          have hstep : Hid (quarts (rounds (begL ks c ns) k) (m + 1) = qat (quarts (rounds (begL ks c ns) k) m) (pl m).1 (pl m).2.1 (pl m).2.2.1 (pl m).2.2.2) := rfl
          clear rx bx b1 o2 r1 hqi q1
          generalize quarts (rounds (begL ks c ns) k) m = xs at *
          have Hq := hide lq
          rename_i Q1 K1 hK1
          refine wp_region_vals [24, 31, 33, 35, 37] (S8 gp gx xs (pl m).1 (pl m).2.1 (pl m).2.2.1 (pl m).2.2.2) (J8 gp gx (vk .i64 (plL m)) xs (pl m).1 (pl m).2.1 (pl m).2.2.1 (pl m).2.2.2 w11) (by kernel_rfl) (by kernel_rfl) (by kernel_rfl) (by kernel_rfl) (by kernel_rfl) ⟨r2, rx2, bx2.drew⟩ ?obs ?he
          case obs =>
            have plm : plL m = [((pl m).1 : Int), (pl m).2.1, (pl m).2.2.1, (pl m).2.2.2] := rfl
            rw [plm]
            generalize (pl m).1 = a at *
            generalize (pl m).2.1 = b at *
            generalize (pl m).2.2.1 = c at *
            generalize (pl m).2.2.2 = d at *
            refine ⟨?_, ?_, ?_, ?_, ?_, ?_, ?_, ?_, ?_, ?_, ?_, ?_, ?_, ?_, ?_, ?_, ?_, ?_, ?_, ?_, ?_, ?_, ?_, ?_, ?_, ?_, ?_, ?_, ?_, ?_, ?_, ?_, ?_, ?_, ?_, ?_, ?_, ?_, trivial⟩
            · exact .inl ⟨by kernel_rfl, fun L a1 w1 n h => ⟨_, rfl, run_index0 64 (.tmp 10) (.const (.int .i64 0)) 4 3 gp 0 rfl Tryd.underlying64 Tryd.sizeOf3 (h.var n 10 (by kernel_rfl)) rfl (by decide)⟩⟩
            · exact .inl ⟨by kernel_rfl, fun L a1 w1 n h => ⟨_, rfl, run_loadA 3 (.tmp 25) ⟨gp, 0, none⟩ rfl Tryd.isAgg3 (h.dep n 0 25 (by kernel_rfl) rfl) (h.inv.1.cell rfl)⟩⟩
            · exact .inl ⟨by kernel_rfl, fun L a1 w1 n h => ⟨_, rfl, run_index0 64 (.tmp 10) (.const (.int .i64 1)) 4 3 gp 1 rfl Tryd.underlying64 Tryd.sizeOf3 (h.var n 10 (by kernel_rfl)) rfl (by decide)⟩⟩
            · exact .inl ⟨by kernel_rfl, fun L a1 w1 n h => ⟨_, rfl, run_loadA 3 (.tmp 27) ⟨gp, 1, none⟩ rfl Tryd.isAgg3 (h.dep n 2 27 (by kernel_rfl) rfl) (h.inv.1.cell rfl)⟩⟩
            · exact .inl ⟨by kernel_rfl, fun L a1 w1 n h => ⟨_, rfl, run_index0 64 (.tmp 10) (.const (.int .i64 2)) 4 3 gp 2 rfl Tryd.underlying64 Tryd.sizeOf3 (h.var n 10 (by kernel_rfl)) rfl (by decide)⟩⟩
            · exact .inl ⟨by kernel_rfl, fun L a1 w1 n h => ⟨_, rfl, run_loadA 3 (.tmp 29) ⟨gp, 2, none⟩ rfl Tryd.isAgg3 (h.dep n 4 29 (by kernel_rfl) rfl) (h.inv.1.cell rfl)⟩⟩
            · exact .inl ⟨by kernel_rfl, fun L a1 w1 n h => ⟨_, rfl, run_index0 64 (.tmp 10) (.const (.int .i64 3)) 4 3 gp 3 rfl Tryd.underlying64 Tryd.sizeOf3 (h.var n 10 (by kernel_rfl)) rfl (by decide)⟩⟩
            · exact .inl ⟨by kernel_rfl, fun L a1 w1 n h => ⟨_, rfl, run_loadA 3 (.tmp 31) ⟨gp, 3, none⟩ rfl Tryd.isAgg3 (h.dep n 6 31 (by kernel_rfl) rfl) (h.inv.1.cell rfl)⟩⟩
            · exact .inl ⟨by kernel_rfl, fun L a1 w1 n h => ⟨_, rfl, run_index0 64 (.tmp 10) (.const (.int .i64 0)) 4 3 gp 0 rfl Tryd.underlying64 Tryd.sizeOf3 (h.var n 10 (by kernel_rfl)) rfl (by decide)⟩⟩
            · exact .inl ⟨by kernel_rfl, fun L a1 w1 n h => ⟨_, rfl, run_loadA 3 (.tmp 33) ⟨gp, 0, none⟩ rfl Tryd.isAgg3 (h.dep n 8 33 (by kernel_rfl) rfl) (h.inv.1.cell rfl)⟩⟩
            · exact .inl ⟨by kernel_rfl, fun L a1 w1 n h => ⟨_, rfl, run_index0 62 (.tmp 8) (.tmp 34) 16 23 gx a rfl Tryd.underlying62 Tryd.sizeOf23 (h.var n 8 (by kernel_rfl)) (h.dep n 9 34 (by kernel_rfl) rfl) ha⟩⟩
            · exact .inl ⟨by kernel_rfl, fun L a1 w1 n h => ⟨_, rfl, run_loadA 23 (.tmp 35) ⟨gx, a, none⟩ rfl Tryd.isAgg23 (h.dep n 10 35 (by kernel_rfl) rfl) ((J8.start h.inv (n.later (j := 31) (by kernel_rfl)) (n.later (j := 33) (by kernel_rfl)) (n.later (j := 35) (by kernel_rfl)) (n.later (j := 37) (by kernel_rfl))).cell (vk_get (by omega)))⟩⟩
            · exact .inl ⟨by kernel_rfl, fun L a1 w1 n h => ⟨_, rfl, run_index0 64 (.tmp 10) (.const (.int .i64 1)) 4 3 gp 1 rfl Tryd.underlying64 Tryd.sizeOf3 (h.var n 10 (by kernel_rfl)) rfl (by decide)⟩⟩
            · exact .inl ⟨by kernel_rfl, fun L a1 w1 n h => ⟨_, rfl, run_loadA 3 (.tmp 37) ⟨gp, 1, none⟩ rfl Tryd.isAgg3 (h.dep n 12 37 (by kernel_rfl) rfl) (h.inv.1.cell rfl)⟩⟩
            · exact .inl ⟨by kernel_rfl, fun L a1 w1 n h => ⟨_, rfl, run_index0 62 (.tmp 8) (.tmp 38) 16 23 gx b rfl Tryd.underlying62 Tryd.sizeOf23 (h.var n 8 (by kernel_rfl)) (h.dep n 13 38 (by kernel_rfl) rfl) hb⟩⟩
            · exact .inl ⟨by kernel_rfl, fun L a1 w1 n h => ⟨_, rfl, run_loadA 23 (.tmp 39) ⟨gx, b, none⟩ rfl Tryd.isAgg23 (h.dep n 14 39 (by kernel_rfl) rfl) ((J8.start h.inv (n.later (j := 31) (by kernel_rfl)) (n.later (j := 33) (by kernel_rfl)) (n.later (j := 35) (by kernel_rfl)) (n.later (j := 37) (by kernel_rfl))).cell (vk_get (by omega)))⟩⟩
            · exact .inl ⟨by kernel_rfl, fun L a1 w1 n h => ⟨_, rfl, run_index0 64 (.tmp 10) (.const (.int .i64 2)) 4 3 gp 2 rfl Tryd.underlying64 Tryd.sizeOf3 (h.var n 10 (by kernel_rfl)) rfl (by decide)⟩⟩
            · exact .inl ⟨by kernel_rfl, fun L a1 w1 n h => ⟨_, rfl, run_loadA 3 (.tmp 41) ⟨gp, 2, none⟩ rfl Tryd.isAgg3 (h.dep n 16 41 (by kernel_rfl) rfl) (h.inv.1.cell rfl)⟩⟩
            · exact .inl ⟨by kernel_rfl, fun L a1 w1 n h => ⟨_, rfl, run_index0 62 (.tmp 8) (.tmp 42) 16 23 gx c rfl Tryd.underlying62 Tryd.sizeOf23 (h.var n 8 (by kernel_rfl)) (h.dep n 17 42 (by kernel_rfl) rfl) hc'⟩⟩
            · exact .inl ⟨by kernel_rfl, fun L a1 w1 n h => ⟨_, rfl, run_loadA 23 (.tmp 43) ⟨gx, c, none⟩ rfl Tryd.isAgg23 (h.dep n 18 43 (by kernel_rfl) rfl) ((J8.start h.inv (n.later (j := 31) (by kernel_rfl)) (n.later (j := 33) (by kernel_rfl)) (n.later (j := 35) (by kernel_rfl)) (n.later (j := 37) (by kernel_rfl))).cell (vk_get (by omega)))⟩⟩
            · exact .inl ⟨by kernel_rfl, fun L a1 w1 n h => ⟨_, rfl, run_index0 64 (.tmp 10) (.const (.int .i64 3)) 4 3 gp 3 rfl Tryd.underlying64 Tryd.sizeOf3 (h.var n 10 (by kernel_rfl)) rfl (by decide)⟩⟩
            · exact .inl ⟨by kernel_rfl, fun L a1 w1 n h => ⟨_, rfl, run_loadA 3 (.tmp 45) ⟨gp, 3, none⟩ rfl Tryd.isAgg3 (h.dep n 20 45 (by kernel_rfl) rfl) (h.inv.1.cell rfl)⟩⟩
            · exact .inl ⟨by kernel_rfl, fun L a1 w1 n h => ⟨_, rfl, run_index0 62 (.tmp 8) (.tmp 46) 16 23 gx d rfl Tryd.underlying62 Tryd.sizeOf23 (h.var n 8 (by kernel_rfl)) (h.dep n 21 46 (by kernel_rfl) rfl) hd⟩⟩
            · exact .inl ⟨by kernel_rfl, fun L a1 w1 n h => ⟨_, rfl, run_loadA 23 (.tmp 47) ⟨gx, d, none⟩ rfl Tryd.isAgg23 (h.dep n 22 47 (by kernel_rfl) rfl) ((J8.start h.inv (n.later (j := 31) (by kernel_rfl)) (n.later (j := 33) (by kernel_rfl)) (n.later (j := 35) (by kernel_rfl)) (n.later (j := 37) (by kernel_rfl))).cell (vk_get (by omega)))⟩⟩
            · refine .inr fun L a1 w1 n h K hK => ?_
              refine st_call 35 _ _ #[.int .u32 (xs.getD a 0), .int .u32 (xs.getD b 0), .int .u32 (xs.getD c 0), .int .u32 (xs.getD d 0)] rfl Tryd.call35 ?_ (quarter_any (xs.getD a 0) (xs.getD b 0) (xs.getD c 0) (xs.getD d 0) w1 (hw.getD _) (hw.getD _) (hw.getD _) (hw.getD _)) ?_
              · have e1 : a1.eval (.tmp 36) = _ := h.dep n 11 36 (by kernel_rfl) rfl
                have e2 : a1.eval (.tmp 40) = _ := h.dep n 15 40 (by kernel_rfl) rfl
                have e3 : a1.eval (.tmp 44) = _ := h.dep n 19 44 (by kernel_rfl) rfl
                have e4 : a1.eval (.tmp 48) = _ := h.dep n 23 48 (by kernel_rfl) rfl
                simp only [List.map_toArray, List.map_cons, List.map_nil, e1, e2, e3, e4]
              · rintro e w3 ⟨x, y, z, t, rfl, hq, kx, ky, kz, kt, rfl⟩
                refine ⟨_, rfl, hK _ _ ?_ ?_⟩
                · show _ = qrV _
                  rw [← hq.out]; rfl
                · exact h.inv
            · exact .inl ⟨by kernel_rfl, fun L a1 w1 n h => ⟨_, rfl, run_move (.tmp 49) rfl (h.dep n 24 49 (by kernel_rfl) rfl)⟩⟩
            · exact .inl ⟨by kernel_rfl, fun L a1 w1 n h => ⟨_, rfl, run_extractA (.tmp 24) 0 _ rfl (h.dep n 25 24 (by kernel_rfl) rfl) rfl⟩⟩
            · exact .inl ⟨by kernel_rfl, fun L a1 w1 n h => ⟨_, rfl, run_extractA (.tmp 24) 1 _ rfl (h.dep n 25 24 (by kernel_rfl) rfl) rfl⟩⟩
            · exact .inl ⟨by kernel_rfl, fun L a1 w1 n h => ⟨_, rfl, run_extractA (.tmp 24) 2 _ rfl (h.dep n 25 24 (by kernel_rfl) rfl) rfl⟩⟩
            · exact .inl ⟨by kernel_rfl, fun L a1 w1 n h => ⟨_, rfl, run_extractA (.tmp 24) 3 _ rfl (h.dep n 25 24 (by kernel_rfl) rfl) rfl⟩⟩
            · exact .inl ⟨by kernel_rfl, fun L a1 w1 n h => ⟨_, rfl, run_index0 62 (.tmp 8) (.tmp 26) 16 23 gx a rfl Tryd.underlying62 Tryd.sizeOf23 (h.var n 8 (by kernel_rfl)) (h.dep n 1 26 (by kernel_rfl) rfl) ha⟩⟩
            · refine .inr fun L a1 w1 n h K hK => ?_
              obtain ⟨hr, hb⟩ := J8.at0 h.inv n.not_yet (n.later (j := 33) (by kernel_rfl)) (n.later (j := 35) (by kernel_rfl)) (n.later (j := 37) (by kernel_rfl))
              refine st_store 23 (.tmp 54) (.tmp 50) gx a 62 _ _ rfl (by kernel_rfl) (h.dep n 30 54 (by kernel_rfl) rfl) (h.dep n 26 50 (by kernel_rfl) rfl) hr (by rw [vk_len, upd4_len]; omega) rfl ?_
              intro w3 r3 o3
              refine hK undef w3 trivial ⟨h.inv.1.only o3 hne, ?_, h.inv.2.2.trans (o3.below (Nat.le_refl _))⟩
              rw [vk_set] at r3
              show Row w3 62 gx (vk .u32 (upd4 xs a b c d _ true (L.getD 33 false) (L.getD 35 false) (L.getD 37 false)))
              rw [n.later (j := 33) (by kernel_rfl), n.later (j := 35) (by kernel_rfl), n.later (j := 37) (by kernel_rfl)]
              exact r3
            · exact .inl ⟨by kernel_rfl, fun L a1 w1 n h => ⟨_, rfl, run_index0 62 (.tmp 8) (.tmp 28) 16 23 gx b rfl Tryd.underlying62 Tryd.sizeOf23 (h.var n 8 (by kernel_rfl)) (h.dep n 3 28 (by kernel_rfl) rfl) hb⟩⟩
            · refine .inr fun L a1 w1 n h K hK => ?_
              obtain ⟨hr, hb⟩ := J8.at1 h.inv (n.dep (j := 31) (by kernel_rfl)) n.not_yet (n.later (j := 35) (by kernel_rfl)) (n.later (j := 37) (by kernel_rfl))
              refine st_store 23 (.tmp 55) (.tmp 51) gx b 62 _ _ rfl (by kernel_rfl) (h.dep n 32 55 (by kernel_rfl) rfl) (h.dep n 27 51 (by kernel_rfl) rfl) hr (by rw [vk_len, upd4_len]; omega) rfl ?_
              intro w3 r3 o3
              refine hK undef w3 trivial ⟨h.inv.1.only o3 hne, ?_, h.inv.2.2.trans (o3.below (Nat.le_refl _))⟩
              rw [vk_set] at r3
              show Row w3 62 gx (vk .u32 (upd4 xs a b c d _ (L.getD 31 false) true (L.getD 35 false) (L.getD 37 false)))
              rw [n.dep (j := 31) (by kernel_rfl), n.later (j := 35) (by kernel_rfl), n.later (j := 37) (by kernel_rfl)]
              exact r3
            · exact .inl ⟨by kernel_rfl, fun L a1 w1 n h => ⟨_, rfl, run_index0 62 (.tmp 8) (.tmp 30) 16 23 gx c rfl Tryd.underlying62 Tryd.sizeOf23 (h.var n 8 (by kernel_rfl)) (h.dep n 5 30 (by kernel_rfl) rfl) hc'⟩⟩
            · refine .inr fun L a1 w1 n h K hK => ?_
              obtain ⟨hr, hb⟩ := J8.at2 h.inv (n.dep (j := 31) (by kernel_rfl)) (n.dep (j := 33) (by kernel_rfl)) n.not_yet (n.later (j := 37) (by kernel_rfl))
              refine st_store 23 (.tmp 56) (.tmp 52) gx c 62 _ _ rfl (by kernel_rfl) (h.dep n 34 56 (by kernel_rfl) rfl) (h.dep n 28 52 (by kernel_rfl) rfl) hr (by rw [vk_len, upd4_len]; omega) rfl ?_
              intro w3 r3 o3
              refine hK undef w3 trivial ⟨h.inv.1.only o3 hne, ?_, h.inv.2.2.trans (o3.below (Nat.le_refl _))⟩
              rw [vk_set] at r3
              show Row w3 62 gx (vk .u32 (upd4 xs a b c d _ (L.getD 31 false) (L.getD 33 false) true (L.getD 37 false)))
              rw [n.dep (j := 31) (by kernel_rfl), n.dep (j := 33) (by kernel_rfl), n.later (j := 37) (by kernel_rfl)]
              exact r3
            · exact .inl ⟨by kernel_rfl, fun L a1 w1 n h => ⟨_, rfl, run_index0 62 (.tmp 8) (.tmp 32) 16 23 gx d rfl Tryd.underlying62 Tryd.sizeOf23 (h.var n 8 (by kernel_rfl)) (h.dep n 7 32 (by kernel_rfl) rfl) hd⟩⟩
            · refine .inr fun L a1 w1 n h K hK => ?_
              obtain ⟨hr, hb⟩ := J8.at3 h.inv (n.dep (j := 31) (by kernel_rfl)) (n.dep (j := 33) (by kernel_rfl)) (n.dep (j := 35) (by kernel_rfl)) n.not_yet
              refine st_store 23 (.tmp 57) (.tmp 53) gx d 62 _ _ rfl (by kernel_rfl) (h.dep n 36 57 (by kernel_rfl) rfl) (h.dep n 29 53 (by kernel_rfl) rfl) hr (by rw [vk_len, upd4_len]; omega) rfl ?_
              intro w3 r3 o3
              refine hK undef w3 trivial ⟨h.inv.1.only o3 hne, ?_, h.inv.2.2.trans (o3.below (Nat.le_refl _))⟩
              rw [vk_set] at r3
              show Row w3 62 gx (vk .u32 (upd4 xs a b c d _ (L.getD 31 false) (L.getD 33 false) (L.getD 35 false) true))
              rw [n.dep (j := 31) (by kernel_rfl), n.dep (j := 33) (by kernel_rfl), n.dep (j := 35) (by kernel_rfl)]
              exact r3
          case he =>
            intro V w3 hV hJ
            have hr3 : Row w3 62 gx (vk .u32 (quarts (rounds (begL ks c ns) k) (m + 1))) := by rw [hstep.out]; exact hJ.2.1
            have hb3 : Below gx w11 w3 := hJ.2.2
            clear hV hJ
            simp only [putOps, List.setIfInBounds_toArray, List.set_cons_succ, List.set_cons_zero]
            refine hK1 _ _ ?_
            go_wp2
            go_roundw
            case rel => exact ⟨m + 1, by omega, by go_num, hr3, hb3⟩
            case measure => simp [intOf]; omega
        · go_wp2_with fail
          have h8 : m = 8 := by omega
          rw [h8] at rx
          clear hlm hm h8
          have rx' : Row wr 62 gx (vk .u32 (rounds (begL ks c ns) (k + 1))) := rx
          clear rx
          go_roundw
          case rel => exact ⟨k + 1, by omega, by go_num, rx', bx⟩
          case measure => simp [intOf]; omega
    · go_wp2_with (first
        | (with_reducible refine wl_alloc rfl 27 _ (bv (List.replicate 64 0)) rfl zero64 rfl ?_; intro gr w12 r12 a12 l12 b12))
      have h10 : k = 10 := by omega
      rw [h10] at rx
      generalize Value.int .i64 (k : Int) = s18
      generalize Value.bool (decide ((k : Int) < 10)) = s19
      clear hlt hk h10
      have hgr : gx < gr := by have := bx.size; omega
      have rx3 := rx.later b12
      have rs3 := (rs.below bx (by omega)).later b12
      have r63 := (r6.below bx (by omega)).later b12
      have B12 : Below gx w11 w12 := bx.trans (b12.mono (by have := bx.size; omega))
      clear rx rs r6 bx b12
      go_loopw [60] (fun i wr => ∃ k : Nat, k ≤ 16 ∧ i = .int .i64 k ∧ Row wr 27 gr (bv (blockP ks c ns k ++ List.replicate (64 - 4 * k) 0)) ∧ Below gr w12 wr) (fun i _ => 16 - (intOf i).toNat)
      case atStart => exact ⟨0, by omega, rfl, r12, Below.refl _ _⟩
      case round =>
        clear r12
        obtain ⟨k, hk, rfl, rr, br⟩ := hrel
        have rx4 := rx3.below br hgr
        have rs4 := rs3.below br (by omega)
        by_cases hlt : k < 16
        · go_wp2_with fail
          have hX : w32 ((rounds (begL ks c ns) 10).getD k 0) := (rounds_w (begL_w hk' hn' hc) _).getD k
          have hY : w32 ((begL ks c ns).getD k 0) := (begL_w hk' hn' hc).getD k
          have hN : Hid (blockN ks c ns k = ((rounds (begL ks c ns) 10).getD k 0 + (begL ks c ns).getD k 0) % 4294967296) := rfl
          have lX : k < (rounds (begL ks c ns) 10).length := by rw [rounds_len, hlen.out]; omega
          have lY : k < (begL ks c ns).length := by rw [hlen.out]; omega
          have cX := hide (vk_get (kd := .u32) lX)
          have cY := hide (vk_get (kd := .u32) lY)
          have hfit := fill4 (blockP ks c ns k) (List.replicate (64 - 4 * k) 0) (lowB (blockN ks c ns k) 4) (4 * k) (blockP_len _ _ _ _) (lowB_length _ _)
          rw [← blockP_succ, List.drop_replicate, show 64 - 4 * k - 4 = 64 - 4 * (k + 1) from by omega] at hfit
          have Hfit := hide hfit
          have lP : (blockP ks c ns k ++ List.replicate (64 - 4 * k) 0).length = 64 := by rw [List.length_append, blockP_len, List.length_replicate]; omega
          have HlP := hide lP
          clear hfit lP
          generalize (rounds (begL ks c ns) 10).getD k 0 = X at *
          generalize (begL ks c ns).getD k 0 = Y at *
          rename_i Q1 K1 hK1
          refine wp_region_vals [10, 11] (S15 gr gx gs k X Y) (J15 gr (bv (blockP ks c ns k ++ List.replicate (64 - 4 * k) 0)) (bv (blockP ks c ns (k + 1) ++ List.replicate (64 - 4 * (k + 1)) 0)) (lowB (blockN ks c ns k) 4) w12) (by kernel_rfl) (by kernel_rfl) (by kernel_rfl) (by kernel_rfl) (by kernel_rfl) ⟨rr, br.drew, fun h => by cases h⟩ ?obs ?he
          case obs =>
            refine ⟨?_, ?_, ?_, ?_, ?_, ?_, ?_, ?_, ?_, ?_, ?_, ?_, trivial⟩
            · exact .inl ⟨by kernel_rfl, fun L a1 w1 n h => ⟨_, rfl, run_move (.tmp 12) rfl (h.var n 12 (by kernel_rfl))⟩⟩
            · refine .inl ⟨by kernel_rfl, fun L a1 w1 n h => ⟨.int .i64 ((4 * k : Nat) : Int), rfl, ?_⟩⟩
              have e : a1.eval (.tmp 63) = _ := h.dep n 0 63 (by kernel_rfl) rfl
              unfold execOp
              simp only [e]
              go_simp
              rw [IntWalk.i64_in _ (by omega)]
            · exact .inl ⟨by kernel_rfl, fun L a1 w1 n h => ⟨_, rfl, run_sliceLo 27 (.tmp 11) (.tmp 64) 64 5 gr (4 * k) rfl Tryd.underlying27 Tryd.sizeOf5 (h.var n 11 (by kernel_rfl)) (h.dep n 1 64 (by kernel_rfl) rfl) (by omega)⟩⟩
            · exact .inl ⟨by kernel_rfl, fun L a1 w1 n h => ⟨_, rfl, run_move (.tmp 12) rfl (h.var n 12 (by kernel_rfl))⟩⟩
            · exact .inl ⟨by kernel_rfl, fun L a1 w1 n h => ⟨_, rfl, run_index0 62 (.tmp 8) (.tmp 66) 16 23 gx k rfl Tryd.underlying62 Tryd.sizeOf23 (h.var n 8 (by kernel_rfl)) (h.dep n 3 66 (by kernel_rfl) rfl) hlt⟩⟩
            · exact .inl ⟨by kernel_rfl, fun L a1 w1 n h => ⟨_, rfl, run_loadA 23 (.tmp 67) ⟨gx, k, none⟩ rfl Tryd.isAgg23 (h.dep n 4 67 (by kernel_rfl) rfl) ((rx3.below h.inv.2.1 hgr).cell cX.out)⟩⟩
            · exact .inl ⟨by kernel_rfl, fun L a1 w1 n h => ⟨_, rfl, run_move (.tmp 12) rfl (h.var n 12 (by kernel_rfl))⟩⟩
            · exact .inl ⟨by kernel_rfl, fun L a1 w1 n h => ⟨_, rfl, run_index0 62 (.tmp 7) (.tmp 69) 16 23 gs k rfl Tryd.underlying62 Tryd.sizeOf23 (h.var n 7 (by kernel_rfl)) (h.dep n 6 69 (by kernel_rfl) rfl) hlt⟩⟩
            · exact .inl ⟨by kernel_rfl, fun L a1 w1 n h => ⟨_, rfl, run_loadA 23 (.tmp 70) ⟨gs, k, none⟩ rfl Tryd.isAgg23 (h.dep n 7 70 (by kernel_rfl) rfl) ((rs3.below h.inv.2.1 (by omega)).cell cY.out)⟩⟩
            · refine .inl ⟨by kernel_rfl, fun L a1 w1 n h => ⟨.int .u32 ((X + Y) % 4294967296), rfl, ?_⟩⟩
              have e : a1.eval (.tmp 68) = _ := h.dep n 5 68 (by kernel_rfl) rfl
              have e' : a1.eval (.tmp 71) = _ := h.dep n 8 71 (by kernel_rfl) rfl
              unfold execOp
              simp only [e, e']
              go_simp
              rw [IntKind.wrap_u32']
            · refine .inr fun L a1 w1 n h K hK => ?_
              have e : a1.eval (.tmp 72) = _ := h.dep n 9 72 (by kernel_rfl) rfl
              have no : L.getD 11 false = false := n.later (by kernel_rfl)
              have hl := putLe32_any none 0 0 [] ((X + Y) % 4294967296) w1 Bs.nil_ (by omega) (by omega) (by omega)
              refine st_call 36 _ _ #[.slice none 0 0, .int .u32 ((X + Y) % 4294967296)] rfl Tryd.call36 ?_ hl ?_
              · simp only [List.map_toArray, List.map_cons, List.map_nil, e]; rfl
              · rintro e2 w3 ⟨A, n2, c2, rfl, hbs, hn2, hc2, hb2⟩
                have h4 : n2 = 4 := by rw [← hbs.1]; simp [lowB_length]
                subst h4
                refine ⟨_, rfl, hK _ _ ⟨A, c2, rfl⟩ ⟨?_, h.inv.2.1.trans (hb2.mono ?_), fun _ _ => ⟨A, c2, rfl, ?_⟩⟩⟩
                · show Row w3 27 gr (bif L.getD 11 false then _ else _)
                  rw [no]
                  exact (J15.old_ h.inv no).later hb2
                · have := (J15.old_ h.inv no).lt; omega
                · rw [hN.out]; exact hbs
            · refine .inr fun L a1 w1 n h K hK => ?_
              have yes : L.getD 10 false = true := n.dep (by kernel_rfl)
              obtain ⟨A, c2, hA, hbs⟩ := h.inv.2.2 yes n.not_yet
              have hold := J15.old_ h.inv n.not_yet
              refine st_copy (.tmp 65) (.tmp 73) 30 30 rfl 5 Tryd.underlying30 (by kernel_rfl) gr (4 * k) (64 - 4 * k) (64 - 4 * k) 4 c2 27 _ A (h.dep n 2 65 (by kernel_rfl) rfl) hA _ (lowB (blockN ks c ns k) 4) hold hbs (by omega) (by omega) (by rw [bv_len, HlP.out]; omega) ?_
              intro w3 r3 o3
              rw [Hfit.out] at r3
              refine hK _ w3 trivial ⟨r3, h.inv.2.1.trans (o3.below (Nat.le_refl _)), fun _ h => by cases h⟩
          case he =>
            intro V w3 hV hJ
            have hr3 : Row w3 27 gr (bv (blockP ks c ns (k + 1) ++ List.replicate (64 - 4 * (k + 1)) 0)) := hJ.1
            have hb3 : Below gr w12 w3 := hJ.2.1
            clear hV hJ
            simp only [putOps, List.setIfInBounds_toArray, List.set_cons_succ, List.set_cons_zero]
            refine hK1 _ _ ?_
            go_wp2
            go_roundw
            case rel => exact ⟨k + 1, by omega, by go_num, hr3, hb3⟩
            case measure => simp [intOf]; omega
        · have rr16 : Hid (k = 16) := (by omega : k = 16)
          have r6' := (r63.below br (by omega))
          have hz := size_b (P := Tryd.prog) (T := 27) (n := 64) (by kernel_rfl) (blockL_len ks c ns)
          have Hz := hide hz
          have l64 := hide (show (bv (List.replicate 64 0)).length = (bv (blockL ks c ns)).length by rw [bv_len, bv_len, blockL_len, List.length_replicate])
          have rL : Row wr 27 gr (bv (blockL ks c ns)) := by rw [rr16.out] at rr; simpa [blockL] using rr
          clear hz rr
          go_wp2_with (first
            | (with_reducible refine wl_load_row rfl 27 (.tmp 11) gr 27 (bv (blockL ks c ns)) _ rfl rfl rL Tryd.underlying27 rfl Hz.out ?_)
            | (with_reducible refine wl_store_row rfl 27 (.tmp 6) (.tmp 76) g6 27 _ (bv (blockL ks c ns)) rfl rfl rfl r6' Hz.out l64.out (bv_one' _) ?_; intro w13 r13 o13))
          refine bodyPost_ret (v := .agg (bv (blockL ks c ns)).toArray) ?_ rfl ⟨rfl, ?_⟩
          · exact results_cell_row Tryd.results15 _ _ g6 27 _ (0, 0) _ rfl r13 Tryd.underlying27 rfl (by simpa using Hz.out)
          · exact (B11.trans (B12.mono (by omega))).trans ((br.mono (by omega)).trans (o13.below (by omega)))
end Go.Proofs.YtfpemnihknbihaaDoor

/-
  The law WireOrder: contract. Own work.
-/
import Derived.Test.YtlihoijbfffjcaaWireK
import Derived.Test.YtlihoijbfffjcaaWireI
namespace Go.Proofs.Ytlihoijbfffjcaa
open Go.RowKit Go.Conc
set_option linter.unusedVariables false
set_option linter.unusedSimpArgs false
theorem own_last {w : World} {T k : Nat} {v x : Value} {ws : List Value} (h : w.ownsRow T 35 1 v (k + 1) (ws ++ [x])) : ∃ g cap, v = .slice (some ⟨g, 0, none⟩) (k + 1) cap ∧ w.cell? ⟨g, k, none⟩ = some x := by
  obtain ⟨hl, ho⟩ := h
  rcases ho with ⟨rfl, h0⟩ | ⟨g, cap, cur, rfl, _, hg, h1, h2, h3, h4⟩
  · omega
  · refine ⟨g, cap, rfl, ?_⟩
    have hw : ws.length = k := by simp at hl; omega
    have e : (cur.toList.take ((k + 1) * 1))[k]? = (ws ++ [x])[k]? := by rw [h4]
    rw [Nat.mul_one, List.getElem?_take, if_pos (by omega), List.getElem?_append_right (by omega), hw, Nat.sub_self] at e
    rw [cell_of_row w g k cur _ (0, 0) hg, ← Array.getElem?_toList]
    exact e
theorem older_gone {T gw : Nat} {nv : Value} {l0 l1 l2 : Way} (h : Older T gw nv l0 l1 l2) (i : Nat) : Older T gw nv l0 l1 { l2 with gone := i } := ⟨h.g, h.own, h.a, h.b, h.c⟩
theorem gone_self {l : Way} {g : Nat} (h : l.gone = g) : { l with gone := g } = l := by subst h; rfl
set_option maxRecDepth 100000 in
set_option maxHeartbeats 2000000 in
theorem wireOrder_any (A : Option Addr) (m c : Nat) (xss : List (List Int)) (A1 : Option Addr) (m1 c1 : Nat) (f : Nat → Bool) (w : World) (h : Bss w w.heap.size A m xss) (hf : Bls w w.heap.size A1 m1 f) :
    Calls Try.prog 14 #[.slice A m c, .slice A1 m1 c1] w fun e w' => e = .returned (.bool true) ∧ Below w.heap.size w w' := by
  have kc := fun (w : World) (C : Array Value) (n c : Nat) => Lib.run_convert_bytes_const (P := Try.prog) w 35 5 C n c Try.underlying35 Try.underlying5
  by_cases hlong : (200 : Int) < (m : Int)
  · have hd : decide ((200 : Int) < (m : Int)) = true := by simp; omega
    go_enter Try.func14, Try.ntmps14
    go_wp2_with fail
    refine (awake_any w).mono ?_
    rintro e w2 ⟨rfl, b2⟩
    go_wp2
    go_ret
    exact ⟨rfl, b2⟩
  · have hd : decide ((200 : Int) < (m : Int)) = false := by simp; omega
    have hm : m ≤ 200 := by omega
    clear hlong
    obtain ⟨B, hBe⟩ : ∃ B, B = w.heap.size := ⟨_, rfl⟩
    have hBw : B ≤ w.heap.size := Nat.le_of_eq hBe
    have HH := hide h
    have HF := hide hf
    clear h hf
    go_enter Try.func14, Try.ntmps14
    go_wp2_with fail
    refine (new_some w 3 (by decide) (by decide)).mono ?_
    rintro en w1 ⟨gw, nv, ls, rfl, hN, hlen, hbare, b1⟩
    rw [← hBe] at hN b1
    have h0 : ∃ l0 l1 l2, OrdAt w1 B gw nv xss 0 l0 l1 l2 := by
      match ls, hlen with
      | [l0, l1, l2], _ =>
        have q1 := hbare l1 (by simp)
        have q2 := hbare l2 (by simp)
        exact ⟨l0, l1, l2, hN, by rw [q1.1]; rfl, q1.2, by rw [q2.1]; rfl, q2.2, fun j hj => absurd hj (by omega), fun j hj => absurd hj (by omega)⟩
    clear hN hlen hbare
    go_wp2_with fail
    go_loopw [7] (fun iv wr => ∃ (i : Nat) (l0 l1 l2 : Way), i ≤ m ∧ iv = .int .i64 i ∧ OrdAt wr B gw nv xss i l0 l1 l2 ∧ Below B w wr) (fun iv _ => m - (intOf iv).toNat)
    case atStart =>
      obtain ⟨l0, l1, l2, h0⟩ := h0
      exact ⟨0, l0, l1, l2, by omega, rfl, h0, b1⟩
    case round =>
      clear h0 b1
      obtain ⟨i, l0, l1, l2, him, rfl, hO, hBr⟩ := hrel
      have hBs : B ≤ wr.heap.size := Nat.le_trans hBw hBr.size
      by_cases hi : i < m
      · obtain ⟨bb, oo, rfl, hbb, hcc⟩ := HH.out.2 (by omega)
        obtain ⟨A', n', c', ci, hb'⟩ := hcc i hi
        have ci := (hBr.cell (p := ⟨bb, oo + i, none⟩) (hBe ▸ hbb)).trans ci
        have hxl := hb'.1
        have hb' := hb'.later (hBe ▸ hBr)
        clear hcc
        by_cases hsh : (300 : Int) < (n' : Int)
        · have hd2 : decide ((300 : Int) < (n' : Int)) = true := by simp; omega
          clear hO hb' hxl
          go_wp2_with fail
          refine (awake_any wr).mono ?_
          rintro en w2 ⟨rfl, b2⟩
          go_wp2_with fail
          go_ret
          exact ⟨rfl, hBe ▸ (hBr.trans (b2.mono hBs))⟩
        · have hd2 : decide ((300 : Int) < (n' : Int)) = false := by simp; omega
          have HS := nsend_room wr B gw hBs nv _ hO.net 2 l2 rfl (by rw [hO.n2]; omega) A' n' c' (xss.getD i []) hb' (by omega)
          have HO := hide hO
          have HX := hide hxl
          clear hO hb' hxl
          go_wp2_with fail
          refine HS.mono ?_
          rintro en w2 ⟨rfl, v2, bv2, hN2, b2⟩
          have hN2 : NetAt w2 B gw nv [l0, l1, l2.sent v2 (xss.getD i []) bv2] := hN2
          have B2 : Below B w w2 := hBr.trans (b2.below (blk_lo HO.out.net (i := 2) rfl) hBs)
          clear HS b2
          go_wp2_with fail
          have hlit := Bs.lit' w2 5 (5, 6) [111, 116, 104, 101, 114] #[.int .u8 111, .int .u8 116, .int .u8 104, .int .u8 101, .int .u8 114] 5 _ rfl rfl rfl
          have b3 : Below w2.heap.size w2 (w2.alloc (.cells #[.int .u8 111, .int .u8 116, .int .u8 104, .int .u8 101, .int .u8 114] 5 (5, 6))) := (Below.refl _ _).alloc (Nat.le_refl _) _
          have B3 : Below B w _ := B2.trans (b3.mono (Nat.le_trans hBw B2.size))
          have hN3 := hN2.later b3
          refine (nsend_room _ B gw (Nat.le_trans hBw B3.size) nv _ hN3 1 l1 rfl (by rw [HO.out.n1]; omega) _ 5 5 [111, 116, 104, 101, 114] hlit (by decide)).mono ?_
          rintro en w4 ⟨rfl, v1, bv1, hN4, b4⟩
          have hN4 : NetAt w4 B gw nv [l0, l1.sent v1 [111, 116, 104, 101, 114] bv1, l2.sent v2 (xss.getD i []) bv2] := hN4
          have B4 : Below B w w4 := B3.trans (b4.below (blk_lo hN3 (i := 1) rfl) (Nat.le_trans hBw B3.size))
          have hO4 := HO.out.step (by rw [HX.out]; omega) hN4
          clear hlit hN2 hN3 b3 b4 B2 B3
          generalize l1.sent v1 [111, 116, 104, 101, 114] bv1 = l1 at *
          generalize l2.sent v2 (xss.getD i []) bv2 = l2 at *
          obtain ⟨v0, hv0⟩ := hO4.fr 0 (by omega)
          have HP := npick_some w4 B gw nv _ hN4 2 l2 rfl 0 v0 _ hv0 (Nat.le_trans (hO4.short 0 (by omega)) (by decide))
          have HO4 := hide hO4
          clear hv0 hO4 hN4
          go_wp2_with fail
          refine HP.mono ?_
          rintro en w5 ⟨A5, n5, c5, rfl, ho5, b5⟩
          have hO5 := HO4.out.later b5
          have B5 : Below B w w5 := B4.trans (b5.mono (Nat.le_trans hBw B4.size))
          clear HP ho5 b5 B4
          have HO5 := hide hO5
          clear hO5
          go_wp2_with fail
          go_roundw
          case rel => exact ⟨i + 1, _, _, _, by omega, by go_num, HO5.out, B5⟩
          case measure => simp [intOf]; omega
      · obtain rfl : i = m := by omega
        obtain ⟨T, hTe⟩ : ∃ T, T = wr.heap.size := ⟨_, rfl⟩
        have hOl := hO.net.older
        rw [← hTe] at hOl
        have hBT : B ≤ T := hTe ▸ hBs
        have HO := hide hO
        have hst : NetAt wr B gw nv [l0, l1, { l2 with gone := 0 }] := by rw [gone_self hO.g2]; exact hO.net
        have hTe2 : T ≤ wr.heap.size := Nat.le_of_eq hTe
        have k1 := hide (And.intro hO.n1 hO.g1)
        have k2 := hide hO.n2
        have k3 := hide (And.intro hO.fr hO.short)
        clear hO HO hBs
        go_wp2_with fail
        go_loopw [6, 8] (fun ov iv wr => ∃ (j k : Nat) (ws : List Value), j ≤ i ∧ iv = .int .i64 j ∧ k ≤ j ∧ wr.ownsRow T 35 1 ov k ws ∧ NetAt wr B gw nv [l0, l1, { l2 with gone := j }] ∧ Below B w wr ∧ T ≤ wr.heap.size) (fun _ iv _ => i - (intOf iv).toNat)
        case atStart => exact ⟨0, 0, [], by omega, rfl, by omega, World.ownsRow_nil _ _ _ _, hst, hBr, hTe2⟩
        case round =>
          clear hst hTe2 hBr hTe
          obtain ⟨j, k, ws, hjm, rfl, hkj, hown, hN, hBr, hT⟩ := hrel
          have hBs : B ≤ wr.heap.size := Nat.le_trans hBT hT
          by_cases hj : j < i
          · obtain ⟨bb, oo, rfl, hbb, hcc⟩ := HH.out.2 (by omega)
            obtain ⟨A', n', c', cj, hb'⟩ := hcc j hj
            obtain ⟨v, hv⟩ := k3.out.1 j hj
            have hx : (xss.getD j []).length ≤ 140737488355328 := Nat.le_trans (k3.out.2 j hj) (by decide)
            generalize xss.getD j [] = xs at *
            by_cases hjl : j < m1
            · obtain ⟨bf, of_, rfl, hbf, hcf⟩ := HF.out (by omega)
              have cf := (hBr.cell (p := ⟨bf, of_ + j, none⟩) (hBe ▸ hbf)).trans (hcf j hjl)
              clear hcf
              cases hfj : f j with
              | true =>
                rw [hfj] at cf
                have HNl := nlose_some wr B gw nv _ hN 2 { l2 with gone := j } rfl v xs hv hx
                have HN := hide hN
                have HOw := hide hown
                clear hv hN hown hcc hb'
                go_wp2_with fail
                refine HNl.mono ?_
                rintro en w8 ⟨w7, rfl, hN8, b7, b8⟩
                have hN8 : NetAt w8 B gw nv [l0, l1, { l2 with gone := j + 1 }] := hN8
                have B7 : Below B w w7 := hBr.trans (b7.below (blk_lo HN.out (i := 2) rfl) hBs)
                have B8 : Below B w w8 := B7.trans (b8.mono (Nat.le_trans hBs b7.size))
                have hT8 : T ≤ w8.heap.size := Nat.le_trans hT (Nat.le_trans b7.size b8.size)
                have hown8 := own_buts (own_buts HOw.out b7 (fun k hk hk2 => by have := (own_lo HOw.out k hk).1; have := hOl.c k hk2; omega)) (Buts.of b8 []) (fun k hk => by simp)
                have HN8 := hide hN8
                have HOw8 := hide hown8
                clear HNl HN HOw hN8 hown8 b7 b8 B7
                go_wp2_with fail
                go_roundw
                case rel => exact ⟨j + 1, k, ws, by omega, by go_num, by omega, HOw8.out, HN8.out, B8, hT8⟩
                case measure => simp [intOf]; omega
              | false =>
                rw [hfj] at cf
                obtain ⟨i0, hi0, hz0, hs0, hb0⟩ := sl35
                have hown5' := fun (w5 : World) (hb : Below wr.heap.size wr w5) => own_buts hown (Buts.of hb []) (fun k hk => by simp)
                have hN5' := fun (w5 : World) (hb : Below wr.heap.size wr w5) => hN.later hb
                clear hN
                have ci5 := fun (w5 : World) (hb : Below B w w5) => (hb.cell (p := ⟨bb, oo + j, none⟩) (hBe ▸ hbb)).trans cj
                have hHN := hide hN5'
                clear hN5'
                have hHO := hide hown5'
                clear hown5'
                clear hcc
                have ci := ci5 wr hBr
                have hCI := hide ci5
                clear ci5
                have HHv := hide hv
                clear hv
                go_wp2_with (first
                  | ((with_reducible refine wl_build1 rfl 122 (.tmp 69) rfl 35 i0 (.slice none 0 0) (.slice A' n' c') Try.underlying122 hi0 hz0 hs0 rfl rfl rfl ?_); intro g5 w5 r5 p5 q5 b5; have hown5 := hHO.out w5 b5)
                  | ((with_reducible refine wl_append_at rfl (.tmp 65) (.tmp 70) 122 rfl T 35 i0 (.slice none 0 0) 1 24 Try.underlying122 hi0 hz0 hs0 hb0 rfl (by decide) u6 k ws rfl hown5 ⟨g5, 0, none⟩ 1 1 [.slice A' n' c'] rfl rfl (row_src r5) (one_sl _ _ _) (by simp only [maxLen]; omega) (by omega) (Nat.le_trans hT b5.size) ?_); intro ov' w6 hown6 hg6 hloc6))
                have hk6 : ∀ k ∈ u6.ownBlock.toList, T ≤ k := fun k hk => (own_lo hown5 k hk).1
                have bb6 : Buts u6.ownBlock.toList w5 w6 := buts_own hg6 (fun k hk => hk)
                have hN6 := (hHN.out w5 b5).aside (older_gone hOl j) bb6 hk6 (own_notBy' hown5)
                have B6 : Below B w w6 := (hBr.trans (b5.mono hBs)).trans (bb6.below (fun k hk => Nat.le_trans hBT (hk6 k hk)) (Nat.le_trans hBs b5.size))
                have hT6 : T ≤ w6.heap.size := Nat.le_trans hT (Nat.le_trans b5.size bb6.size)
                have hBs6 : B ≤ w6.heap.size := Nat.le_trans hBT hT6
                have HNx := nnext_some w6 B gw nv _ hN6 2 { l2 with gone := j } rfl v xs HHv.out hx
                have HN6 := hide hN6
                clear hown hown5 hg6 hloc6 hk6 bb6 r5 p5 q5 b5 hN6
                go_wp2_with fail
                refine HNx.mono ?_
                rintro en w8 ⟨Ab, nb, cb, w7, rfl, ho, hN7, b7, b8⟩
                have hN8 : NetAt w8 B gw nv [l0, l1, { l2 with gone := j + 1 }] := hN7.later b8
                have B7 : Below B w w7 := B6.trans (b7.below (blk_lo HN6.out (i := 2) rfl) hBs6)
                have B8 : Below B w w8 := B7.trans (b8.mono (Nat.le_trans hBs6 b7.size))
                have hT8 : T ≤ w8.heap.size := Nat.le_trans hT6 (Nat.le_trans b7.size b8.size)
                have hown8 := own_buts (own_buts hown6 b7 (fun k hk hk2 => by have := (own_lo hown6 k hk).1; have := hOl.c k hk2; omega)) (Buts.of b8 []) (fun k hk => by simp)
                have hfr := (hb'.later (hBe ▸ B8) : Bs w8 w8.heap.size A' n' xs)
                have hq := own_bs ho
                have HOw := hide hown8
                obtain ⟨gq, cq, rfl, cl⟩ := own_last hown8
                clear HNx HN6 hN7 b7 b8 B7 hown6 ho B6 hT6 hBs6 hown8
                have HE := equal_self' Ab A' nb n' cb c' xs w8 hq hfr
                have HN8 := hide hN8
                clear hN8 hq hfr ci
                go_wp2_with fail
                refine HE.mono ?_
                rintro en w9 ⟨rfl, rfl⟩
                clear HE cl
                go_wp2_with fail
                go_roundw
                case rel => exact ⟨j + 1, k + 1, _, by omega, by go_num, by omega, HOw.out, HN8.out, B8, hT8⟩
                case measure => simp [intOf]; omega
            · 
              obtain ⟨i0, hi0, hz0, hs0, hb0⟩ := sl35
              have hown5' := fun (w5 : World) (hb : Below wr.heap.size wr w5) => own_buts hown (Buts.of hb []) (fun k hk => by simp)
              have hN5' := fun (w5 : World) (hb : Below wr.heap.size wr w5) => hN.later hb
              clear hN
              have ci5 := fun (w5 : World) (hb : Below B w w5) => (hb.cell (p := ⟨bb, oo + j, none⟩) (hBe ▸ hbb)).trans cj
              have hHN := hide hN5'
              clear hN5'
              have hHO := hide hown5'
              clear hown5'
              clear hcc
              have ci := ci5 wr hBr
              have hCI := hide ci5
              clear ci5
              have HHv := hide hv
              clear hv
              go_wp2_with (first
                | ((with_reducible refine wl_build1 rfl 122 (.tmp 69) rfl 35 i0 (.slice none 0 0) (.slice A' n' c') Try.underlying122 hi0 hz0 hs0 rfl rfl rfl ?_); intro g5 w5 r5 p5 q5 b5; have hown5 := hHO.out w5 b5)
                | ((with_reducible refine wl_append_at rfl (.tmp 65) (.tmp 70) 122 rfl T 35 i0 (.slice none 0 0) 1 24 Try.underlying122 hi0 hz0 hs0 hb0 rfl (by decide) u6 k ws rfl hown5 ⟨g5, 0, none⟩ 1 1 [.slice A' n' c'] rfl rfl (row_src r5) (one_sl _ _ _) (by simp only [maxLen]; omega) (by omega) (Nat.le_trans hT b5.size) ?_); intro ov' w6 hown6 hg6 hloc6))
              have hk6 : ∀ k ∈ u6.ownBlock.toList, T ≤ k := fun k hk => (own_lo hown5 k hk).1
              have bb6 : Buts u6.ownBlock.toList w5 w6 := buts_own hg6 (fun k hk => hk)
              have hN6 := (hHN.out w5 b5).aside (older_gone hOl j) bb6 hk6 (own_notBy' hown5)
              have B6 : Below B w w6 := (hBr.trans (b5.mono hBs)).trans (bb6.below (fun k hk => Nat.le_trans hBT (hk6 k hk)) (Nat.le_trans hBs b5.size))
              have hT6 : T ≤ w6.heap.size := Nat.le_trans hT (Nat.le_trans b5.size bb6.size)
              have hBs6 : B ≤ w6.heap.size := Nat.le_trans hBT hT6
              have HNx := nnext_some w6 B gw nv _ hN6 2 { l2 with gone := j } rfl v xs HHv.out hx
              have HN6 := hide hN6
              clear hown hown5 hg6 hloc6 hk6 bb6 r5 p5 q5 b5 hN6
              go_wp2_with fail
              refine HNx.mono ?_
              rintro en w8 ⟨Ab, nb, cb, w7, rfl, ho, hN7, b7, b8⟩
              have hN8 : NetAt w8 B gw nv [l0, l1, { l2 with gone := j + 1 }] := hN7.later b8
              have B7 : Below B w w7 := B6.trans (b7.below (blk_lo HN6.out (i := 2) rfl) hBs6)
              have B8 : Below B w w8 := B7.trans (b8.mono (Nat.le_trans hBs6 b7.size))
              have hT8 : T ≤ w8.heap.size := Nat.le_trans hT6 (Nat.le_trans b7.size b8.size)
              have hown8 := own_buts (own_buts hown6 b7 (fun k hk hk2 => by have := (own_lo hown6 k hk).1; have := hOl.c k hk2; omega)) (Buts.of b8 []) (fun k hk => by simp)
              have hfr := (hb'.later (hBe ▸ B8) : Bs w8 w8.heap.size A' n' xs)
              have hq := own_bs ho
              have HOw := hide hown8
              obtain ⟨gq, cq, rfl, cl⟩ := own_last hown8
              clear HNx HN6 hN7 b7 b8 B7 hown6 ho B6 hT6 hBs6 hown8
              have HE := equal_self' Ab A' nb n' cb c' xs w8 hq hfr
              have HN8 := hide hN8
              clear hN8 hq hfr ci
              go_wp2_with fail
              refine HE.mono ?_
              rintro en w9 ⟨rfl, rfl⟩
              clear HE cl
              go_wp2_with fail
              go_roundw
              case rel => exact ⟨j + 1, k + 1, _, by omega, by go_num, by omega, HOw.out, HN8.out, B8, hT8⟩
              case measure => simp [intOf]; omega
          · obtain rfl : j = i := by omega
            have HE := nnext_none wr B gw nv _ hN 2 { l2 with gone := j } rfl k2.out.symm
            have HC := ncount_in wr B gw nv _ hN 2 { l2 with gone := j } rfl
            have HW := nwaiting_in wr B gw nv _ hN 1 l1 rfl
            rw [k1.out.1, k1.out.2] at HW
            simp only [k2.out] at HC
            clear hN hown
            go_wp2_with fail
            refine HE.mono ?_
            rintro en w8 ⟨rfl, rfl⟩
            go_wp2_with fail
            refine HC.mono ?_
            rintro en w8 ⟨rfl, rfl⟩
            go_wp2_with fail
            refine HW.mono ?_
            rintro en w8 ⟨rfl, rfl⟩
            go_wp2_with fail
            refine (awake_any wr).mono ?_
            rintro en w9 ⟨rfl, b9⟩
            go_wp2_with fail
            go_ret
            exact ⟨rfl, hBe ▸ (hBr.trans (b9.mono hBs))⟩
end Go.Proofs.Ytlihoijbfffjcaa

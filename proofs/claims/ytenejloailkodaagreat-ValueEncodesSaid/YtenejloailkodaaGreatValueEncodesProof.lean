/- Proved: the law ValueEncodes (P15.2) answers true and leaves its argument as it read before. For every entry; no condition. -/
import Derived.Test.YtenejloailkodaaGreatRows
import Derived.WalkKit
import Derived.SizedLaws
import Derived.ProofKit
import Derived.OpenShut
import Derived.ShutString
import Derived.ChangeOld
import Derived.Below
import Derived.Test.YtenejloailkodaaGreatGK
set_option linter.unusedVariables false
set_option linter.unusedSimpArgs false
/-
  The program's Encode: contract. Own work.
-/
namespace Go.Proofs.YtenejloailkodaaGreat
open Go.RowKit Go.Shelf
theorem encB_len (key : Nm) (x : Vl) (at_ : Int) (hk : key.length ≤ 64) (hf : x.ps.length + x.ls.length + x.ss.length ≤ 200) (ht : lng x.texts = false) : (encB key x at_).length ≤ 900000 := by
  have hT : ∀ t ∈ x.texts, t.length ≤ 512 := fun t h => lng_at ht h
  have hTt : x.t.length ≤ 512 := hT x.t (by simp [Vl.texts])
  have h1 := encP_len x.ps (encC key x at_) (fun p hp => ⟨hT _ (by simp only [Vl.texts, List.mem_append]; exact .inl (.inl (.inr (mem_prT hp).1))), hT _ (by simp only [Vl.texts, List.mem_append]; exact .inl (.inl (.inr (mem_prT hp).2)))⟩)
  have h2 := encL_len x.ls (encP (encC key x at_) x.ps) (fun p hp => hT _ (by simp only [Vl.texts, List.mem_append]; exact .inl (.inr hp)))
  have h3 := encS_len x.ss (encL (encP (encC key x at_) x.ps) x.ls) (fun p hp => hT _ (by simp only [Vl.texts, List.mem_append]; exact .inr (List.mem_map.2 ⟨p, hp, rfl⟩)))
  have h4 := encC_len key x at_
  have h5 := encH_len key at_ x.k
  unfold encB
  split
  · rw [putT_len]; omega
  · omega
set_option maxRecDepth 100000 in
set_option maxHeartbeats 4000000 in
theorem enc_any (w : World) (key : Nm) (x : Vl) (vp vl vs : Value) (at_ : Int) (h : VlM w w.heap.size x vp vl vs) (few : x.Few) (ft : x.t.length ≤ 140737488355328) :
    Calls Tryz.prog 11 #[enV key x vp vl vs at_] w fun e w' => (∃ A n c, e = .returned (.tuple #[.slice A n c, .int .i64 (entC key at_ x.rchk)]) ∧ Bs w' w'.heap.size A n (if entC key at_ x.rchk = 0 then encB key x at_ else [])) ∧ Below w.heap.size w w' := by
  have hM := h
  have HR := fun wz (hb : Below w.heap.size w wz) => entry_any wz key x vp vl vs at_ (fun wy hy => check_any wy x vp vl vs ((h.later hb).later hy) few ft)
  rw [chk_eq] at HR
  replace HR := hide HR
  obtain ⟨ip, hip, hiz, his, hib⟩ := bsI
  obtain ⟨iu, hiu, hzu, hsu, hbu⟩ := u8_info
  obtain ⟨A2, C2, rfl⟩ := h.p.sl
  obtain ⟨A3, C3, rfl⟩ := h.l.sl
  obtain ⟨A4, C4, rfl⟩ := h.s.sl
  have hsz := szEnt key x (.slice A2 x.ps.length C2) (.slice A3 x.ls.length C3) (.slice A4 x.ss.length C4) at_
  obtain ⟨ec, hec⟩ : ∃ ec, ec = entC key at_ x.rchk := ⟨_, rfl⟩
  rw [← hec]
  clear h
  by_cases h0 : ec = 0
  · subst h0
    obtain ⟨hr0, hk64, hat0, hat1⟩ := entC_zero hec.symm
    rw [if_pos rfl]
    replace hec := hide hec
    have hown := rchk_ok hr0
    have hfew := rchk_few hr0
    have hebl := hide (encB_len key x at_ hk64 hfew hown.2)
    have hlt := hide (show lngT x.own.tells = false by rw [← hown.1, lng_tells (ownE hown.1)]; exact hown.2)
    have htn := hide (show x.own.tells.length ≤ 1000 by rw [← hown.1]; have := tells_len (y := x) (s0 := _) rfl; rw [this]; split <;> simp <;> omega)
    have hkey : key.length ≤ 100000 := by omega
    have hat : -9223372036854775808 ≤ at_ ∧ at_ ≤ 9223372036854775807 := ⟨by omega, by omega⟩
    obtain ⟨q, hq⟩ : ∃ q, (x.own.ps.length : Int) + x.own.ls.length + x.own.ss.length = q := ⟨_, rfl⟩
    have hqx : (x.ps.length : Int) + x.ls.length + x.ss.length = q := by rw [← hown.1] at hq; exact hq
    have hqb : -9223372036854775808 ≤ q ∧ q ≤ 9223372036854775807 := ⟨by omega, by omega⟩
    have fo : x.own.Fits := by rw [← hown.1]; exact few.fits ft
    replace hown := hide hown.1
    replace hq := hide hq
    replace hqx := hide hqx
    replace hat0 := hide hat0
    replace hat1 := hide hat1
    clear hr0 hfew hk64
    go_enter Tryz.func11, Tryz.ntmps11
    go_wp2_with (first
      | ((with_reducible refine wl_box (o := ⟨some 1, _, _, _, _, _⟩) rfl 28 (.tmp 0) _ (enC key x (.slice A2 x.ps.length C2) (.slice A3 x.ls.length C3) (.slice A4 x.ss.length C4) at_) rfl rfl rfl ?_); intro g1 w1 r1 p1 l1 b1)
      | (with_reducible refine wl_load_row (o := ⟨some 8, _, _, _, _, _⟩) rfl 28 (.tmp 1) g1 28 (enC key x (.slice A2 x.ps.length C2) (.slice A3 x.ls.length C3) (.slice A4 x.ss.length C4) at_) _ rfl rfl r1 Tryz.underlying28 rfl hsz ?_))
    refine (HR.out w1 b1).mono ?_
    rintro e w2 ⟨rfl, b2⟩
    have B2 := b1.trans (b2.mono b1.size)
    have r12 := r1.later b2
    have c0 := r12.cell (j := 0) rfl
    rw [← hec.out]
    clear HR r1
    go_wp2_with (first
      | ((with_reducible refine wl_alloc (o := ⟨some 5, _, _, _, _, _⟩) rfl 89 nilS [nilS] rfl zeroBB rfl ?_); intro g w3 r5 p5 l5 b3)
      | ((with_reducible refine wl_alloc (o := ⟨some 6, _, _, _, _, _⟩) rfl TPut .nilFunc [.nilFunc] rfl zeroF1 rfl ?_); intro g6 w4 r6 p6 l6 b4)
      | ((with_reducible refine wl_store rfl TPut (.tmp 6) (.tmp 13) g6 0 TPut [.nilFunc] (cPut g) rfl (by kernel_rfl) rfl rfl r6 (by simp) rfl ?_); intro w5 r6s o6; have b5 := b4.trans ((o6.below p6).mono (Nat.le_refl _)))
      | ((with_reducible refine wl_alloc (o := ⟨some 7, _, _, _, _, _⟩) rfl TText .nilFunc [.nilFunc] rfl zeroF2 rfl ?_); intro g7 w6 r7 p7 l7 b6)
      | ((with_reducible refine wl_store rfl TText (.tmp 7) (.tmp 14) g7 0 TText [.nilFunc] (cText g6) rfl (by kernel_rfl) rfl rfl r7 (by simp) rfl ?_); intro w7 r7s o7; have b7 := b6.trans ((o7.below p7).mono (Nat.le_refl _)); have k7 := r7s.cell (j := 0) rfl; have r17 := ((r12.later b3).later b5).later b7; have d0 := r17.cell (j := 0) rfl))
    have B7 := ((B2.trans (b3.mono B2.size)).trans (b5.mono (B2.trans (b3.mono B2.size)).size)).trans (b7.mono ((B2.trans (b3.mono B2.size)).trans (b5.mono (B2.trans (b3.mono B2.size)).size)).size)
    have hg : w.heap.size ≤ g := Nat.le_trans B2.size p5
    have rg : Row w7 89 g [nilS] := (r5.later b5).later b7
    have h6 : Row w7 TPut g6 [cPut g] := Row.later (show Row w5 TPut g6 [cPut g] from r6s) b7
    have h7 : Row w7 TText g7 [cText g6] := r7s
    have hP : Pts w7 w.heap.size g [] := ⟨⟨nilS, [], rg, World.ownsRow_nil _ _ _ _, trivial⟩, hg⟩
    have n1 : g1 ≠ g := r17.neT rg (by decide)
    have n6 : g6 ≠ g := h6.neT rg (by decide)
    have n7 : g7 ≠ g := h7.neT rg (by decide)
    clear r5 r6 r6s r7 r7s o6 o7 b3 b4 b5 b6 b7 r12 k7 d0 rg p5 l5 p6 l6 p7 l7 b1 b2 B2 c0
    refine (put2_any w7 w.heap.size g g6 [] key hP h6 hkey (by simp)).mono ?_
    rintro e w8 ⟨rfl, hP8, u8⟩
    have hP8 : Pts w8 w.heap.size g [putT [] key] := hP8
    have r1 := r17.buT u8 n1 (by decide)
    have h68 := h6.buT u8 n6 (by decide)
    have h78 := h7.buT u8 n7 (by decide)
    have B8 := B7.trans (u8.below hg B7.size)
    clear h6 h7 hP r17 B7 u8
    have h6 := h68
    have hP := hP8
    go_wp2_with fail
    rename_i K8 hK8
    refine wp_region_vals [3, 8, 9, 10] (SN8 g g1 g6 at_ x.k) (JP w8 [3, 8, 9, 10] (FN8 at_ x.k) 3 (fun wz => Pts wz w.heap.size g ([putT [] key] ++ [highB (max at_ 0) 8, [IntKind.u8.wrap x.k]]) ∧ BuT g w.heap.size w8 wz)) (by kernel_rfl) (by kernel_rfl) (by kernel_rfl) (by kernel_rfl) (by kernel_rfl) (JP.start _) ?obs8 ?he8
    case obs8 =>
      refine ⟨?_, ?_, ?_, ?_, ?_, ?_, ?_, ?_, ?_, ?_, ?_, trivial⟩
      · exact .inl ⟨by kernel_rfl, fun L a1 w1 n h => ⟨_, rfl, run_load1 TPut (.tmp 6) g6 0 _ rfl Tryz.isAgg90 (h.var n 6 (by kernel_rfl)) ((h6.later (h.inv.1 ((bits_at rfl).trans (n.later (by kernel_rfl)))).1).cell rfl)⟩⟩
      · refine .inl ⟨by kernel_rfl, fun L a1 w1 n h => ⟨.pointer (some ⟨g1, 6, none⟩), rfl, ?_⟩⟩
        have e0 : a1.eval (.tmp 1) = _ := h.var n 1 (by kernel_rfl)
        unfold execOp
        simp only [e0]
        go_simp
      · exact .inl ⟨by kernel_rfl, fun L a1 w1 n h => ⟨_, rfl, run_load1 3 (.tmp 20) g1 6 _ rfl Tryz.isAgg3 (h.dep n 1 20 (by kernel_rfl) rfl) ((r1.later (h.inv.1 ((bits_at rfl).trans (n.later (by kernel_rfl)))).1).cell rfl)⟩⟩
      · refine .inr fun L a1 w1 n h K hK => ?_
        have no : L.getD 10 false = false := n.later (by kernel_rfl)
        have hK := JP.cont hK no rfl (by decide)
        have h := JP.down h no rfl
        have e1 : a1.eval (.tmp 21) = .int .i64 at_ := h.dep n 2 21 (by kernel_rfl) rfl
        refine JF.call (FN8_mono at_ x.k) h hK 22 rfl 46 _ _ #[nilS, .int .i64 at_] rfl Tryz.call46 ?_ (packPutNum_U none 0 0 [] at_ w1 Bs.nil_ (by decide) hat.1 hat.2) ?_
        · simp only [List.map_toArray, List.map_cons, List.map_nil, e1]; rfl
        · rintro e w3 ⟨A9, n9, c9, rfl, hb9, b9⟩
          exact ⟨_, rfl, trivial, ⟨A9, n9, c9, rfl, by simpa using hb9⟩, b9⟩
      · refine .inl ⟨by kernel_rfl, fun L a1 w1 n h => ⟨.pointer (some ⟨g1, 1, none⟩), rfl, ?_⟩⟩
        have e0 : a1.eval (.tmp 1) = _ := h.var n 1 (by kernel_rfl)
        unfold execOp
        simp only [e0]
        go_simp
      · refine .inl ⟨by kernel_rfl, fun L a1 w1 n h => ⟨.pointer (some ⟨g1, 1, none⟩), rfl, ?_⟩⟩
        have e0 : a1.eval (.tmp 23) = _ := h.dep n 4 23 (by kernel_rfl) rfl
        unfold execOp
        simp only [e0]
        go_simp
      · exact .inl ⟨by kernel_rfl, fun L a1 w1 n h => ⟨_, rfl, run_load1 3 (.tmp 24) g1 1 _ rfl Tryz.isAgg3 (h.dep n 5 24 (by kernel_rfl) rfl) ((r1.later (h.inv.1 ((bits_at rfl).trans (n.later (by kernel_rfl)))).1).cell rfl)⟩⟩
      · refine .inl ⟨by kernel_rfl, fun L a1 w1 n h => ⟨.int .u8 (IntKind.u8.wrap x.k), rfl, ?_⟩⟩
        have e0 : a1.eval (.tmp 25) = _ := h.dep n 6 25 (by kernel_rfl) rfl
        unfold execOp
        simp only [e0]
        go_simp
      · refine .inr fun L a1 w1 n h K hK => ?_
        have no : L.getD 10 false = false := n.later (by kernel_rfl)
        have hK := JP.cont hK no rfl (by decide)
        have h := JP.down h no rfl
        have e0 : a1.eval (.tmp 26) = .int .u8 (IntKind.u8.wrap x.k) := h.dep n 7 26 (by kernel_rfl) rfl
        refine st_build1 31 (.tmp 26) rfl 5 iu (.int .u8 0) (.int .u8 (IntKind.u8.wrap x.k)) Tryz.underlying31 hiu hzu hsu rfl e0 rfl ?_
        intro g8 w3 r8 p8 l8 b8
        exact JF.few (FN8_mono at_ x.k) h hK 27 rfl _ trivial ⟨some ⟨g8, 0, none⟩, 1, 1, rfl, Row.bs (A := []) (C := []) (xs := [IntKind.u8.wrap x.k]) r8 rfl r8.lt, fun p hp => by injection hp with hp; subst hp; exact ⟨_, _, r8⟩⟩ b8
      · refine .inr fun L a1 w1 n h K hK => ?_
        have no : L.getD 10 false = false := n.later (by kernel_rfl)
        have hK := JP.cont hK no rfl (by decide)
        have h := JP.down h no rfl
        obtain ⟨A1, n1, c1, v1, hb1⟩ := JF.get h n 3 22 (by kernel_rfl) (by kernel_rfl) rfl
        obtain ⟨A2, n2, c2, v2, hb2⟩ := JF.get h n 8 27 (by kernel_rfl) (by kernel_rfl) rfl
        refine st_build2P 89 (.tmp 22) (.tmp 27) rfl TSB ip nilS (.slice A1 n1 c1) (.slice A2 n2 c2) Tryz.underlying89 hip hiz his rfl v1 v2 rfl rfl ?_
        have b8 : Below w1.heap.size w1 (w1.alloc (.cells #[.slice A1 n1 c1, .slice A2 n2 c2] TSB)) := (Below.refl _ _).alloc (Nat.le_refl _) _
        exact JF.few (FN8_mono at_ x.k) h hK 28 rfl _ trivial ⟨w1.heap.size, [.slice A1 n1 c1, .slice A2 n2 c2], rfl, (by unfold Row; exact heap_alloc_new _ _), ⟨⟨A1, n1, c1, rfl, hb1.later b8⟩, ⟨A2, n2, c2, rfl, hb2.later b8⟩, trivial⟩⟩ b8
      · refine .inr fun L a1 w1 n h0 K hK => ?_
        have no : L.getD 10 false = false := n.not_yet
        have h := JP.down h0 no rfl
        have e3 : a1.eval (.tmp 19) = cPut g := h.dep n 0 19 (by kernel_rfl) rfl
        obtain ⟨gs, vs, e7, r7, s7⟩ := JF.get h n 9 28 (by kernel_rfl) (by kernel_rfl) rfl
        refine st_callF1 43 (.tmp 19) (.tmp 28) _ (.slice (some ⟨gs, 0, none⟩) 2 2) #[ptr g] rfl e3 e7 callE1 (put1_any w1 w.heap.size g gs 2 vs _ [highB (max at_ 0) 8, [IntKind.u8.wrap x.k]] (hP.later h.inv.1) r7 s7 rfl (by simp)) ?_
        rintro e w3 ⟨rfl, hP3, u3⟩
        exact ⟨_, rfl, hK _ w3 trivial (JP.done rfl ⟨hP3, (BuT.of h.inv.1 g w.heap.size).trans u3⟩)⟩
    case he8 =>
      intro V w9 hV hJ
      obtain ⟨hP9, u9⟩ := hJ.2 rfl
      clear hV hJ hP hP8
      simp only [putOps, List.setIfInBounds_toArray, List.set_cons_succ, List.set_cons_zero, Nat.reduceAdd]
      refine hK8 _ _ ?_
      have r19 := r1.buT u9 n1 (by decide)
      have h69 := h68.buT u9 n6 (by decide)
      have h79 := h78.buT u9 n7 (by decide)
      have B9 := B8.trans (u9.below hg B8.size)
      have d1 := r19.cell (j := 1) rfl
      clear h6 h68 h78 r1 B8 u9
      generalize V 0 = y0
      generalize V 1 = y1
      generalize V 2 = y2
      generalize V 3 = y3
      generalize V 4 = y4
      generalize V 5 = y5
      generalize V 6 = y6
      generalize V 7 = y7
      generalize V 8 = y8
      generalize V 9 = y9
      generalize V 10 = y10
      by_cases hk1 : x.k = 1
      · have f1 : (x.k != 1) = false := by simp [hk1]
        have f2 : decide (x.k = 1) = true := decide_eq_true hk1
        have f3 : (x.k == 1) = true := by simp [hk1]
        replace hk1 := hide hk1
        have hgw := (hP9.row).choose_spec.lt
        go_wp2_with (first
          | (with_reducible refine wl_load_part (o := ⟨some 42, _, _, _, _, _⟩) rfl 26 (.tmp 41) g1 1 28 [encStr key] (vlC x (.slice A2 x.ps.length C2) (.slice A3 x.ls.length C3) (.slice A4 x.ss.length C4)) [.int .i64 at_] _ rfl rfl r19 rfl Tryz.underlying26 rfl (by kernel_rfl) ?_))
        have hP0 := (show ESt w.heap.size g g6 g7 ([putT [] key] ++ [highB (max at_ 0) 8, [IntKind.u8.wrap x.k]]) x.own 0 w9 from ⟨by simpa [tellB] using hP9, h69, h79⟩)
        refine (eachT_any w9 x _ _ _ w.heap.size g (hM.below B9) hg hgw few.own 49 #[ptr g7, ptr g6] _ (tellEnc x.own w.heap.size g g6 g7 ([putT [] key] ++ [highB (max at_ 0) 8, [IntKind.u8.wrap x.k]]) hlt.out (by simp) htn.out) hP0).mono ?_
        rintro e wz ⟨rfl, ⟨hPz, h6z, h7z⟩, uz⟩
        rw [List.take_length] at hPz
        have Bz := B9.trans (uz.below hg (B9.size))
        obtain ⟨⟨pv, vs, rpz, opz, slz⟩, _⟩ := hPz
        have hlz := slz.len
        have cz := rpz.cell (j := 0) rfl
        obtain ⟨PA, pc, rfl⟩ : ∃ PA pc, pv = .slice PA (([putT [] key] ++ [highB (max at_ 0) 8, [IntKind.u8.wrap x.k]]) ++ tellB x.own.tells).length pc := by
          rcases opz.2 with ⟨rfl, h0⟩ | ⟨g, cap, cur, rfl, _⟩
          · exact ⟨none, 0, by rw [h0]⟩
          · exact ⟨_, cap, rfl⟩
        have hbz : Bss wz wz.heap.size PA (([putT [] key] ++ [highB (max at_ 0) 8, [IntKind.u8.wrap x.k]]) ++ tellB x.own.tells).length (([putT [] key] ++ [highB (max at_ 0) 8, [IntKind.u8.wrap x.k]]) ++ tellB x.own.tells) := by
          refine ⟨rfl, fun h0 => ?_⟩
          rcases opz.2 with ⟨e, h0'⟩ | ⟨g, cap, cur, e, _, hgz, _⟩
          · omega
          · injection e with e1 e2 e3
            subst e1
            refine ⟨g, 0, rfl, (Array.getElem?_eq_some_iff.1 hgz).1, fun j hj => ?_⟩
            obtain ⟨A', n', c', q1, q2⟩ := slz.at j hj
            refine ⟨A', n', c', ?_, q2.1⟩
            rw [Nat.zero_add]
            exact (by have h9 := opz.cells (g := g) rfl j _ q1; rw [addr_plain, Nat.zero_add] at h9; exact h9)
        have hfz : (([putT [] key] ++ [highB (max at_ 0) 8, [IntKind.u8.wrap x.k]]) ++ tellB x.own.tells).flatten = encB key x at_ := by
          have := enc_flat (key := key) (at_ := at_) hown.out
          rw [← hown.out]
          rw [encX] at this
          simpa [hk1.out] using this
        have hne : ((([putT [] key] ++ [highB (max at_ 0) 8, [IntKind.u8.wrap x.k]]) ++ tellB x.own.tells).flatten).length ≤ 900000 := by rw [hfz]; exact hebl.out
        have hnl : (([putT [] key] ++ [highB (max at_ 0) 8, [IntKind.u8.wrap x.k]]) ++ tellB x.own.tells).length ≤ 1000000 := by
          have := tellB_len x.own.tells (fun t ht => tells_two ht)
          have := htn.out
          rw [List.length_append]
          simp only [List.length_append, List.length_cons, List.length_nil]
          omega
        generalize hXX : ([putT [] key] ++ [highB (max at_ 0) 8, [IntKind.u8.wrap x.k]]) ++ tellB x.own.tells = XX at *
        replace opz := hide opz
        replace slz := hide slz
        replace hbz := hide hbz
        replace hfz := hide hfz
        replace hne := hide hne
        replace hnl := hide hnl
        replace hXX := hide hXX
        go_wp2_with fail
        refine (join_any PA XX.length pc XX wz hbz.out hnl.out (by have := hne.out; show (XX.take XX.length).flatten.length ≤ _; rw [List.take_length]; omega)).mono ?_
        rintro e wq ⟨A9, n9, c9, rfl, hb9, _, _, b9⟩
        go_wp2_with fail
        go_ret2
        exact ⟨⟨A9, n9, c9, rfl, by rw [← hfz.out]; exact hb9⟩, Bz.trans (b9.mono Bz.size)⟩
      · have f1 : (x.k != 1) = true := by simp [hk1]
        have f2 : decide (x.k = 1) = false := decide_eq_false hk1
        have f3 : (x.k == 1) = false := by simp [hk1]
        replace hk1 := hide hk1
        have r1 := r19
        have h6 := h69
        have hP := hP9
        replace hM := hM
        have hMw := hM
        go_wp2_with fail
        rename_i KA hKA
        refine wp_region_vals [3, 4, 5, 6] (SNA g g1 g6 C2 C3 C4 A2 A3 A4 x q) (JP w9 [3, 4, 5, 6] (FNA q) 3 (fun wz => Pts wz w.heap.size g ([putT [] key] ++ [highB (max at_ 0) 8, [IntKind.u8.wrap x.k]] ++ [highB (max q 0) 8]) ∧ BuT g w.heap.size w9 wz)) (by kernel_rfl) (by kernel_rfl) (by kernel_rfl) (by kernel_rfl) (by kernel_rfl) (JP.start _) ?obsA ?heA
        case obsA =>
          refine ⟨?_, ?_, ?_, ?_, ?_, ?_, ?_, trivial⟩
          · exact .inl ⟨by kernel_rfl, fun L a1 w1 n h => ⟨_, rfl, run_load1 TPut (.tmp 6) g6 0 _ rfl Tryz.isAgg90 (h.var n 6 (by kernel_rfl)) ((h6.later (h.inv.1 ((bits_at rfl).trans (n.later (by kernel_rfl)))).1).cell rfl)⟩⟩
          · refine .inl ⟨by kernel_rfl, fun L a1 w1 n h => ⟨.pointer (some ⟨g1, 1, none⟩), rfl, ?_⟩⟩
            have e0 : a1.eval (.tmp 1) = _ := h.var n 1 (by kernel_rfl)
            unfold execOp
            simp only [e0]
            go_simp
          · exact .inl ⟨by kernel_rfl, fun L a1 w1 n h => ⟨_, rfl, run_loadP 26 (.tmp 35) g1 1 TE [encStr key] (vlC x (.slice A2 x.ps.length C2) (.slice A3 x.ls.length C3) (.slice A4 x.ss.length C4)) [.int .i64 at_] _ rfl (h.dep n 1 35 (by kernel_rfl) rfl) (r1.later (h.inv.1 ((bits_at rfl).trans (n.later (by kernel_rfl)))).1) rfl Tryz.underlying26 rfl (szVl x _ _ _)⟩⟩
          · refine .inr fun L a1 w1 n h K hK => ?_
            have no : L.getD 6 false = false := n.later (by kernel_rfl)
            have hK := JP.cont hK no rfl (by decide)
            have h := JP.down h no rfl
            have e0 : a1.eval (.tmp 36) = vlV x (.slice A2 x.ps.length C2) (.slice A3 x.ls.length C3) (.slice A4 x.ss.length C4) := h.dep n 2 36 (by kernel_rfl) rfl
            refine JF.call (FNA_mono q) h hK 37 rfl 47 _ _ #[vlV x (.slice A2 x.ps.length C2) (.slice A3 x.ls.length C3) (.slice A4 x.ss.length C4)] rfl Tryz.call47 ?_ (count_any w1 x _ _ _ ((hM.below (B9.trans (h.inv.1.mono B9.size))).up (B9.trans (h.inv.1.mono B9.size)).size) fo) ?_
            · simp only [List.map_toArray, List.map_cons, List.map_nil, e0]
            · rintro e w3 ⟨rfl, b9⟩
              exact ⟨_, rfl, (show Value.int .i64 _ = Value.int .i64 _ by rw [hq.out]), trivial, b9⟩
          · refine .inr fun L a1 w1 n h K hK => ?_
            have no : L.getD 6 false = false := n.later (by kernel_rfl)
            have hK := JP.cont hK no rfl (by decide)
            have h := JP.down h no rfl
            have e1 : a1.eval (.tmp 37) = .int .i64 q := h.dep n 3 37 (by kernel_rfl) rfl
            refine JF.call (FNA_mono q) h hK 38 rfl 46 _ _ #[nilS, .int .i64 q] rfl Tryz.call46 ?_ (packPutNum_U none 0 0 [] q w1 Bs.nil_ (by decide) hqb.1 hqb.2) ?_
            · simp only [List.map_toArray, List.map_cons, List.map_nil, e1]; rfl
            · rintro e w3 ⟨A9, n9, c9, rfl, hb9, b9⟩
              exact ⟨_, rfl, trivial, ⟨A9, n9, c9, rfl, by simpa using hb9⟩, b9⟩
          · refine .inr fun L a1 w1 n h K hK => ?_
            have no : L.getD 6 false = false := n.later (by kernel_rfl)
            have hK := JP.cont hK no rfl (by decide)
            have h := JP.down h no rfl
            obtain ⟨A1, n1, c1, v1, hb1⟩ := JF.get h n 4 38 (by kernel_rfl) (by kernel_rfl) rfl
            refine st_build1 89 (.tmp 38) rfl TSB ip nilS (.slice A1 n1 c1) Tryz.underlying89 hip hiz his rfl v1 rfl ?_
            intro g8 w3 r8 p8 l8 b8
            exact JF.few (FNA_mono q) h hK 39 rfl _ trivial ⟨g8, _, rfl, r8, ⟨⟨A1, n1, c1, rfl, hb1.later b8⟩, trivial⟩⟩ b8
          · refine .inr fun L a1 w1 n h0 K hK => ?_
            have no : L.getD 6 false = false := n.not_yet
            have h := JP.down h0 no rfl
            have e3 : a1.eval (.tmp 34) = cPut g := h.dep n 0 34 (by kernel_rfl) rfl
            obtain ⟨gs, vs, e7, r7, s7⟩ := JF.get h n 5 39 (by kernel_rfl) (by kernel_rfl) rfl
            refine st_callF1 43 (.tmp 34) (.tmp 39) _ (.slice (some ⟨gs, 0, none⟩) 1 1) #[ptr g] rfl e3 e7 callE1 (put1_any w1 w.heap.size g gs 1 vs _ [highB (max q 0) 8] (hP.later h.inv.1) r7 s7 rfl (by simp)) ?_
            rintro e w3 ⟨rfl, hP3, u3⟩
            exact ⟨_, rfl, hK _ w3 trivial (JP.done rfl ⟨hP3, (BuT.of h.inv.1 g w.heap.size).trans u3⟩)⟩
        case heA =>
          intro V wA hV hJ
          obtain ⟨hPA, uA⟩ := hJ.2 rfl
          clear hV hJ hP hP9
          simp only [putOps, List.setIfInBounds_toArray, List.set_cons_succ, List.set_cons_zero, Nat.reduceAdd]
          refine hKA _ _ ?_
          have r1A := r19.buT uA n1 (by decide)
          have h6A := h69.buT uA n6 (by decide)
          have h7A := h79.buT uA n7 (by decide)
          have BA := B9.trans (uA.below hg B9.size)
          have hgw := (hPA.row).choose_spec.lt
          clear h6 h69 h79 r1 r19 B9 uA
          generalize V 0 = z0
          generalize V 1 = z1
          generalize V 2 = z2
          generalize V 3 = z3
          generalize V 4 = z4
          generalize V 5 = z5
          generalize V 6 = z6
          go_wp2_with (first
            | (with_reducible refine wl_load_part (o := ⟨some 42, _, _, _, _, _⟩) rfl 26 (.tmp 41) g1 1 28 [encStr key] (vlC x (.slice A2 x.ps.length C2) (.slice A3 x.ls.length C3) (.slice A4 x.ss.length C4)) [.int .i64 at_] _ rfl rfl r1A rfl Tryz.underlying26 rfl (by kernel_rfl) ?_))
          have hP0 := (show ESt w.heap.size g g6 g7 ([putT [] key] ++ [highB (max at_ 0) 8, [IntKind.u8.wrap x.k]] ++ [highB (max q 0) 8]) x.own 0 wA from ⟨by simpa [tellB] using hPA, h6A, h7A⟩)
          refine (eachT_any wA x _ _ _ w.heap.size g (hM.below BA) hg hgw few.own 49 #[ptr g7, ptr g6] _ (tellEnc x.own w.heap.size g g6 g7 ([putT [] key] ++ [highB (max at_ 0) 8, [IntKind.u8.wrap x.k]] ++ [highB (max q 0) 8]) hlt.out (by simp) htn.out) hP0).mono ?_
          rintro e wz ⟨rfl, ⟨hPz, h6z, h7z⟩, uz⟩
          rw [List.take_length] at hPz
          have Bz := BA.trans (uz.below hg (BA.size))
          obtain ⟨⟨pv, vs, rpz, opz, slz⟩, _⟩ := hPz
          have hlz := slz.len
          have cz := rpz.cell (j := 0) rfl
          obtain ⟨PA, pc, rfl⟩ : ∃ PA pc, pv = .slice PA (([putT [] key] ++ [highB (max at_ 0) 8, [IntKind.u8.wrap x.k]] ++ [highB (max q 0) 8]) ++ tellB x.own.tells).length pc := by
            rcases opz.2 with ⟨rfl, h0⟩ | ⟨g, cap, cur, rfl, _⟩
            · exact ⟨none, 0, by rw [h0]⟩
            · exact ⟨_, cap, rfl⟩
          have hbz : Bss wz wz.heap.size PA (([putT [] key] ++ [highB (max at_ 0) 8, [IntKind.u8.wrap x.k]] ++ [highB (max q 0) 8]) ++ tellB x.own.tells).length (([putT [] key] ++ [highB (max at_ 0) 8, [IntKind.u8.wrap x.k]] ++ [highB (max q 0) 8]) ++ tellB x.own.tells) := by
            refine ⟨rfl, fun h0 => ?_⟩
            rcases opz.2 with ⟨e, h0'⟩ | ⟨g, cap, cur, e, _, hgz, _⟩
            · omega
            · injection e with e1 e2 e3
              subst e1
              refine ⟨g, 0, rfl, (Array.getElem?_eq_some_iff.1 hgz).1, fun j hj => ?_⟩
              obtain ⟨A', n', c', q1, q2⟩ := slz.at j hj
              refine ⟨A', n', c', ?_, q2.1⟩
              rw [Nat.zero_add]
              exact (by have h9 := opz.cells (g := g) rfl j _ q1; rw [addr_plain, Nat.zero_add] at h9; exact h9)
          have hfz : (([putT [] key] ++ [highB (max at_ 0) 8, [IntKind.u8.wrap x.k]] ++ [highB (max q 0) 8]) ++ tellB x.own.tells).flatten = encB key x at_ := by
            have := enc_flat (key := key) (at_ := at_) hown.out
            rw [← hown.out]
            rw [encX] at this
            simpa [hk1.out, hqx.out] using this
          have hne : ((([putT [] key] ++ [highB (max at_ 0) 8, [IntKind.u8.wrap x.k]] ++ [highB (max q 0) 8]) ++ tellB x.own.tells).flatten).length ≤ 900000 := by rw [hfz]; exact hebl.out
          have hnl : (([putT [] key] ++ [highB (max at_ 0) 8, [IntKind.u8.wrap x.k]] ++ [highB (max q 0) 8]) ++ tellB x.own.tells).length ≤ 1000000 := by
            have := tellB_len x.own.tells (fun t ht => tells_two ht)
            have := htn.out
            rw [List.length_append]
            simp only [List.length_append, List.length_cons, List.length_nil]
            omega
          generalize hXX : ([putT [] key] ++ [highB (max at_ 0) 8, [IntKind.u8.wrap x.k]] ++ [highB (max q 0) 8]) ++ tellB x.own.tells = XX at *
          replace opz := hide opz
          replace slz := hide slz
          replace hbz := hide hbz
          replace hfz := hide hfz
          replace hne := hide hne
          replace hnl := hide hnl
          replace hXX := hide hXX
          go_wp2_with fail
          refine (join_any PA XX.length pc XX wz hbz.out hnl.out (by have := hne.out; show (XX.take XX.length).flatten.length ≤ _; rw [List.take_length]; omega)).mono ?_
          rintro e wq ⟨A9, n9, c9, rfl, hb9, _, _, b9⟩
          go_wp2_with fail
          go_ret2
          exact ⟨⟨A9, n9, c9, rfl, by rw [← hfz.out]; exact hb9⟩, Bz.trans (b9.mono Bz.size)⟩
  · rw [if_neg h0]
    replace hec := hide hec
    go_enter Tryz.func11, Tryz.ntmps11
    go_wp2_with (first
      | ((with_reducible refine wl_box (o := ⟨some 1, _, _, _, _, _⟩) rfl 28 (.tmp 0) _ (enC key x (.slice A2 x.ps.length C2) (.slice A3 x.ls.length C3) (.slice A4 x.ss.length C4) at_) rfl rfl rfl ?_); intro g1 w1 r1 p1 l1 b1)
      | (with_reducible refine wl_load_row (o := ⟨some 8, _, _, _, _, _⟩) rfl 28 (.tmp 1) g1 28 (enC key x (.slice A2 x.ps.length C2) (.slice A3 x.ls.length C3) (.slice A4 x.ss.length C4) at_) _ rfl rfl r1 Tryz.underlying28 rfl hsz ?_))
    refine (HR.out w1 b1).mono ?_
    rintro e w2 ⟨rfl, b2⟩
    have B2 := b1.trans (b2.mono b1.size)
    rw [← hec.out]
    clear HR r1
    have hd1 : decide (ec = 0) = false := decide_eq_false h0
    have hd2 : (ec == 0) = false := beq_eq_false_iff_ne.2 h0
    go_wp2_with fail
    go_ret2
    exact ⟨⟨none, 0, 0, rfl, Bs.nil_⟩, B2⟩
end Go.Proofs.YtenejloailkodaaGreat

/-
  The law ValueEncodes. Own work.
-/
namespace Go.Proofs.YtenejloailkodaaGreat
open Go.RowKit Go.Shelf
set_option maxRecDepth 100000 in
set_option maxHeartbeats 2000000 in
theorem valueEncodes_any (w : World) (key : Nm) (x : Vl) (vp vl vs : Value) (at_ : Int) (hx : VlM w w.heap.size x vp vl vs) (fx : x.Fits) (hcp : ∃ A c, vs = .slice A x.ss.length c ∧ x.ss.length ≤ c) (hky : key.length ≤ 140737488355328) :
    Calls Tryz.prog 3 #[enV key x vp vl vs at_] w fun e w' => e = .returned (.bool true) ∧ Below w.heap.size w w' := by
  have HA := awake_any
  have hsz := szVl x vp vl vs
  have hse := szEnt key x vp vl vs at_
  have hst := str_len key
  have hcp := hide hcp
  replace hcp := hcp.out
  go_enter Tryz.func3, Tryz.ntmps3
  go_wp2_with (first
    | ((with_reducible refine wl_box (o := ⟨some 1, _, _, _, _, _⟩) rfl 28 (.tmp 0) _ (enC key x vp vl vs at_) rfl rfl rfl ?_); intro g1 w1 r1 p1 l1 b1)
    | (with_reducible refine wl_load_part (o := ⟨some 8, _, _, _, _, _⟩) rfl 26 (.tmp 7) g1 1 28 [encStr key] (vlC x vp vl vs) [.int .i64 at_] _ rfl rfl r1 rfl Tryz.underlying26 rfl hsz ?_))
  refine (light_any w1 x vp vl vs (hx.later b1) fx).mono ?_
  rintro e w2 ⟨⟨b, rfl, hfew⟩, b2⟩
  have B2 := b1.trans (b2.mono b1.size)
  have r2 := r1.later b2
  have c0 := r2.cell (j := 0) rfl
  cases b with
  | false =>
    go_wp2_with fail
    refine (HA w2).mono ?_
    rintro e w5 ⟨rfl, b5⟩
    go_wp2_with fail
    go_ret
    exact ⟨rfl, B2.trans (b5.mono B2.size)⟩
  | true =>
    have few := hfew rfl
    have h2 := hx.later B2
    clear hfew
    by_cases hk : 200 < key.length
    · have hkI : (200 : Int) < (key.length : Int) := by omega
      go_wp2_with fail
      refine (HA w2).mono ?_
      rintro e w5 ⟨rfl, b5⟩
      go_wp2_with fail
      go_ret
      exact ⟨rfl, B2.trans (b5.mono B2.size)⟩
    · have hkI : ¬ (200 : Int) < (key.length : Int) := by omega
      have HE := enc_any w2 key x vp vl vs at_ h2 few fx.t
      have HR := fun wz (hb : Below w2.heap.size w2 wz) => rencode_any wz key x vp vl vs at_ (h2.later hb) few fx.t hcp
      generalize (if entC key at_ x.rchk = 0 then encB key x at_ else []) = ys at HE HR
      generalize entC key at_ x.rchk = ec at HE HR
      replace HR := hide HR
      clear hx h2 few fx hcp hky r1
      go_wp2_with (first
        | (with_reducible refine wl_load_row (o := ⟨some 19, _, _, _, _, _⟩) rfl 28 (.tmp 1) g1 28 (enC key x vp vl vs at_) _ rfl rfl r2 Tryz.underlying28 rfl hse ?_))
      refine HE.mono ?_
      rintro e w3 ⟨⟨A, n, c, rfl, hb⟩, b3⟩
      have B3 := B2.trans (b3.mono B2.size)
      have r3 := r2.later b3
      clear c0
      go_wp2_with (first
        | (with_reducible refine wl_load_row (o := ⟨some 24, _, _, _, _, _⟩) rfl 28 (.tmp 1) g1 28 (enC key x vp vl vs at_) _ rfl rfl r3 Tryz.underlying28 rfl hse ?_))
      refine (HR.out w3 b3).mono ?_
      rintro e w4 ⟨⟨A', n', c', rfl, hb'⟩, b4⟩
      have B4 := B3.trans (b4.mono B3.size)
      have HQ := equal_any A A' n n' c c' ys ys w4 (hb.later b4) hb'
      rw [beq_self_eq_true] at HQ
      go_wp2_with fail
      refine HQ.mono ?_
      rintro e w5 ⟨rfl, rfl⟩
      go_wp2_with fail
      refine (HA _).mono ?_
      rintro e w6 ⟨rfl, b6⟩
      go_wp2_with fail
      go_ret
      exact ⟨rfl, B4.trans (b6.mono B4.size)⟩
end Go.Proofs.YtenejloailkodaaGreat

/- Proved: the law ValueEncodes (P15.2) answers true and leaves its argument as it read before. For every entry; no condition. -/
namespace Go.Proofs.YtenejloailkodaaGreat.valueEncodes
open Go.ChangeShapes Go.WideShapes Go.ChangeAt Go.RowKit

theorem own : ownKnob Tryz.prog.godebug = none := by kernel_rfl
theorem laidOut : laidOutB Tryz.prog = true := by kernel_rfl

set_option maxRecDepth 100000 in
theorem lifted (os : Os) (started : os.Started) (H : Type) (enc : TypeId × Value → H) :
    ReturnsInHanded {} Tryz.checked os 3 .any (Rows.valueEncodesSpec.pre6 enc Tryz.prog Tryz.f3 Rows.valueEncodesRow.domain false) (Rows.valueEncodesSpec.post enc Tryz.prog Tryz.f3 false true false false) := by
  refine returnsInHanded_of_change_sized (C := Tryz.checked) own started (by kernel_rfl) Tryz.func3
    (ChangeSpec.witness6 (enc := enc) (C := Tryz.checked) false ⟨#[], #[.agg #[.string ByteArray.empty, .int .i64 0, .string ByteArray.empty, .slice none 0 0, .slice none 0 0, .slice none 0 0, .int .i64 0]], []⟩ 8 (by kernel_rfl) (by kernel_rfl) (by kernel_rfl) (by kernel_rfl)) ?_
  intro W base args ds gs before hval0 hW hcnd hsz0 _
  have hsz : (DataW.weightsEach Tryz.prog (Tryz.f3.params.toList ++ Rows.valueEncodesSpec.plain.varTypes Tryz.prog) (ds ++ gs)).all (· ≤ reachBytes) = true := hsz0
  have hval : ∀ (j : Nat) t v, Tryz.f3.params[j]? = some t → args[j]? = some v → Value.okWide Tryz.prog W .any base t v := hval0
  have hW' := hW
  obtain ⟨p, q, hA0, hV, rfl, hfz, hnd⟩ := hW
  have hA : DataW.TrodAll enc Tryz.prog W 0 (fun _ => true) true Tryz.f3.params.toList args.toList ds p := hA0
  rw [Tryz.params3] at hA hval hsz
  obtain ⟨v0, vs0, d0, ds0, p0, q0, hargs, rfl, rfl, h0, r0⟩ := trodAll_cons hA
  obtain ⟨rfl, rfl, rfl⟩ := trodAll_nil r0
  obtain rfl : args = #[v0] := by cases args; simp_all
  obtain ⟨rfl, rfl⟩ := trodVars_none hV
  have k0 := h0
  have lt0 : ∀ x ∈ p0, x.block < W.heap.size := by obtain ⟨m, hm⟩ := k0; exact DataW.trod_lt m _ _ _ hm
  clear hA0 hval0 hsz0
  obtain ⟨cs0, rfl⟩ : ∃ cs : List Value, v0 = .agg cs.toArray := by
    have := hval 0 28 v0 rfl rfl
    obtain ⟨cs, rfl, _⟩ : ∃ cs, v0 = .agg cs ∧ cs.size = Tryz.prog.cellsOf 28 ∧ Row.okWide Tryz.prog W .any base 28 cs := by
      simpa [Value.okWide, Tryz.underlying28] using this
    exact ⟨cs.toList, by simp⟩
  have kk0 := k0
  obtain ⟨fuel0, hf0⟩ := kk0
  have z0 : ∀ n ∈ d0.weights Tryz.prog 28, n ≤ reachBytes := fun n hn => by
    have := List.all_eq_true.1 hsz n (DataW.weights_mem_each (j := 0) rfl rfl n hn)
    simpa using this
  obtain ⟨y0, q0, p0p, p0l, p0s, t0, hcs0, m0, f0, c0, b0, i0⟩ := open_entry hf0 z0
  obtain rfl : cs0 = _ := hcs0
  refine (valueEncodes_any W y0 q0 _ _ _ t0 m0 f0 c0 b0).mono fun e W' ⟨he, bel⟩ => ?_
  subst he
  exact ⟨_, rfl, _, _, _, [], _, [], hW', trodAll_mk1 (shut_bool Tryz.underlying4 _), (trodAll_cons_mk (Below.trod laidOut (by kernel_rfl) (of_decide_eq_true (by kernel_rfl)) k0 bel lt0) trodAll_mk0), rfl, bel.frame _, fun h => by cases h⟩

theorem over : Rows.valueEncodesRow.holds Tryz.pinned (OpenSpec.ofChange Rows.valueEncodesSpec) :=
  OpenClaim.holds_of_wide 3 Tryz.f3 rfl rfl rfl rfl rfl rfl rfl ⟨rfl, rfl, rfl, rfl, rfl⟩ rfl rfl rfl rfl rfl (by kernel_rfl) Tryz.func3 (by kernel_rfl)
    (of_decide_eq_true (by kernel_rfl)) (by unfold Func.isWrapper; first | (rw [if_pos (by decide +kernel)]; kernel_rfl) | (rw [if_neg (by decide +kernel)]; exact ⟨rfl, rfl⟩))
    (fun os started H enc _ => lifted os started H enc)

/-- The given statement. -/
theorem proved : Rows.ValueEncodesSaid := over
#print axioms proved
end Go.Proofs.YtenejloailkodaaGreat.valueEncodes

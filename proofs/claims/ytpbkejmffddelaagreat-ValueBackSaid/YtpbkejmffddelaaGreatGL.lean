/-
  Several own texts in one: ValEo, ShaP2, ValFa, ValFb, ValFc, ValFd, ValFe. Own work.
-/
import Derived.Test.YtpbkejmffddelaaGreatGK
import Derived.Test.YtpbkejmffddelaaGreatGA
set_option linter.unusedVariables false
set_option linter.unusedSimpArgs false
/-
  The program's Encode: contract. Own work.
-/
namespace Go.Proofs.YtpbkejmffddelaaGreat
open Go.RowKit Go.Shelf
theorem encB_len (key : Nm) (x : Vl) (at_ : Int) (hk : key.length ≤ 64) (hf : x.ps.length + x.ls.length + x.ss.length ≤ 200) (ht : lng x.texts = false) : (encB key x at_).length ≤ 900000 := by
  have hT : ∀ t ∈ x.texts, t.length ≤ 512 := fun t h => lng_at ht h
  have hTt : x.t.length ≤ 512 := hT x.t (by simp [Vl.texts])
  have h1 := encP_len x.ps (encC key x at_) (fun p hp => ⟨hT _ (by simp only [Vl.texts, List.mem_append]; exact .inl (.inl (.inr (mem_prT hp).1))), hT _ (by simp only [Vl.texts, List.mem_append]; exact .inl (.inl (.inr (mem_prT hp).2)))⟩)
  have h2 := encL_len x.ls (encP (encC key x at_) x.ps) (fun p hp => hT _ (by simp only [Vl.texts, List.mem_append]; exact .inl (.inr hp)))
  have h3 := encS_len x.ss (encL (encP (encC key x at_) x.ps) x.ls) (fun p hp => hT _ (by simp only [Vl.texts, List.mem_append]; exact .inr (List.mem_map.2 ⟨p, hp, rfl⟩)))
  have h4 := encC_len key x at_
  have h5 := encH_len key at_ x.k
  unfold encB
  split
  · rw [putT_len]; omega
  · omega
set_option maxRecDepth 100000 in
set_option maxHeartbeats 4000000 in
theorem enc_any (w : World) (key : Nm) (x : Vl) (vp vl vs : Value) (at_ : Int) (h : VlM w w.heap.size x vp vl vs) (few : x.Few) (ft : x.t.length ≤ 140737488355328) :
    Calls Tryz.prog 11 #[enV key x vp vl vs at_] w fun e w' => (∃ A n c, e = .returned (.tuple #[.slice A n c, .int .i64 (entC key at_ x.rchk)]) ∧ Bs w' w'.heap.size A n (if entC key at_ x.rchk = 0 then encB key x at_ else [])) ∧ Below w.heap.size w w' := by
  have hM := h
  have HR := fun wz (hb : Below w.heap.size w wz) => entry_any wz key x vp vl vs at_ (fun wy hy => check_any wy x vp vl vs ((h.later hb).later hy) few ft)
  rw [chk_eq] at HR
  replace HR := hide HR
  obtain ⟨ip, hip, hiz, his, hib⟩ := bsI
  obtain ⟨iu, hiu, hzu, hsu, hbu⟩ := u8_info
  obtain ⟨A2, C2, rfl⟩ := h.p.sl
  obtain ⟨A3, C3, rfl⟩ := h.l.sl
  obtain ⟨A4, C4, rfl⟩ := h.s.sl
  have hsz := szEnt key x (.slice A2 x.ps.length C2) (.slice A3 x.ls.length C3) (.slice A4 x.ss.length C4) at_
  obtain ⟨ec, hec⟩ : ∃ ec, ec = entC key at_ x.rchk := ⟨_, rfl⟩
  rw [← hec]
  clear h
  by_cases h0 : ec = 0
  · subst h0
    obtain ⟨hr0, hk64, hat0, hat1⟩ := entC_zero hec.symm
    rw [if_pos rfl]
    replace hec := hide hec
    have hown := rchk_ok hr0
    have hfew := rchk_few hr0
    have hebl := hide (encB_len key x at_ hk64 hfew hown.2)
    have hlt := hide (show lngT x.own.tells = false by rw [← hown.1, lng_tells (ownE hown.1)]; exact hown.2)
    have htn := hide (show x.own.tells.length ≤ 1000 by rw [← hown.1]; have := tells_len (y := x) (s0 := _) rfl; rw [this]; split <;> simp <;> omega)
    have hkey : key.length ≤ 100000 := by omega
    have hat : -9223372036854775808 ≤ at_ ∧ at_ ≤ 9223372036854775807 := ⟨by omega, by omega⟩
    obtain ⟨q, hq⟩ : ∃ q, (x.own.ps.length : Int) + x.own.ls.length + x.own.ss.length = q := ⟨_, rfl⟩
    have hqx : (x.ps.length : Int) + x.ls.length + x.ss.length = q := by rw [← hown.1] at hq; exact hq
    have hqb : -9223372036854775808 ≤ q ∧ q ≤ 9223372036854775807 := ⟨by omega, by omega⟩
    have fo : x.own.Fits := by rw [← hown.1]; exact few.fits ft
    replace hown := hide hown.1
    replace hq := hide hq
    replace hqx := hide hqx
    replace hat0 := hide hat0
    replace hat1 := hide hat1
    clear hr0 hfew hk64
    go_enter Tryz.func11, Tryz.ntmps11
    go_wp2_with (first
      | ((with_reducible refine wl_box (o := ⟨some 1, _, _, _, _, _⟩) rfl 28 (.tmp 0) _ (enC key x (.slice A2 x.ps.length C2) (.slice A3 x.ls.length C3) (.slice A4 x.ss.length C4) at_) rfl rfl rfl ?_); intro g1 w1 r1 p1 l1 b1)
      | (with_reducible refine wl_load_row (o := ⟨some 8, _, _, _, _, _⟩) rfl 28 (.tmp 1) g1 28 (enC key x (.slice A2 x.ps.length C2) (.slice A3 x.ls.length C3) (.slice A4 x.ss.length C4) at_) _ rfl rfl r1 Tryz.underlying28 rfl hsz ?_))
    refine (HR.out w1 b1).mono ?_
    rintro e w2 ⟨rfl, b2⟩
    have B2 := b1.trans (b2.mono b1.size)
    have r12 := r1.later b2
    have c0 := r12.cell (j := 0) rfl
    rw [← hec.out]
    clear HR r1
    go_wp2_with (first
      | ((with_reducible refine wl_alloc (o := ⟨some 5, _, _, _, _, _⟩) rfl 89 nilS [nilS] rfl zeroBB rfl ?_); intro g w3 r5 p5 l5 b3)
      | ((with_reducible refine wl_alloc (o := ⟨some 6, _, _, _, _, _⟩) rfl TPut .nilFunc [.nilFunc] rfl zeroF1 rfl ?_); intro g6 w4 r6 p6 l6 b4)
      | ((with_reducible refine wl_store rfl TPut (.tmp 6) (.tmp 13) g6 0 TPut [.nilFunc] (cPut g) rfl (by kernel_rfl) rfl rfl r6 (by simp) rfl ?_); intro w5 r6s o6; have b5 := b4.trans ((o6.below p6).mono (Nat.le_refl _)))
      | ((with_reducible refine wl_alloc (o := ⟨some 7, _, _, _, _, _⟩) rfl TText .nilFunc [.nilFunc] rfl zeroF2 rfl ?_); intro g7 w6 r7 p7 l7 b6)
      | ((with_reducible refine wl_store rfl TText (.tmp 7) (.tmp 14) g7 0 TText [.nilFunc] (cText g6) rfl (by kernel_rfl) rfl rfl r7 (by simp) rfl ?_); intro w7 r7s o7; have b7 := b6.trans ((o7.below p7).mono (Nat.le_refl _)); have k7 := r7s.cell (j := 0) rfl; have r17 := ((r12.later b3).later b5).later b7; have d0 := r17.cell (j := 0) rfl))
    have B7 := ((B2.trans (b3.mono B2.size)).trans (b5.mono (B2.trans (b3.mono B2.size)).size)).trans (b7.mono ((B2.trans (b3.mono B2.size)).trans (b5.mono (B2.trans (b3.mono B2.size)).size)).size)
    have hg : w.heap.size ≤ g := Nat.le_trans B2.size p5
    have rg : Row w7 89 g [nilS] := (r5.later b5).later b7
    have h6 : Row w7 TPut g6 [cPut g] := Row.later (show Row w5 TPut g6 [cPut g] from r6s) b7
    have h7 : Row w7 TText g7 [cText g6] := r7s
    have hP : Pts w7 w.heap.size g [] := ⟨⟨nilS, [], rg, World.ownsRow_nil _ _ _ _, trivial⟩, hg⟩
    have n1 : g1 ≠ g := r17.neT rg (by decide)
    have n6 : g6 ≠ g := h6.neT rg (by decide)
    have n7 : g7 ≠ g := h7.neT rg (by decide)
    clear r5 r6 r6s r7 r7s o6 o7 b3 b4 b5 b6 b7 r12 k7 d0 rg p5 l5 p6 l6 p7 l7 b1 b2 B2 c0
    refine (put2_any w7 w.heap.size g g6 [] key hP h6 hkey (by simp)).mono ?_
    rintro e w8 ⟨rfl, hP8, u8⟩
    have hP8 : Pts w8 w.heap.size g [putT [] key] := hP8
    have r1 := r17.buT u8 n1 (by decide)
    have h68 := h6.buT u8 n6 (by decide)
    have h78 := h7.buT u8 n7 (by decide)
    have B8 := B7.trans (u8.below hg B7.size)
    clear h6 h7 hP r17 B7 u8
    have h6 := h68
    have hP := hP8
    go_wp2_with fail
    rename_i K8 hK8
    refine wp_region_vals [3, 8, 9, 10] (SN8 g g1 g6 at_ x.k) (JP w8 [3, 8, 9, 10] (FN8 at_ x.k) 3 (fun wz => Pts wz w.heap.size g ([putT [] key] ++ [highB (max at_ 0) 8, [IntKind.u8.wrap x.k]]) ∧ BuT g w.heap.size w8 wz)) (by kernel_rfl) (by kernel_rfl) (by kernel_rfl) (by kernel_rfl) (by kernel_rfl) (JP.start _) ?obs8 ?he8
    case obs8 =>
      refine ⟨?_, ?_, ?_, ?_, ?_, ?_, ?_, ?_, ?_, ?_, ?_, trivial⟩
      · exact .inl ⟨by kernel_rfl, fun L a1 w1 n h => ⟨_, rfl, run_load1 TPut (.tmp 6) g6 0 _ rfl Tryz.isAgg90 (h.var n 6 (by kernel_rfl)) ((h6.later (h.inv.1 ((bits_at rfl).trans (n.later (by kernel_rfl)))).1).cell rfl)⟩⟩
      · refine .inl ⟨by kernel_rfl, fun L a1 w1 n h => ⟨.pointer (some ⟨g1, 6, none⟩), rfl, ?_⟩⟩
        have e0 : a1.eval (.tmp 1) = _ := h.var n 1 (by kernel_rfl)
        unfold execOp
        simp only [e0]
        go_simp
      · exact .inl ⟨by kernel_rfl, fun L a1 w1 n h => ⟨_, rfl, run_load1 3 (.tmp 20) g1 6 _ rfl Tryz.isAgg3 (h.dep n 1 20 (by kernel_rfl) rfl) ((r1.later (h.inv.1 ((bits_at rfl).trans (n.later (by kernel_rfl)))).1).cell rfl)⟩⟩
      · refine .inr fun L a1 w1 n h K hK => ?_
        have no : L.getD 10 false = false := n.later (by kernel_rfl)
        have hK := JP.cont hK no rfl (by decide)
        have h := JP.down h no rfl
        have e1 : a1.eval (.tmp 21) = .int .i64 at_ := h.dep n 2 21 (by kernel_rfl) rfl
        refine JF.call (FN8_mono at_ x.k) h hK 22 rfl 46 _ _ #[nilS, .int .i64 at_] rfl Tryz.call46 ?_ (packPutNum_U none 0 0 [] at_ w1 Bs.nil_ (by decide) hat.1 hat.2) ?_
        · simp only [List.map_toArray, List.map_cons, List.map_nil, e1]; rfl
        · rintro e w3 ⟨A9, n9, c9, rfl, hb9, b9⟩
          exact ⟨_, rfl, trivial, ⟨A9, n9, c9, rfl, by simpa using hb9⟩, b9⟩
      · refine .inl ⟨by kernel_rfl, fun L a1 w1 n h => ⟨.pointer (some ⟨g1, 1, none⟩), rfl, ?_⟩⟩
        have e0 : a1.eval (.tmp 1) = _ := h.var n 1 (by kernel_rfl)
        unfold execOp
        simp only [e0]
        go_simp
      · refine .inl ⟨by kernel_rfl, fun L a1 w1 n h => ⟨.pointer (some ⟨g1, 1, none⟩), rfl, ?_⟩⟩
        have e0 : a1.eval (.tmp 23) = _ := h.dep n 4 23 (by kernel_rfl) rfl
        unfold execOp
        simp only [e0]
        go_simp
      · exact .inl ⟨by kernel_rfl, fun L a1 w1 n h => ⟨_, rfl, run_load1 3 (.tmp 24) g1 1 _ rfl Tryz.isAgg3 (h.dep n 5 24 (by kernel_rfl) rfl) ((r1.later (h.inv.1 ((bits_at rfl).trans (n.later (by kernel_rfl)))).1).cell rfl)⟩⟩
      · refine .inl ⟨by kernel_rfl, fun L a1 w1 n h => ⟨.int .u8 (IntKind.u8.wrap x.k), rfl, ?_⟩⟩
        have e0 : a1.eval (.tmp 25) = _ := h.dep n 6 25 (by kernel_rfl) rfl
        unfold execOp
        simp only [e0]
        go_simp
      · refine .inr fun L a1 w1 n h K hK => ?_
        have no : L.getD 10 false = false := n.later (by kernel_rfl)
        have hK := JP.cont hK no rfl (by decide)
        have h := JP.down h no rfl
        have e0 : a1.eval (.tmp 26) = .int .u8 (IntKind.u8.wrap x.k) := h.dep n 7 26 (by kernel_rfl) rfl
        refine st_build1 31 (.tmp 26) rfl 5 iu (.int .u8 0) (.int .u8 (IntKind.u8.wrap x.k)) Tryz.underlying31 hiu hzu hsu rfl e0 rfl ?_
        intro g8 w3 r8 p8 l8 b8
        exact JF.few (FN8_mono at_ x.k) h hK 27 rfl _ trivial ⟨some ⟨g8, 0, none⟩, 1, 1, rfl, Row.bs (A := []) (C := []) (xs := [IntKind.u8.wrap x.k]) r8 rfl r8.lt, fun p hp => by injection hp with hp; subst hp; exact ⟨_, _, r8⟩⟩ b8
      · refine .inr fun L a1 w1 n h K hK => ?_
        have no : L.getD 10 false = false := n.later (by kernel_rfl)
        have hK := JP.cont hK no rfl (by decide)
        have h := JP.down h no rfl
        obtain ⟨A1, n1, c1, v1, hb1⟩ := JF.get h n 3 22 (by kernel_rfl) (by kernel_rfl) rfl
        obtain ⟨A2, n2, c2, v2, hb2⟩ := JF.get h n 8 27 (by kernel_rfl) (by kernel_rfl) rfl
        refine st_build2P 89 (.tmp 22) (.tmp 27) rfl TSB ip nilS (.slice A1 n1 c1) (.slice A2 n2 c2) Tryz.underlying89 hip hiz his rfl v1 v2 rfl rfl ?_
        have b8 : Below w1.heap.size w1 (w1.alloc (.cells #[.slice A1 n1 c1, .slice A2 n2 c2] TSB)) := (Below.refl _ _).alloc (Nat.le_refl _) _
        exact JF.few (FN8_mono at_ x.k) h hK 28 rfl _ trivial ⟨w1.heap.size, [.slice A1 n1 c1, .slice A2 n2 c2], rfl, (by unfold Row; exact heap_alloc_new _ _), ⟨⟨A1, n1, c1, rfl, hb1.later b8⟩, ⟨A2, n2, c2, rfl, hb2.later b8⟩, trivial⟩⟩ b8
      · refine .inr fun L a1 w1 n h0 K hK => ?_
        have no : L.getD 10 false = false := n.not_yet
        have h := JP.down h0 no rfl
        have e3 : a1.eval (.tmp 19) = cPut g := h.dep n 0 19 (by kernel_rfl) rfl
        obtain ⟨gs, vs, e7, r7, s7⟩ := JF.get h n 9 28 (by kernel_rfl) (by kernel_rfl) rfl
        refine st_callF1 43 (.tmp 19) (.tmp 28) _ (.slice (some ⟨gs, 0, none⟩) 2 2) #[ptr g] rfl e3 e7 callE1 (put1_any w1 w.heap.size g gs 2 vs _ [highB (max at_ 0) 8, [IntKind.u8.wrap x.k]] (hP.later h.inv.1) r7 s7 rfl (by simp)) ?_
        rintro e w3 ⟨rfl, hP3, u3⟩
        exact ⟨_, rfl, hK _ w3 trivial (JP.done rfl ⟨hP3, (BuT.of h.inv.1 g w.heap.size).trans u3⟩)⟩
    case he8 =>
      intro V w9 hV hJ
      obtain ⟨hP9, u9⟩ := hJ.2 rfl
      clear hV hJ hP hP8
      simp only [putOps, List.setIfInBounds_toArray, List.set_cons_succ, List.set_cons_zero, Nat.reduceAdd]
      refine hK8 _ _ ?_
      have r19 := r1.buT u9 n1 (by decide)
      have h69 := h68.buT u9 n6 (by decide)
      have h79 := h78.buT u9 n7 (by decide)
      have B9 := B8.trans (u9.below hg B8.size)
      have d1 := r19.cell (j := 1) rfl
      clear h6 h68 h78 r1 B8 u9
      generalize V 0 = y0
      generalize V 1 = y1
      generalize V 2 = y2
      generalize V 3 = y3
      generalize V 4 = y4
      generalize V 5 = y5
      generalize V 6 = y6
      generalize V 7 = y7
      generalize V 8 = y8
      generalize V 9 = y9
      generalize V 10 = y10
      by_cases hk1 : x.k = 1
      · have f1 : (x.k != 1) = false := by simp [hk1]
        have f2 : decide (x.k = 1) = true := decide_eq_true hk1
        have f3 : (x.k == 1) = true := by simp [hk1]
        replace hk1 := hide hk1
        have hgw := (hP9.row).choose_spec.lt
        go_wp2_with (first
          | (with_reducible refine wl_load_part (o := ⟨some 42, _, _, _, _, _⟩) rfl 26 (.tmp 41) g1 1 28 [encStr key] (vlC x (.slice A2 x.ps.length C2) (.slice A3 x.ls.length C3) (.slice A4 x.ss.length C4)) [.int .i64 at_] _ rfl rfl r19 rfl Tryz.underlying26 rfl (by kernel_rfl) ?_))
        have hP0 := (show ESt w.heap.size g g6 g7 ([putT [] key] ++ [highB (max at_ 0) 8, [IntKind.u8.wrap x.k]]) x.own 0 w9 from ⟨by simpa [tellB] using hP9, h69, h79⟩)
        refine (eachT_any w9 x _ _ _ w.heap.size g (hM.below B9) hg hgw few.own 49 #[ptr g7, ptr g6] _ (tellEnc x.own w.heap.size g g6 g7 ([putT [] key] ++ [highB (max at_ 0) 8, [IntKind.u8.wrap x.k]]) hlt.out (by simp) htn.out) hP0).mono ?_
        rintro e wz ⟨rfl, ⟨hPz, h6z, h7z⟩, uz⟩
        rw [List.take_length] at hPz
        have Bz := B9.trans (uz.below hg (B9.size))
        obtain ⟨⟨pv, vs, rpz, opz, slz⟩, _⟩ := hPz
        have hlz := slz.len
        have cz := rpz.cell (j := 0) rfl
        obtain ⟨PA, pc, rfl⟩ : ∃ PA pc, pv = .slice PA (([putT [] key] ++ [highB (max at_ 0) 8, [IntKind.u8.wrap x.k]]) ++ tellB x.own.tells).length pc := by
          rcases opz.2 with ⟨rfl, h0⟩ | ⟨g, cap, cur, rfl, _⟩
          · exact ⟨none, 0, by rw [h0]⟩
          · exact ⟨_, cap, rfl⟩
        have hbz : Bss wz wz.heap.size PA (([putT [] key] ++ [highB (max at_ 0) 8, [IntKind.u8.wrap x.k]]) ++ tellB x.own.tells).length (([putT [] key] ++ [highB (max at_ 0) 8, [IntKind.u8.wrap x.k]]) ++ tellB x.own.tells) := by
          refine ⟨rfl, fun h0 => ?_⟩
          rcases opz.2 with ⟨e, h0'⟩ | ⟨g, cap, cur, e, _, hgz, _⟩
          · omega
          · injection e with e1 e2 e3
            subst e1
            refine ⟨g, 0, rfl, (Array.getElem?_eq_some_iff.1 hgz).1, fun j hj => ?_⟩
            obtain ⟨A', n', c', q1, q2⟩ := slz.at j hj
            refine ⟨A', n', c', ?_, q2.1⟩
            rw [Nat.zero_add]
            exact (by have h9 := opz.cells (g := g) rfl j _ q1; rw [addr_plain, Nat.zero_add] at h9; exact h9)
        have hfz : (([putT [] key] ++ [highB (max at_ 0) 8, [IntKind.u8.wrap x.k]]) ++ tellB x.own.tells).flatten = encB key x at_ := by
          have := enc_flat (key := key) (at_ := at_) hown.out
          rw [← hown.out]
          rw [encX] at this
          simpa [hk1.out] using this
        have hne : ((([putT [] key] ++ [highB (max at_ 0) 8, [IntKind.u8.wrap x.k]]) ++ tellB x.own.tells).flatten).length ≤ 900000 := by rw [hfz]; exact hebl.out
        have hnl : (([putT [] key] ++ [highB (max at_ 0) 8, [IntKind.u8.wrap x.k]]) ++ tellB x.own.tells).length ≤ 1000000 := by
          have := tellB_len x.own.tells (fun t ht => tells_two ht)
          have := htn.out
          rw [List.length_append]
          simp only [List.length_append, List.length_cons, List.length_nil]
          omega
        generalize hXX : ([putT [] key] ++ [highB (max at_ 0) 8, [IntKind.u8.wrap x.k]]) ++ tellB x.own.tells = XX at *
        replace opz := hide opz
        replace slz := hide slz
        replace hbz := hide hbz
        replace hfz := hide hfz
        replace hne := hide hne
        replace hnl := hide hnl
        replace hXX := hide hXX
        go_wp2_with fail
        refine (join_any PA XX.length pc XX wz hbz.out hnl.out (by have := hne.out; show (XX.take XX.length).flatten.length ≤ _; rw [List.take_length]; omega)).mono ?_
        rintro e wq ⟨A9, n9, c9, rfl, hb9, _, _, b9⟩
        go_wp2_with fail
        go_ret2
        exact ⟨⟨A9, n9, c9, rfl, by rw [← hfz.out]; exact hb9⟩, Bz.trans (b9.mono Bz.size)⟩
      · have f1 : (x.k != 1) = true := by simp [hk1]
        have f2 : decide (x.k = 1) = false := decide_eq_false hk1
        have f3 : (x.k == 1) = false := by simp [hk1]
        replace hk1 := hide hk1
        have r1 := r19
        have h6 := h69
        have hP := hP9
        replace hM := hM
        have hMw := hM
        go_wp2_with fail
        rename_i KA hKA
        refine wp_region_vals [3, 4, 5, 6] (SNA g g1 g6 C2 C3 C4 A2 A3 A4 x q) (JP w9 [3, 4, 5, 6] (FNA q) 3 (fun wz => Pts wz w.heap.size g ([putT [] key] ++ [highB (max at_ 0) 8, [IntKind.u8.wrap x.k]] ++ [highB (max q 0) 8]) ∧ BuT g w.heap.size w9 wz)) (by kernel_rfl) (by kernel_rfl) (by kernel_rfl) (by kernel_rfl) (by kernel_rfl) (JP.start _) ?obsA ?heA
        case obsA =>
          refine ⟨?_, ?_, ?_, ?_, ?_, ?_, ?_, trivial⟩
          · exact .inl ⟨by kernel_rfl, fun L a1 w1 n h => ⟨_, rfl, run_load1 TPut (.tmp 6) g6 0 _ rfl Tryz.isAgg90 (h.var n 6 (by kernel_rfl)) ((h6.later (h.inv.1 ((bits_at rfl).trans (n.later (by kernel_rfl)))).1).cell rfl)⟩⟩
          · refine .inl ⟨by kernel_rfl, fun L a1 w1 n h => ⟨.pointer (some ⟨g1, 1, none⟩), rfl, ?_⟩⟩
            have e0 : a1.eval (.tmp 1) = _ := h.var n 1 (by kernel_rfl)
            unfold execOp
            simp only [e0]
            go_simp
          · exact .inl ⟨by kernel_rfl, fun L a1 w1 n h => ⟨_, rfl, run_loadP 26 (.tmp 35) g1 1 TE [encStr key] (vlC x (.slice A2 x.ps.length C2) (.slice A3 x.ls.length C3) (.slice A4 x.ss.length C4)) [.int .i64 at_] _ rfl (h.dep n 1 35 (by kernel_rfl) rfl) (r1.later (h.inv.1 ((bits_at rfl).trans (n.later (by kernel_rfl)))).1) rfl Tryz.underlying26 rfl (szVl x _ _ _)⟩⟩
          · refine .inr fun L a1 w1 n h K hK => ?_
            have no : L.getD 6 false = false := n.later (by kernel_rfl)
            have hK := JP.cont hK no rfl (by decide)
            have h := JP.down h no rfl
            have e0 : a1.eval (.tmp 36) = vlV x (.slice A2 x.ps.length C2) (.slice A3 x.ls.length C3) (.slice A4 x.ss.length C4) := h.dep n 2 36 (by kernel_rfl) rfl
            refine JF.call (FNA_mono q) h hK 37 rfl 47 _ _ #[vlV x (.slice A2 x.ps.length C2) (.slice A3 x.ls.length C3) (.slice A4 x.ss.length C4)] rfl Tryz.call47 ?_ (count_any w1 x _ _ _ ((hM.below (B9.trans (h.inv.1.mono B9.size))).up (B9.trans (h.inv.1.mono B9.size)).size) fo) ?_
            · simp only [List.map_toArray, List.map_cons, List.map_nil, e0]
            · rintro e w3 ⟨rfl, b9⟩
              exact ⟨_, rfl, (show Value.int .i64 _ = Value.int .i64 _ by rw [hq.out]), trivial, b9⟩
          · refine .inr fun L a1 w1 n h K hK => ?_
            have no : L.getD 6 false = false := n.later (by kernel_rfl)
            have hK := JP.cont hK no rfl (by decide)
            have h := JP.down h no rfl
            have e1 : a1.eval (.tmp 37) = .int .i64 q := h.dep n 3 37 (by kernel_rfl) rfl
            refine JF.call (FNA_mono q) h hK 38 rfl 46 _ _ #[nilS, .int .i64 q] rfl Tryz.call46 ?_ (packPutNum_U none 0 0 [] q w1 Bs.nil_ (by decide) hqb.1 hqb.2) ?_
            · simp only [List.map_toArray, List.map_cons, List.map_nil, e1]; rfl
            · rintro e w3 ⟨A9, n9, c9, rfl, hb9, b9⟩
              exact ⟨_, rfl, trivial, ⟨A9, n9, c9, rfl, by simpa using hb9⟩, b9⟩
          · refine .inr fun L a1 w1 n h K hK => ?_
            have no : L.getD 6 false = false := n.later (by kernel_rfl)
            have hK := JP.cont hK no rfl (by decide)
            have h := JP.down h no rfl
            obtain ⟨A1, n1, c1, v1, hb1⟩ := JF.get h n 4 38 (by kernel_rfl) (by kernel_rfl) rfl
            refine st_build1 89 (.tmp 38) rfl TSB ip nilS (.slice A1 n1 c1) Tryz.underlying89 hip hiz his rfl v1 rfl ?_
            intro g8 w3 r8 p8 l8 b8
            exact JF.few (FNA_mono q) h hK 39 rfl _ trivial ⟨g8, _, rfl, r8, ⟨⟨A1, n1, c1, rfl, hb1.later b8⟩, trivial⟩⟩ b8
          · refine .inr fun L a1 w1 n h0 K hK => ?_
            have no : L.getD 6 false = false := n.not_yet
            have h := JP.down h0 no rfl
            have e3 : a1.eval (.tmp 34) = cPut g := h.dep n 0 34 (by kernel_rfl) rfl
            obtain ⟨gs, vs, e7, r7, s7⟩ := JF.get h n 5 39 (by kernel_rfl) (by kernel_rfl) rfl
            refine st_callF1 43 (.tmp 34) (.tmp 39) _ (.slice (some ⟨gs, 0, none⟩) 1 1) #[ptr g] rfl e3 e7 callE1 (put1_any w1 w.heap.size g gs 1 vs _ [highB (max q 0) 8] (hP.later h.inv.1) r7 s7 rfl (by simp)) ?_
            rintro e w3 ⟨rfl, hP3, u3⟩
            exact ⟨_, rfl, hK _ w3 trivial (JP.done rfl ⟨hP3, (BuT.of h.inv.1 g w.heap.size).trans u3⟩)⟩
        case heA =>
          intro V wA hV hJ
          obtain ⟨hPA, uA⟩ := hJ.2 rfl
          clear hV hJ hP hP9
          simp only [putOps, List.setIfInBounds_toArray, List.set_cons_succ, List.set_cons_zero, Nat.reduceAdd]
          refine hKA _ _ ?_
          have r1A := r19.buT uA n1 (by decide)
          have h6A := h69.buT uA n6 (by decide)
          have h7A := h79.buT uA n7 (by decide)
          have BA := B9.trans (uA.below hg B9.size)
          have hgw := (hPA.row).choose_spec.lt
          clear h6 h69 h79 r1 r19 B9 uA
          generalize V 0 = z0
          generalize V 1 = z1
          generalize V 2 = z2
          generalize V 3 = z3
          generalize V 4 = z4
          generalize V 5 = z5
          generalize V 6 = z6
          go_wp2_with (first
            | (with_reducible refine wl_load_part (o := ⟨some 42, _, _, _, _, _⟩) rfl 26 (.tmp 41) g1 1 28 [encStr key] (vlC x (.slice A2 x.ps.length C2) (.slice A3 x.ls.length C3) (.slice A4 x.ss.length C4)) [.int .i64 at_] _ rfl rfl r1A rfl Tryz.underlying26 rfl (by kernel_rfl) ?_))
          have hP0 := (show ESt w.heap.size g g6 g7 ([putT [] key] ++ [highB (max at_ 0) 8, [IntKind.u8.wrap x.k]] ++ [highB (max q 0) 8]) x.own 0 wA from ⟨by simpa [tellB] using hPA, h6A, h7A⟩)
          refine (eachT_any wA x _ _ _ w.heap.size g (hM.below BA) hg hgw few.own 49 #[ptr g7, ptr g6] _ (tellEnc x.own w.heap.size g g6 g7 ([putT [] key] ++ [highB (max at_ 0) 8, [IntKind.u8.wrap x.k]] ++ [highB (max q 0) 8]) hlt.out (by simp) htn.out) hP0).mono ?_
          rintro e wz ⟨rfl, ⟨hPz, h6z, h7z⟩, uz⟩
          rw [List.take_length] at hPz
          have Bz := BA.trans (uz.below hg (BA.size))
          obtain ⟨⟨pv, vs, rpz, opz, slz⟩, _⟩ := hPz
          have hlz := slz.len
          have cz := rpz.cell (j := 0) rfl
          obtain ⟨PA, pc, rfl⟩ : ∃ PA pc, pv = .slice PA (([putT [] key] ++ [highB (max at_ 0) 8, [IntKind.u8.wrap x.k]] ++ [highB (max q 0) 8]) ++ tellB x.own.tells).length pc := by
            rcases opz.2 with ⟨rfl, h0⟩ | ⟨g, cap, cur, rfl, _⟩
            · exact ⟨none, 0, by rw [h0]⟩
            · exact ⟨_, cap, rfl⟩
          have hbz : Bss wz wz.heap.size PA (([putT [] key] ++ [highB (max at_ 0) 8, [IntKind.u8.wrap x.k]] ++ [highB (max q 0) 8]) ++ tellB x.own.tells).length (([putT [] key] ++ [highB (max at_ 0) 8, [IntKind.u8.wrap x.k]] ++ [highB (max q 0) 8]) ++ tellB x.own.tells) := by
            refine ⟨rfl, fun h0 => ?_⟩
            rcases opz.2 with ⟨e, h0'⟩ | ⟨g, cap, cur, e, _, hgz, _⟩
            · omega
            · injection e with e1 e2 e3
              subst e1
              refine ⟨g, 0, rfl, (Array.getElem?_eq_some_iff.1 hgz).1, fun j hj => ?_⟩
              obtain ⟨A', n', c', q1, q2⟩ := slz.at j hj
              refine ⟨A', n', c', ?_, q2.1⟩
              rw [Nat.zero_add]
              exact (by have h9 := opz.cells (g := g) rfl j _ q1; rw [addr_plain, Nat.zero_add] at h9; exact h9)
          have hfz : (([putT [] key] ++ [highB (max at_ 0) 8, [IntKind.u8.wrap x.k]] ++ [highB (max q 0) 8]) ++ tellB x.own.tells).flatten = encB key x at_ := by
            have := enc_flat (key := key) (at_ := at_) hown.out
            rw [← hown.out]
            rw [encX] at this
            simpa [hk1.out, hqx.out] using this
          have hne : ((([putT [] key] ++ [highB (max at_ 0) 8, [IntKind.u8.wrap x.k]] ++ [highB (max q 0) 8]) ++ tellB x.own.tells).flatten).length ≤ 900000 := by rw [hfz]; exact hebl.out
          have hnl : (([putT [] key] ++ [highB (max at_ 0) 8, [IntKind.u8.wrap x.k]] ++ [highB (max q 0) 8]) ++ tellB x.own.tells).length ≤ 1000000 := by
            have := tellB_len x.own.tells (fun t ht => tells_two ht)
            have := htn.out
            rw [List.length_append]
            simp only [List.length_append, List.length_cons, List.length_nil]
            omega
          generalize hXX : ([putT [] key] ++ [highB (max at_ 0) 8, [IntKind.u8.wrap x.k]] ++ [highB (max q 0) 8]) ++ tellB x.own.tells = XX at *
          replace opz := hide opz
          replace slz := hide slz
          replace hbz := hide hbz
          replace hfz := hide hfz
          replace hne := hide hne
          replace hnl := hide hnl
          replace hXX := hide hXX
          go_wp2_with fail
          refine (join_any PA XX.length pc XX wz hbz.out hnl.out (by have := hne.out; show (XX.take XX.length).flatten.length ≤ _; rw [List.take_length]; omega)).mono ?_
          rintro e wq ⟨A9, n9, c9, rfl, hb9, _, _, b9⟩
          go_wp2_with fail
          go_ret2
          exact ⟨⟨A9, n9, c9, rfl, by rw [← hfz.out]; exact hb9⟩, Bz.trans (b9.mono Bz.size)⟩
  · rw [if_neg h0]
    replace hec := hide hec
    go_enter Tryz.func11, Tryz.ntmps11
    go_wp2_with (first
      | ((with_reducible refine wl_box (o := ⟨some 1, _, _, _, _, _⟩) rfl 28 (.tmp 0) _ (enC key x (.slice A2 x.ps.length C2) (.slice A3 x.ls.length C3) (.slice A4 x.ss.length C4) at_) rfl rfl rfl ?_); intro g1 w1 r1 p1 l1 b1)
      | (with_reducible refine wl_load_row (o := ⟨some 8, _, _, _, _, _⟩) rfl 28 (.tmp 1) g1 28 (enC key x (.slice A2 x.ps.length C2) (.slice A3 x.ls.length C3) (.slice A4 x.ss.length C4) at_) _ rfl rfl r1 Tryz.underlying28 rfl hsz ?_))
    refine (HR.out w1 b1).mono ?_
    rintro e w2 ⟨rfl, b2⟩
    have B2 := b1.trans (b2.mono b1.size)
    rw [← hec.out]
    clear HR r1
    have hd1 : decide (ec = 0) = false := decide_eq_false h0
    have hd2 : (ec == 0) = false := beq_eq_false_iff_ne.2 h0
    go_wp2_with fail
    go_ret2
    exact ⟨⟨none, 0, 0, rfl, Bs.nil_⟩, B2⟩
end Go.Proofs.YtpbkejmffddelaaGreat

/-
  Structs behind a pointer that a call writes; the reader of pack: a contract each. Own work.
-/
namespace Go.Proofs.YtpbkejmffddelaaGreat
open Go.RowKit

/-- Block g of w is just the cells cs, of element type t; none is frozen. -/
def Blk (w : World) (g : Nat) (t : TypeId) (cs : Array Value) : Prop := w.heap[g]? = some (.cells cs t (0, 0))
section
variable {w w' w'' : World} {g t : Nat} {cs : Array Value}
set_option maxRecDepth 100000 in
theorem Blk.cell (h : Blk w g t cs) (i : Nat) : w.cell? ⟨g, i, none⟩ = cs[i]? := cell_of_row w g i cs t (0, 0) h
theorem Blk.frozen (h : Blk w g t cs) (i : Nat) : w.frozen? ⟨g, i, none⟩ = false := frozen_of_row w g i cs t h
set_option maxRecDepth 100000 in
theorem Blk.set (h : Blk w g t cs) (i : Nat) (u : Value) : Blk (w.setCell ⟨g, i, none⟩ u) g t (cs.setIfInBounds i u) := heap_setCell_same w g i cs t u h
theorem Blk.lt (h : Blk w g t cs) : g < w.heap.size := by
  rcases Nat.lt_or_ge g w.heap.size with h1 | h1
  · exact h1
  · unfold Blk at h; rw [Array.getElem?_eq_none h1] at h; cases h
set_option maxRecDepth 100000 in
theorem Blk.grown (h : Blk w g t cs) {r : Option Nat} (hg : w.grownBy w' r) (hr : some g ≠ r) : Blk w' g t cs := (hg.block g h.lt hr).trans h
theorem Blk.below (h : Blk w g t cs) {B : Nat} (hb : Below B w w') (hg : g < B) : Blk w' g t cs := (hb.block g hg).trans h
set_option maxRecDepth 100000 in
theorem grown_refl (w : World) (r : Option Nat) : w.grownBy w r := ⟨rfl, rfl, rfl, Nat.le_refl _, fun _ _ _ => rfl⟩
theorem grown_trans {r : Option Nat} (h : w.grownBy w' r) (k : w'.grownBy w'' r) : w.grownBy w'' r :=
  ⟨k.os.trans h.os, k.tape.trans h.tape, k.output.trans h.output, Nat.le_trans h.size k.size, fun i hi hr => (k.block i (Nat.lt_of_lt_of_le hi h.size) hr).trans (h.block i hi hr)⟩
set_option maxRecDepth 100000 in
theorem grown_set (w : World) (g i : Nat) (u : Value) : w.grownBy (w.setCell ⟨g, i, none⟩ u) (some g) :=
  ⟨rfl, rfl, rfl, by simp [World.setCell], fun k _ hk => heap_setCell_other w ⟨g, i, none⟩ k u (fun e => hk (by rw [e]))⟩
set_option maxRecDepth 100000 in
theorem grown_of_below {r : Option Nat} (h : Below w.heap.size w w') : w.grownBy w' r := ⟨h.os, h.tape, h.output, h.size, fun k hk _ => h.block k hk⟩
theorem below_of_grown {B : Nat} (h : w.grownBy w' (some g)) (hB : B ≤ g) (hw : B ≤ w.heap.size) : Below B w w' :=
  ⟨h.os, h.tape, h.output, h.size, fun k hk => h.block k (by omega) (fun e => by injection e; omega)⟩
end

/-- The slice '.slice A n c' reads as the bytes xs, in a block from lo on and below hi. -/
def Sp (w : World) (lo hi : Nat) (A : Option Addr) (n : Nat) (xs : List Int) : Prop :=
  xs.length = n ∧ (0 < n → ∃ b o, A = some ⟨b, o, none⟩ ∧ lo ≤ b ∧ b < hi ∧ ∀ j, j < n → w.cell? ⟨b, o + j, none⟩ = some (.int .u8 (xs.getD j 0)))
section
variable {w w' : World} {lo hi n : Nat} {A : Option Addr} {xs : List Int}
set_option maxRecDepth 100000 in
theorem Sp.nil_ : Sp w lo hi A 0 [] := ⟨rfl, fun h => absurd h (by omega)⟩
theorem Sp.bs (h : Sp w lo hi A n xs) : Bs w hi A n xs := ⟨h.1, fun h0 => let ⟨b, o, e, _, h2, hc⟩ := h.2 h0; ⟨b, o, e, h2, hc⟩⟩
set_option maxRecDepth 100000 in
theorem Sp.lt_size (h : Sp w lo hi A n xs) : Bs w w.heap.size A n xs := ⟨h.1, fun h0 => let ⟨b, o, e, _, _, hc⟩ := h.2 h0; ⟨b, o, e, block_lt_of_cell (hc 0 h0), hc⟩⟩
theorem Sp.grown (h : Sp w lo hi A n xs) {g : Nat} (hg : w.grownBy w' (some g)) (hr : g < lo ∨ hi ≤ g) : Sp w' lo hi A n xs :=
  ⟨h.1, fun h0 => let ⟨b, o, e, h1, h2, hc⟩ := h.2 h0; ⟨b, o, e, h1, h2, fun j hj => by
    rw [World.cell?_of_block (hg.block b (block_lt_of_cell (hc 0 h0)) (fun e => by injection e; omega))]; exact hc j hj⟩⟩
set_option maxRecDepth 100000 in
theorem Sp.take (h : Sp w lo hi A n xs) {k : Nat} (hk : k ≤ n) : Sp w lo hi A k (xs.take k) :=
  ⟨by simp [h.1]; omega, fun h0 => let ⟨b, o, e, h1, h2, hc⟩ := h.2 (by omega); ⟨b, o, e, h1, h2, fun j hj => by rw [hc j (by omega)]; simp [List.getD, hj]⟩⟩
set_option maxRecDepth 100000 in
theorem Sp.drop (h : Sp w lo hi A n xs) {k c : Nat} (hk : k ≤ n) (hc : n ≤ c) : Sp w lo hi (if c = k then A else A.map (·.add k)) (n - k) (xs.drop k) := by
  refine ⟨by simp [h.1], fun h0 => ?_⟩
  obtain ⟨b, o, rfl, h1, h2, hcell⟩ := h.2 (by omega)
  rw [if_neg (by omega)]
  refine ⟨b, o + k, by simp [addr_plain], h1, h2, fun j hj => ?_⟩
  rw [Nat.add_assoc, hcell (k + j) (by omega)]
  simp [List.getD]
end

set_option maxRecDepth 100000 in
theorem ret_owns_new {w w1 : World} {base e n : Nat} {v : Value} {xs ys : List Int} (h : w1.ownsRow base e 1 v n (bv xs)) (hb : Below w.heap.size w w1) (hbase : w.heap.size ≤ base) (he : ys = xs) :
    ∃ A n c, v = .slice A n c ∧ Sp w1 w.heap.size w1.heap.size A n ys ∧ n ≤ c ∧ c ≤ maxLen ∧ Below w.heap.size w w1 := by
  subst he
  obtain ⟨A, c, hv, h1, h2, h3⟩ := ownsRow_bs h
  refine ⟨A, n, c, hv, ⟨h1.1, fun h0 => ?_⟩, h2, h3, hb⟩
  obtain ⟨b, o, rfl, hlt, hc⟩ := h1.2 h0
  exact ⟨b, o, rfl, Nat.le_trans hbase (h.lt b (by rw [hv]; rfl)).1, hlt, hc⟩
set_option maxRecDepth 100000 in
/-- A copy is new memory. -/
theorem clone_new (A : Option Addr) (n c : Nat) (xs : List Int) (w : World) (h : Bs w w.heap.size A n xs) (hn : n ≤ 140737488355328) :
    Calls Tryz.prog 107 #[.slice A n c] w fun e w' => ∃ A n c, e = .returned (.slice A n c) ∧ Sp w' w.heap.size w'.heap.size A n xs ∧ n ≤ c ∧ c ≤ maxLen ∧ Below w.heap.size w w' := by
  have q : ∀ (w : World) (a : Option Addr) (n c n' c' : Nat), (binOp .eql 31 (.slice a n c) (.slice none n' c')).run Tryz.prog w = .ok (.bool a.isNone) w := fun w a n c n' c' => Lib.run_eql_slice_nil w _ _ a n c n' c' Tryz.underlying31
  obtain ⟨i0, hi, hz, hsz, hby⟩ := u8_info
  rcases A with _ | ad
  · have h0 : n = 0 := by
      rcases Nat.eq_zero_or_pos n with h0 | h0
      · exact h0
      · obtain ⟨_, _, h, _⟩ := h.2 h0; cases h
    subst h0
    obtain rfl : xs = [] := List.eq_nil_of_length_eq_zero h.1
    go_enter Tryz.func107, Tryz.ntmps107
    go_wp2
    go_ret
    exact ⟨none, 0, 0, rfl, Sp.nil_, Nat.le_refl _, by simp, Below.refl _ _⟩
  · have hown := World.ownsRow_lit (base := w.heap.size) (e := 5) (size := 1) w #[] 0 (Nat.le_refl _) (by simp) rfl
    go_enter Tryz.func107, Tryz.ntmps107
    go_wp2_with (at_builtin; refine wpList_append_bs rfl (.tmp 5) (.tmp 6) _ rfl w.heap.size 5 i0 Tryz.underlying31 hi hz hsz hby (.slice (some ⟨w.heap.size, 0, none⟩) 0 0) 0 [] rfl hown w.heap.size (some ad) n c xs rfl (h.below ((Below.refl _ _).alloc (Nat.le_refl _) _)) (by omega) (by simp) ?_; intro v1 w1 hown1 hg1)
    go_ret
    obtain ⟨A1, n1, c1, rfl, h2, h3, h4, h5⟩ := ret_owns_new hown1 (grown_below ((Below.refl _ _).alloc (Nat.le_refl _) _) hown (Nat.le_refl _) hg1) (Nat.le_refl _) rfl
    exact ⟨A1, n1, c1, rfl, by simpa using h2, h3, h4, h5⟩

/-- The reader in block g: what is left, and its error. -/
def Rd (w : World) (lo g : Nat) (xs : List Int) (e : Int) : Prop :=
  ∃ A n c, lo ≤ g ∧ Blk w g 140 #[.bool true, .slice A n c, .int .i64 e] ∧ Sp w lo g A n xs ∧ n ≤ c ∧ (c ≤ 9223372036854775807 ∧ n ≤ 140737488355328) ∧ (e ≠ 0 → xs = [])

set_option maxRecDepth 100000 in
theorem Rd.grown {w w' : World} {lo g g' : Nat} {xs : List Int} {e : Int} (h : Rd w lo g xs e) (hg : w.grownBy w' (some g')) (hne : g' < lo ∨ g < g') : Rd w' lo g xs e := by
  obtain ⟨A, n, c, h0, h1, h2, h3, h4, h5⟩ := h
  exact ⟨A, n, c, h0, h1.grown hg (by intro e; injection e with e; omega), h2.grown hg (by omega), h3, h4, h5⟩

set_option maxRecDepth 100000 in
theorem err_any {lo g : Nat} {xs : List Int} {e : Int} (w : World) (h : Rd w lo g xs e) : Calls Tryz.prog 134 #[.pointer (some ⟨g, 0, none⟩)] w fun en w' => en = .returned (.int .i64 e) ∧ w = w' := by
  obtain ⟨A, n, c, _, hb, _⟩ := h
  have c0 := hb.cell 0
  have c2 := hb.cell 2
  simp only [List.getElem?_toArray, List.getElem?_cons_zero, List.getElem?_cons_succ] at c0 c2
  clear hb
  go_enter Tryz.func134, Tryz.ntmps134
  go_wp2
  go_ret
  exact ⟨rfl, rfl⟩
set_option maxRecDepth 100000 in
theorem left_any {lo g : Nat} {xs : List Int} {e : Int} (w : World) (h : Rd w lo g xs e) : Calls Tryz.prog 135 #[.pointer (some ⟨g, 0, none⟩)] w fun en w' => en = .returned (.int .i64 xs.length) ∧ w = w' := by
  obtain ⟨A, n, c, _, hb, hs, _⟩ := h
  have c1 := hb.cell 1
  simp only [List.getElem?_toArray, List.getElem?_cons_zero, List.getElem?_cons_succ] at c1
  rw [hs.1]
  clear hb hs
  go_enter Tryz.func135, Tryz.ntmps135
  go_wp2
  go_ret
  exact ⟨rfl, rfl⟩
set_option maxRecDepth 100000 in
theorem fail_old {lo g : Nat} {xs : List Int} {e : Int} (w : World) (h : Rd w lo g xs e) (he : e ≠ 0) (code : Int) :
    Calls Tryz.prog 110 #[.pointer (some ⟨g, 0, none⟩), .int .i64 code] w fun en w' => en = .returned (.tuple #[]) ∧ w = w' := by
  have hd : (e == 0) = false := beq_eq_false_iff_ne.2 he
  go_enter Tryz.func110, Tryz.ntmps110
  go_wp2_with (go_at_call 134; refine (err_any _ h).mono ?_; rintro e w' ⟨rfl, rfl⟩)
  go_end0
  exact ⟨rfl, rfl⟩
set_option maxRecDepth 100000 in
theorem fail_new {lo g : Nat} {xs : List Int} (w : World) (h : Rd w lo g xs 0) (code : Int) :
    Calls Tryz.prog 110 #[.pointer (some ⟨g, 0, none⟩), .int .i64 code] w fun en w' => en = .returned (.tuple #[]) ∧ Rd w' lo g [] code ∧ w.grownBy w' (some g) := by
  have h' := hide h
  obtain ⟨A, n, c, hlo, hb, hs, _⟩ := h
  have c1 := hb.cell 1
  have c2 := hb.cell 2
  simp only [List.getElem?_toArray, List.getElem?_cons_zero, List.getElem?_cons_succ] at c1 c2
  have f1 := hb.frozen 1
  have f2 := hb.frozen 2
  have HB := hide hb
  clear hb
  go_enter Tryz.func110, Tryz.ntmps110
  go_wp2_with (go_at_call 134; refine (err_any _ h'.out).mono ?_; rintro e w' ⟨rfl, rfl⟩)
  go_end0
  exact ⟨rfl, ⟨none, 0, 0, hlo, (HB.out.set 2 _).set 1 _, Sp.nil_, Nat.le_refl _, ⟨by omega, by omega⟩, fun _ => rfl⟩, grown_trans (grown_set _ _ _ _) (grown_set _ _ _ _)⟩

/-- What a reader tells of the next n bytes, what is left behind, and the error. -/
def tk (n : Nat) (xs : List Int) (e : Int) : List Int × List Int × Int := if e ≠ 0 then ([], xs, e) else if xs.length < n then ([], [], 4) else (xs.take n, xs.drop n, 0)

/-- What a call on the reader in block g leaves. -/
def TkPost (w : World) (lo g : Nat) (r : List Int × List Int × Int) (en : Ending) (w' : World) : Prop :=
  ∃ A n c, en = .returned (.slice A n c) ∧ Sp w' lo g A n r.1 ∧ n ≤ 140737488355328 ∧ Rd w' lo g r.2.1 r.2.2 ∧ w.grownBy w' (some g)

set_option maxHeartbeats 400000 in
set_option maxRecDepth 100000 in
theorem take_any {lo g : Nat} {xs : List Int} {e : Int} (w : World) (h : Rd w lo g xs e) (n : Nat) (hn : n ≤ 4294967296) :
    Calls Tryz.prog 111 #[.pointer (some ⟨g, 0, none⟩), .int .i64 (n : Int)] w (TkPost w lo g (tk n xs e)) := by
  have h' := hide h
  obtain ⟨A, m, c, hlo, hb, hs, hmc, ⟨hc, hm47⟩, he0⟩ := h
  by_cases he : e = 0
  · subst he
    by_cases hlt : xs.length < n
    · have ht : tk n xs 0 = ([], [], 4) := by simp [tk, hlt]
      rw [ht]
      have hi : (xs.length : Int) < (n : Int) := by omega
      clear hb
      go_enter Tryz.func111, Tryz.ntmps111
      go_wp2_with (first
        | (go_at_call 135; refine (left_any _ h'.out).mono ?_; rintro e w' ⟨rfl, rfl⟩)
        | (go_at_call 110; refine (fail_new _ h'.out 4).mono ?_; rintro e w1 ⟨rfl, hr, hg⟩; have hR := hide hr; clear hr)
        | (go_at_call 134; refine (err_any _ hR.out).mono ?_; rintro e w' ⟨rfl, rfl⟩))
      go_ret
      exact ⟨none, 0, 0, rfl, Sp.nil_, by omega, hR.out, hg⟩
    · have ht : tk n xs 0 = (xs.take n, xs.drop n, 0) := by simp [tk, hlt]
      rw [ht]
      have hle : n ≤ m := by have := hs.1; omega
      have hi : ¬ (xs.length : Int) < (n : Int) := by omega
      have c1 := hb.cell 1
      have f1 := hb.frozen 1
      simp only [List.getElem?_toArray, List.getElem?_cons_zero, List.getElem?_cons_succ] at c1
      have HB := hide hb
      clear hb
      go_enter Tryz.func111, Tryz.ntmps111
      go_wp2_with (first
        | (go_at_call 135; refine (left_any _ h'.out).mono ?_; rintro e w' ⟨rfl, rfl⟩)
        | (go_at_call 134; refine (err_any _ h'.out).mono ?_; rintro e w' ⟨rfl, rfl⟩))
      · go_ret
        have hcn : c = n := ‹c = n›
        have hd := hs.drop hle hmc
        rw [if_pos hcn] at hd
        exact ⟨A, n, n, rfl, (hs.take hle).grown (grown_set _ _ _ _) (.inr (Nat.le_refl _)), by omega, ⟨A, m - n, 0, hlo, HB.out.set 1 _, hd.grown (grown_set _ _ _ _) (.inr (Nat.le_refl _)), by omega, ⟨by omega, by omega⟩, fun h => absurd rfl h⟩, grown_set _ _ _ _⟩
      · go_ret
        have hd := hs.drop hle hmc
        rw [if_neg ‹¬c = n›] at hd
        exact ⟨A, n, c, rfl, (hs.take hle).grown (grown_set _ _ _ _) (.inr (Nat.le_refl _)), by omega, ⟨_, m - n, c - n, hlo, HB.out.set 1 _, hd.grown (grown_set _ _ _ _) (.inr (Nat.le_refl _)), by omega, ⟨by omega, by omega⟩, fun h => absurd rfl h⟩, grown_set _ _ _ _⟩
  · have ht : tk n xs e = ([], xs, e) := by simp [tk, he]
    rw [ht]
    obtain rfl := he0 he
    have hd : (e != 0) = true := by rw [bne_iff_ne]; exact he
    clear hb
    go_enter Tryz.func111, Tryz.ntmps111
    go_wp2_with (first
      | (go_at_call 135; refine (left_any _ h'.out).mono ?_; rintro e w' ⟨rfl, rfl⟩)
      | (go_at_call 110; refine (fail_old _ h'.out he 4).mono ?_; rintro e w1 ⟨rfl, rfl⟩)
      | (go_at_call 134; refine (err_any _ h'.out).mono ?_; rintro e w' ⟨rfl, rfl⟩))
    all_goals
      go_ret
      exact ⟨none, 0, 0, rfl, Sp.nil_, by omega, h'.out, grown_refl _ _⟩

/-- The number whose bytes these are, the highest first. -/
def beV (xs : List Int) : Int := xs.foldl (fun a b => a * 256 + b) 0
set_option maxRecDepth 100000 in
theorem beV_snoc (xs : List Int) (b : Int) : beV (xs ++ [b]) = beV xs * 256 + b := by simp [beV]
theorem beV_bound {xs : List Int} (h : IsBy xs) : 0 ≤ beV xs ∧ beV xs < 256 ^ xs.length := by
  have key : ∀ (n : Nat) (xs : List Int), xs.length = n → IsBy xs → 0 ≤ beV xs ∧ beV xs < 256 ^ n := by
    intro n
    induction n with
    | zero => intro xs hl _; rw [List.eq_nil_of_length_eq_zero hl]; simp [beV]
    | succ n ih =>
      intro xs hl hx
      have hne : xs ≠ [] := by intro e; rw [e] at hl; simp at hl
      have hsp := List.dropLast_concat_getLast hne
      rw [← hsp, beV_snoc]
      obtain ⟨h0, h1⟩ := ih xs.dropLast (by simp [hl]) (fun x hm => hx x (List.dropLast_subset xs hm))
      obtain ⟨b0, b1⟩ := hx _ (List.getLast_mem hne)
      rw [Int.pow_succ]
      omega
  exact key _ xs rfl h
set_option maxRecDepth 100000 in
theorem beV_take_succ (xs : List Int) (k : Nat) (hk : k < xs.length) : beV (xs.take (k + 1)) = beV (xs.take k) * 256 + xs.getD k 0 := by
  rw [List.take_succ_eq_append_getElem hk, beV_snoc]
  simp [List.getD, List.getElem?_eq_getElem hk]
set_option maxRecDepth 100000 in
theorem tk_by {n : Nat} {xs : List Int} {e : Int} (h : IsBy xs) : IsBy (tk n xs e).1 ∧ IsBy (tk n xs e).2.1 := by
  unfold tk
  split
  · exact ⟨fun _ h => by simp at h, h⟩
  · split
    · exact ⟨fun _ h => by simp at h, fun _ h => by simp at h⟩
    · exact ⟨h.take n, h.drop n⟩
set_option maxRecDepth 100000 in
theorem tk_len (n : Nat) (xs : List Int) (e : Int) : (tk n xs e).1.length ≤ n ∧ (tk n xs e).2.1.length ≤ xs.length := by
  unfold tk
  split
  · simp
  · split <;> simp <;> omega
/-- What reading a number of n bytes tells. -/
def unum (n : Nat) (xs : List Int) (e : Int) : Int := beV (tk n xs e).1
set_option maxRecDepth 100000 in
theorem pow256_mono {a b : Nat} (h : a ≤ b) : (256 : Int) ^ a ≤ 256 ^ b := by
  obtain ⟨d, rfl⟩ := Nat.exists_eq_add_of_le h
  induction d with
  | zero => exact Int.le_refl _
  | succ d ih =>
    have := ih (by omega)
    have hp := pow256_pos (a + d)
    rw [← Nat.add_assoc, Int.pow_succ]
    omega
set_option maxRecDepth 100000 in
theorem unum_bound {n : Nat} {xs : List Int} {e : Int} (h : IsBy xs) : 0 ≤ unum n xs e ∧ unum n xs e < 256 ^ n := by
  obtain ⟨h0, h1⟩ := beV_bound (tk_by (n := n) (e := e) h).1
  exact ⟨h0, Int.lt_of_lt_of_le h1 (pow256_mono (tk_len n xs e).1)⟩

def NumPost (w : World) (lo g : Nat) (k : IntKind) (v : Int) (xs : List Int) (e : Int) (en : Ending) (w' : World) : Prop := en = .returned (.int k v) ∧ Rd w' lo g xs e ∧ w.grownBy w' (some g)
set_option maxHeartbeats 400000 in
set_option maxRecDepth 100000 in
theorem fromHigh32_any {lo g : Nat} {xs : List Int} {e : Int} (w : World) (h : Rd w lo g xs e) (hx : IsBy xs) :
    Calls Tryz.prog 133 #[.pointer (some ⟨g, 0, none⟩)] w (NumPost w lo g .u32 (unum 4 xs e) (tk 4 xs e).2.1 (tk 4 xs e).2.2) := by
  have hby := (tk_by (n := 4) (e := e) hx).1
  have hln := (tk_len 4 xs e).1
  have hct := hide (take_any w h 4 (by omega))
  unfold unum
  generalize tk 4 xs e = r at *
  clear h hx
  go_enter Tryz.func133, Tryz.ntmps133
  go_wp2_with (first
    | (go_at_call 153; refine (width32_any _).mono ?_; rintro e w' ⟨rfl, rfl⟩)
    | (go_at_call 111; refine hct.out.mono ?_; rintro en w1 ⟨A, n, c, rfl, hs, hn, hr, hg⟩))
  have hl1 := hs.1
  have hnN : n ≤ 4 := by omega
  have HL := hide hl1
  clear hl1
  go_loop [3, 10] (fun v i => ∃ k : Nat, k ≤ n ∧ i = .int .i64 k ∧ v = .int .u32 (beV (r.1.take k))) (fun _ i => n - (intOf i).toNat)
  case atStart => exact ⟨0, Nat.zero_le _, rfl, rfl⟩
  case round =>
    obtain ⟨k, hk, rfl, rfl⟩ := hrel
    obtain ⟨q0, q1⟩ := beV_bound (hby.take k)
    by_cases hlt : k < n
    · obtain ⟨b, o, rfl, hb, _, hc⟩ := hs.2 (by omega)
      have hck := hc k hlt
      obtain ⟨b0, b1⟩ := getD_byte hby k
      have hsu := beV_take_succ r.1 k (by rw [HL.out]; exact hlt)
      have HS := hide hsu
      have Q1 := hide q1
      clear hsu q1 hc
      have HO := hide (or_high32 k (by omega) q0 (by have := Q1.out; rw [List.length_take, HL.out, Nat.min_eq_left (by omega)] at this; exact this) b0 b1)
      go_wp2
      go_round
      case rel => exact ⟨k + 1, by omega, by go_num, congrArg (Value.int .u32) (by rw [HS.out, ← HO.out]; simp [List.getD])⟩
      case measure => simp [intOf]; omega
    · go_wp2
      go_ret
      have hkn : k = n := by omega
      refine ⟨?_, hr, hg⟩
      rw [← show beV (r.1.take k) = beV r.1 from by rw [List.take_of_length_le (by rw [HL.out]; omega)]]
      rfl
set_option maxRecDepth 100000 in
theorem u32_any {lo g : Nat} {xs : List Int} {e : Int} (w : World) (h : Rd w lo g xs e) (hx : IsBy xs) :
    Calls Tryz.prog 108 #[.pointer (some ⟨g, 0, none⟩)] w (NumPost w lo g .u32 (unum 4 xs e) (tk 4 xs e).2.1 (tk 4 xs e).2.2) := by
  go_enter Tryz.func108, Tryz.ntmps108
  go_wp2_with (go_at_call 133; refine (fromHigh32_any _ h hx).mono ?_; rintro en w1 ⟨rfl, hr, hg⟩)
  go_ret
  exact ⟨rfl, hr, hg⟩
set_option maxRecDepth 100000 in
theorem Sp.later {w w' : World} {lo hi n : Nat} {A : Option Addr} {xs : List Int} (h : Sp w lo hi A n xs) (hb : Below w.heap.size w w') : Sp w' lo hi A n xs :=
  ⟨h.1, fun h0 => let ⟨b, o, e, h1, h2, hc⟩ := h.2 h0; ⟨b, o, e, h1, h2, fun j hj => (hb.cell (p := ⟨b, o + j, none⟩) (block_lt_of_cell (hc j hj) : b < w.heap.size)).trans (hc j hj)⟩⟩
set_option maxRecDepth 100000 in
theorem Rd.later {w w' : World} {lo g : Nat} {xs : List Int} {e : Int} (h : Rd w lo g xs e) (hb : Below w.heap.size w w') : Rd w' lo g xs e := by
  obtain ⟨A, n, c, h0, h1, h2, h3, h4, h5⟩ := h
  exact ⟨A, n, c, h0, h1.below hb h1.lt, h2.later hb, h3, h4, h5⟩

set_option maxRecDepth 100000 in
theorem read_any (A : Option Addr) (n c : Nat) (xs : List Int) (w : World) (h : Bs w w.heap.size A n xs) (hn : n ≤ 1000000) :
    Calls Tryz.prog 55 #[.slice A n c] w fun en w' => ∃ g, en = .returned (.pointer (some ⟨g, 0, none⟩)) ∧ w.heap.size ≤ g ∧ g < w'.heap.size ∧ Rd w' w.heap.size g xs 0 ∧ Below w.heap.size w w' := by
  go_enter Tryz.func55, Tryz.ntmps55
  go_wp2_with (go_at_call 107; refine (clone_new A n c xs _ h (by omega)).mono ?_; rintro e w1 ⟨A1, n1, c1, rfl, hb1, hn1, hc1, hl1⟩)
  go_ret
  have hlen : n1 ≤ 1000000 := by have := hb1.1; have := h.1; omega
  simp only [maxLen] at hc1
  exact ⟨w1.heap.size, rfl, hl1.size, by simp, ⟨A1, n1, c1, hl1.size, heap_alloc_new w1 _, hb1.later ((Below.refl _ _).alloc (Nat.le_refl _) _), hn1, ⟨by omega, by omega⟩, fun h => absurd rfl h⟩, hl1.alloc hl1.size _⟩
end Go.Proofs.YtpbkejmffddelaaGreat

/-
  The law ValueEncodes. Own work.
-/
namespace Go.Proofs.YtpbkejmffddelaaGreat
open Go.RowKit Go.Shelf
set_option maxRecDepth 100000 in
set_option maxHeartbeats 2000000 in
theorem valueEncodes_any (w : World) (key : Nm) (x : Vl) (vp vl vs : Value) (at_ : Int) (hx : VlM w w.heap.size x vp vl vs) (fx : x.Fits) (hcp : ∃ A c, vs = .slice A x.ss.length c ∧ x.ss.length ≤ c) (hky : key.length ≤ 140737488355328) :
    Calls Tryz.prog 3 #[enV key x vp vl vs at_] w fun e w' => e = .returned (.bool true) ∧ Below w.heap.size w w' := by
  have HA := awake_any
  have hsz := szVl x vp vl vs
  have hse := szEnt key x vp vl vs at_
  have hst := str_len key
  have hcp := hide hcp
  replace hcp := hcp.out
  go_enter Tryz.func3, Tryz.ntmps3
  go_wp2_with (first
    | ((with_reducible refine wl_box (o := ⟨some 1, _, _, _, _, _⟩) rfl 28 (.tmp 0) _ (enC key x vp vl vs at_) rfl rfl rfl ?_); intro g1 w1 r1 p1 l1 b1)
    | (with_reducible refine wl_load_part (o := ⟨some 8, _, _, _, _, _⟩) rfl 26 (.tmp 7) g1 1 28 [encStr key] (vlC x vp vl vs) [.int .i64 at_] _ rfl rfl r1 rfl Tryz.underlying26 rfl hsz ?_))
  refine (light_any w1 x vp vl vs (hx.later b1) fx).mono ?_
  rintro e w2 ⟨⟨b, rfl, hfew⟩, b2⟩
  have B2 := b1.trans (b2.mono b1.size)
  have r2 := r1.later b2
  have c0 := r2.cell (j := 0) rfl
  cases b with
  | false =>
    go_wp2_with fail
    refine (HA w2).mono ?_
    rintro e w5 ⟨rfl, b5⟩
    go_wp2_with fail
    go_ret
    exact ⟨rfl, B2.trans (b5.mono B2.size)⟩
  | true =>
    have few := hfew rfl
    have h2 := hx.later B2
    clear hfew
    by_cases hk : 200 < key.length
    · have hkI : (200 : Int) < (key.length : Int) := by omega
      go_wp2_with fail
      refine (HA w2).mono ?_
      rintro e w5 ⟨rfl, b5⟩
      go_wp2_with fail
      go_ret
      exact ⟨rfl, B2.trans (b5.mono B2.size)⟩
    · have hkI : ¬ (200 : Int) < (key.length : Int) := by omega
      have HE := enc_any w2 key x vp vl vs at_ h2 few fx.t
      have HR := fun wz (hb : Below w2.heap.size w2 wz) => rencode_any wz key x vp vl vs at_ (h2.later hb) few fx.t hcp
      generalize (if entC key at_ x.rchk = 0 then encB key x at_ else []) = ys at HE HR
      generalize entC key at_ x.rchk = ec at HE HR
      replace HR := hide HR
      clear hx h2 few fx hcp hky r1
      go_wp2_with (first
        | (with_reducible refine wl_load_row (o := ⟨some 19, _, _, _, _, _⟩) rfl 28 (.tmp 1) g1 28 (enC key x vp vl vs at_) _ rfl rfl r2 Tryz.underlying28 rfl hse ?_))
      refine HE.mono ?_
      rintro e w3 ⟨⟨A, n, c, rfl, hb⟩, b3⟩
      have B3 := B2.trans (b3.mono B2.size)
      have r3 := r2.later b3
      clear c0
      go_wp2_with (first
        | (with_reducible refine wl_load_row (o := ⟨some 24, _, _, _, _, _⟩) rfl 28 (.tmp 1) g1 28 (enC key x vp vl vs at_) _ rfl rfl r3 Tryz.underlying28 rfl hse ?_))
      refine (HR.out w3 b3).mono ?_
      rintro e w4 ⟨⟨A', n', c', rfl, hb'⟩, b4⟩
      have B4 := B3.trans (b4.mono B3.size)
      have HQ := equal_any A A' n n' c c' ys ys w4 (hb.later b4) hb'
      rw [beq_self_eq_true] at HQ
      go_wp2_with fail
      refine HQ.mono ?_
      rintro e w5 ⟨rfl, rfl⟩
      go_wp2_with fail
      refine (HA _).mono ?_
      rintro e w6 ⟨rfl, b6⟩
      go_wp2_with fail
      go_ret
      exact ⟨rfl, B4.trans (b6.mono B4.size)⟩
end Go.Proofs.YtpbkejmffddelaaGreat

/-
  Pack for values: numbers read: contracts (as KeyP, without the puts). Own work.
-/
namespace Go.Proofs.YtpbkejmffddelaaGreat
open Go.RowKit
set_option maxHeartbeats 400000 in
set_option maxRecDepth 100000 in
theorem fromHigh64_any {lo g : Nat} {xs : List Int} {e : Int} (w : World) (h : Rd w lo g xs e) (hx : IsBy xs) :
    Calls Tryz.prog 136 #[.pointer (some ⟨g, 0, none⟩)] w (NumPost w lo g .u64 (unum 8 xs e) (tk 8 xs e).2.1 (tk 8 xs e).2.2) := by
  have hby := (tk_by (n := 8) (e := e) hx).1
  have hln := (tk_len 8 xs e).1
  have hct := hide (take_any w h 8 (by omega))
  unfold unum
  generalize tk 8 xs e = r at *
  clear h hx
  go_enter Tryz.func136, Tryz.ntmps136
  go_wp2_with (first
    | (go_at_call 154; refine (width64_any _).mono ?_; rintro e w' ⟨rfl, rfl⟩)
    | (go_at_call 111; refine hct.out.mono ?_; rintro en w1 ⟨A, n, c, rfl, hs, hn, hr, hg⟩))
  have hl1 := hs.1
  have hnN : n ≤ 8 := by omega
  have HL := hide hl1
  clear hl1
  go_loop [3, 10] (fun v i => ∃ k : Nat, k ≤ n ∧ i = .int .i64 k ∧ v = .int .u64 (beV (r.1.take k))) (fun _ i => n - (intOf i).toNat)
  case atStart => exact ⟨0, Nat.zero_le _, rfl, rfl⟩
  case round =>
    obtain ⟨k, hk, rfl, rfl⟩ := hrel
    obtain ⟨q0, q1⟩ := beV_bound (hby.take k)
    by_cases hlt : k < n
    · obtain ⟨b, o, rfl, hb, _, hc⟩ := hs.2 (by omega)
      have hck := hc k hlt
      obtain ⟨b0, b1⟩ := getD_byte hby k
      have hsu := beV_take_succ r.1 k (by rw [HL.out]; exact hlt)
      have HS := hide hsu
      have Q1 := hide q1
      clear hsu q1 hc
      have HO := hide (or_high64 k (by omega) q0 (by have := Q1.out; rw [List.length_take, HL.out, Nat.min_eq_left (by omega)] at this; exact this) b0 b1)
      go_wp2
      go_round
      case rel => exact ⟨k + 1, by omega, by go_num, congrArg (Value.int .u64) (by rw [HS.out, ← HO.out]; simp [List.getD])⟩
      case measure => simp [intOf]; omega
    · go_wp2
      go_ret
      have hkn : k = n := by omega
      refine ⟨?_, hr, hg⟩
      rw [← show beV (r.1.take k) = beV r.1 from by rw [List.take_of_length_le (by rw [HL.out]; omega)]]
      rfl
set_option maxRecDepth 100000 in
theorem u64_any {lo g : Nat} {xs : List Int} {e : Int} (w : World) (h : Rd w lo g xs e) (hx : IsBy xs) :
    Calls Tryz.prog 112 #[.pointer (some ⟨g, 0, none⟩)] w (NumPost w lo g .u64 (unum 8 xs e) (tk 8 xs e).2.1 (tk 8 xs e).2.2) := by
  go_enter Tryz.func112, Tryz.ntmps112
  go_wp2_with (go_at_call 136; refine (fromHigh64_any _ h hx).mono ?_; rintro en w1 ⟨rfl, hr, hg⟩)
  go_ret
  exact ⟨rfl, hr, hg⟩
set_option maxRecDepth 100000 in
theorem pabove_any (x most : Int) (w : World) (h0 : 0 ≤ x) (h1 : x < 18446744073709551616) (m0 : -9223372036854775808 ≤ most) (m1 : most ≤ 9223372036854775807) :
    Calls Tryz.prog 109 #[.int .u64 x, .int .i64 most] w fun en w' => en = .returned (.bool (decide (most < x))) ∧ w = w' := by
  by_cases hm : most < 0
  · have hd : decide (most < x) = true := by simp; omega
    rw [hd]
    go_enter Tryz.func109, Tryz.ntmps109
    go_wp2
    go_ret
    exact ⟨rfl, rfl⟩
  · go_enter Tryz.func109, Tryz.ntmps109
    go_wp2
    go_ret
    exact ⟨rfl, rfl⟩
def tkNum (most : Int) (xs : List Int) (e : Int) : Int × List Int × Int :=
  let v := unum 8 xs e
  let r := (tk 8 xs e).2
  if most < v then (0, [], if r.2 ≠ 0 then r.2 else 5) else (v, r.1, r.2)
set_option maxRecDepth 100000 in
theorem rd_nil {w : World} {lo g : Nat} {xs : List Int} {e : Int} (h : Rd w lo g xs e) (he : e ≠ 0) : xs = [] := by
  obtain ⟨A, n, c, _, _, _, _, _, h5⟩ := h; exact h5 he
set_option maxHeartbeats 400000 in
set_option maxRecDepth 100000 in
theorem num_any {lo g : Nat} {xs : List Int} {e : Int} (w : World) (h : Rd w lo g xs e) (hx : IsBy xs) (most : Int) (m0 : -9223372036854775808 ≤ most) (m1 : most ≤ 9223372036854775807) :
    Calls Tryz.prog 57 #[.pointer (some ⟨g, 0, none⟩), .int .i64 most] w (NumPost w lo g .i64 (tkNum most xs e).1 (tkNum most xs e).2.1 (tkNum most xs e).2.2) := by
  have hub := unum_bound (n := 8) (e := e) hx
  have hu : unum 8 xs e < 18446744073709551616 := hub.2
  have hc := hide (u64_any w h hx)
  have hnil : (tk 8 xs e).2.2 ≠ 0 → (tk 8 xs e).2.1 = [] := by
    obtain ⟨_, _, _, _, _, _, _, _, h5⟩ := h
    unfold tk
    split
    · rename_i he; exact fun _ => h5 he
    · split
      · exact fun _ => rfl
      · exact fun h => absurd rfl h
  unfold tkNum
  generalize unum 8 xs e = v at *
  generalize (tk 8 xs e).2 = r at *
  obtain ⟨ys, e1⟩ := r
  dsimp only at *
  have h0 := hub.1
  clear h hx hub
  by_cases hm : most < v
  · rw [if_pos hm]
    by_cases he : e1 = 0
    · subst he
      rw [if_neg (by simp)]
      go_enter Tryz.func57, Tryz.ntmps57
      go_wp2_with (first
        | (go_at_call 112; refine hc.out.mono ?_; rintro en w1 ⟨rfl, hr, hg⟩)
        | (go_at_call 109; refine (pabove_any v most _ h0 hu m0 m1).mono ?_; rintro en w2 ⟨rfl, rfl⟩)
        | (go_at_call 110; refine (fail_new _ hr 5).mono ?_; rintro en w2 ⟨rfl, hr2, hg2⟩))
      go_ret
      exact ⟨rfl, hr2, grown_trans hg hg2⟩
    · rw [if_pos he]
      have hys := hide (hnil he)
      clear hnil
      go_enter Tryz.func57, Tryz.ntmps57
      go_wp2_with (first
        | (go_at_call 112; refine hc.out.mono ?_; rintro en w1 ⟨rfl, hr, hg⟩)
        | (go_at_call 109; refine (pabove_any v most _ h0 hu m0 m1).mono ?_; rintro en w2 ⟨rfl, rfl⟩)
        | (go_at_call 110; refine (fail_old _ hr he 5).mono ?_; rintro en w2 ⟨rfl, rfl⟩))
      go_ret
      exact ⟨rfl, by rw [← hys.out]; exact hr, hg⟩
  · rw [if_neg hm]
    go_enter Tryz.func57, Tryz.ntmps57
    go_wp2_with (first
      | (go_at_call 112; refine hc.out.mono ?_; rintro en w1 ⟨rfl, hr, hg⟩)
      | (go_at_call 109; refine (pabove_any v most _ h0 hu m0 m1).mono ?_; rintro en w2 ⟨rfl, rfl⟩))
    go_ret
    exact ⟨rfl, hr, hg⟩
def endV (xs : List Int) (e : Int) : Int := if e = 0 ∧ 0 < xs.length then 3 else e
set_option maxRecDepth 100000 in
theorem tk_nil {n : Nat} {xs : List Int} {e : Int} (h5 : e ≠ 0 → xs = []) : (tk n xs e).2.2 ≠ 0 → (tk n xs e).2.1 = [] := by
  unfold tk
  split
  · rename_i he; exact fun _ => h5 he
  · split
    · exact fun _ => rfl
    · exact fun h => absurd rfl h
def Id (w : World) (lo g : Nat) (xs : List Int) (e : Int) : Prop :=
  ∃ A n c, lo ≤ g ∧ Blk w g 108 #[.slice A n c, .int .i64 e] ∧ Sp w lo g A n xs ∧ n ≤ c ∧ (c ≤ 9223372036854775807 ∧ n ≤ 140737488355328) ∧ (e ≠ 0 → xs = [])
set_option maxRecDepth 100000 in
theorem Id.grown {w w' : World} {lo g g' : Nat} {xs : List Int} {e : Int} (h : Id w lo g xs e) (hg : w.grownBy w' (some g')) (hne : g' < lo ∨ g < g') : Id w' lo g xs e := by
  obtain ⟨A, n, c, h0, h1, h2, h3, h4, h5⟩ := h
  exact ⟨A, n, c, h0, h1.grown hg (by intro e; injection e with e; omega), h2.grown hg (by omega), h3, h4, h5⟩
set_option maxRecDepth 100000 in
theorem Id.later {w w' : World} {lo g : Nat} {xs : List Int} {e : Int} (h : Id w lo g xs e) (hb : Below w.heap.size w w') : Id w' lo g xs e := by
  obtain ⟨A, n, c, h0, h1, h2, h3, h4, h5⟩ := h
  exact ⟨A, n, c, h0, h1.below hb h1.lt, h2.later hb, h3, h4, h5⟩
set_option maxRecDepth 100000 in
theorem Id.nil_ {w : World} {lo g : Nat} {xs : List Int} {e : Int} (h : Id w lo g xs e) (he : e ≠ 0) : xs = [] := by
  obtain ⟨A, n, c, _, _, _, _, _, h5⟩ := h; exact h5 he
set_option maxRecDepth 100000 in
theorem ifail_new {lo g : Nat} {xs : List Int} (w : World) (h : Id w lo g xs 0) (code : Int) :
    Calls Tryz.prog 115 #[.pointer (some ⟨g, 0, none⟩), .int .i64 code] w fun en w' => en = .returned (.tuple #[]) ∧ Id w' lo g [] code ∧ w.grownBy w' (some g) := by
  obtain ⟨A, n, c, hlo, hb, hs, _⟩ := h
  have c0 := hb.cell 0
  have c1 := hb.cell 1
  simp only [List.getElem?_toArray, List.getElem?_cons_zero, List.getElem?_cons_succ] at c0 c1
  have f0 := hb.frozen 0
  have f1 := hb.frozen 1
  have HB := hide hb
  clear hb
  go_enter Tryz.func115, Tryz.ntmps115
  go_wp2
  go_end0
  exact ⟨rfl, ⟨none, 0, 0, hlo, (HB.out.set 1 _).set 0 _, Sp.nil_, Nat.le_refl _, ⟨by omega, by omega⟩, fun _ => rfl⟩, grown_trans (grown_set _ _ _ _) (grown_set _ _ _ _)⟩
set_option maxRecDepth 100000 in
theorem ifail_old {lo g : Nat} {xs : List Int} {e : Int} (w : World) (h : Id w lo g xs e) (he : e ≠ 0) (code : Int) :
    Calls Tryz.prog 115 #[.pointer (some ⟨g, 0, none⟩), .int .i64 code] w fun en w' => en = .returned (.tuple #[]) ∧ Id w' lo g [] e ∧ w.grownBy w' (some g) := by
  obtain ⟨A, n, c, hlo, hb, hs, _⟩ := h
  have hd : (e == 0) = false := beq_eq_false_iff_ne.2 he
  have c0 := hb.cell 0
  have c1 := hb.cell 1
  simp only [List.getElem?_toArray, List.getElem?_cons_zero, List.getElem?_cons_succ] at c0 c1
  have f0 := hb.frozen 0
  have f1 := hb.frozen 1
  have HB := hide hb
  clear hb
  go_enter Tryz.func115, Tryz.ntmps115
  go_wp2
  go_end0
  exact ⟨rfl, ⟨none, 0, 0, hlo, HB.out.set 0 _, Sp.nil_, Nat.le_refl _, ⟨by omega, by omega⟩, fun _ => rfl⟩, grown_set _ _ _ _⟩
def INumPost (w : World) (lo g : Nat) (k : IntKind) (v : Int) (xs : List Int) (e : Int) (en : Ending) (w' : World) : Prop := en = .returned (.int k v) ∧ Id w' lo g xs e ∧ w.grownBy w' (some g)
set_option maxRecDepth 100000 in
theorem step256 (k : Nat) (hk : k < 8) {q b : Int} (q0 : 0 ≤ q) (q1 : q < 256 ^ k) (b0 : 0 ≤ b) (b1 : b < 256) : 0 ≤ 256 * q ∧ 256 * q + b < 18446744073709551616 := by
  have := pow256_mono (show k + 1 ≤ 8 by omega)
  rw [Int.pow_succ, show (256 : Int) ^ 8 = 18446744073709551616 from by decide] at this
  omega
set_option maxHeartbeats 400000 in
set_option maxRecDepth 100000 in
theorem iu_any {lo g : Nat} {xs : List Int} {e : Int} (w : World) (h : Id w lo g xs e) (hx : IsBy xs) (n : Nat) (hn0 : 0 < n) (hn : n ≤ 8) :
    Calls Tryz.prog 62 #[.pointer (some ⟨g, 0, none⟩), .int .i64 (n : Int)] w (INumPost w lo g .u64 (unum n xs e) (tk n xs e).2.1 (tk n xs e).2.2) := by
  have h' := hide h
  have hnil := h.nil_
  obtain ⟨A, m, c, hlo, hb, hs, hmc, ⟨hc, hm47⟩, _⟩ := h
  have c0 := hb.cell 0
  simp only [List.getElem?_toArray, List.getElem?_cons_zero, List.getElem?_cons_succ] at c0
  have f0 := hb.frozen 0
  have hml := hs.1
  by_cases hlt : m < n
  · by_cases he : e = 0
    · subst he
      have ht : tk n xs 0 = ([], [], 4) := by simp [tk]; omega
      unfold unum
      rw [ht]
      have HM := hide hml
      clear hml hb hnil
      go_enter Tryz.func62, Tryz.ntmps62
      go_wp2_with (go_at_call 115; refine (ifail_new _ h'.out 4).mono ?_; rintro en w1 ⟨rfl, hr, hg⟩)
      go_ret
      exact ⟨rfl, hr, hg⟩
    · have hxs := hnil he
      have ht : tk n xs e = ([], [], e) := by simp [tk, he, hxs]
      unfold unum
      rw [ht]
      have HM := hide hml
      clear hml hb hnil hxs
      go_enter Tryz.func62, Tryz.ntmps62
      go_wp2_with (go_at_call 115; refine (ifail_old _ h'.out he 4).mono ?_; rintro en w1 ⟨rfl, hr, hg⟩)
      go_ret
      exact ⟨rfl, hr, hg⟩
  · have he : e = 0 := by
      rcases Decidable.em (e = 0) with h | h
      · exact h
      · have := hnil h
        rw [this] at hml
        simp at hml
        omega
    subst he
    have ht : tk n xs 0 = (xs.take n, xs.drop n, 0) := by simp [tk]; omega
    unfold unum
    rw [ht]
    have HM := hide hml
    have HB := hide hb
    clear hml hb hnil
    go_enter Tryz.func62, Tryz.ntmps62
    go_wp2
    go_loop [5, 6] (fun v i => ∃ k : Nat, k ≤ n ∧ i = .int .i64 k ∧ v = .int .u64 (beV (xs.take k))) (fun _ i => n - (intOf i).toNat)
    case atStart => exact ⟨0, Nat.zero_le _, rfl, rfl⟩
    case round =>
      obtain ⟨k, hk, rfl, rfl⟩ := hrel
      obtain ⟨q0, q1⟩ := beV_bound (hx.take k)
      by_cases hkn : k < n
      · obtain ⟨b, o, rfl, hlb, _, hcell⟩ := hs.2 (by omega)
        have hck := hcell k (by omega)
        obtain ⟨b0, b1⟩ := getD_byte hx k
        have hsu := beV_take_succ xs k (by rw [HM.out]; omega)
        rw [List.length_take, HM.out, Nat.min_eq_left (by omega)] at q1
        obtain ⟨s0, s1⟩ := step256 k (by omega) q0 q1 b0 b1
        have S2 := hide (show IntKind.u64.wrap (256 * beV (xs.take k) + IntKind.u64.wrap (xs.getD k 0)) = 256 * beV (xs.take k) + xs.getD k 0 from by rw [u64_wrap_id _ b0 (by omega), u64_wrap_id _ (by omega) s1])
        have HS := hide hsu
        clear hsu q1 hcell
        go_wp2
        go_round
        case rel => exact ⟨k + 1, by omega, by go_num, congrArg (Value.int .u64) (by have h2 := S2.out; rw [HS.out, Int.mul_comm (beV _) 256, ← h2]; simp [List.getD])⟩
        case measure => simp [intOf]; omega
      · have hkn' : k = n := by omega
        go_wp2
        · go_ret
          have hcn : c = n := ‹c = n›
          have hd := hs.drop (k := n) (by omega) hmc
          rw [if_pos hcn] at hd
          exact ⟨rfl, ⟨A, m - n, 0, hlo, HB.out.set 0 _, hd.grown (grown_set _ _ _ _) (.inr (Nat.le_refl _)), by omega, ⟨by omega, by omega⟩, fun h => absurd rfl h⟩, grown_set _ _ _ _⟩
        · go_ret
          have hd := hs.drop (k := n) (by omega) hmc
          rw [if_neg ‹¬c = n›] at hd
          exact ⟨rfl, ⟨_, m - n, c - n, hlo, HB.out.set 0 _, hd.grown (grown_set _ _ _ _) (.inr (Nat.le_refl _)), by omega, ⟨by omega, by omega⟩, fun h => absurd rfl h⟩, grown_set _ _ _ _⟩
set_option maxRecDepth 100000 in
theorem tk_err {n : Nat} {xs : List Int} {e : Int} (h : (tk n xs e).2.2 ≠ 0) : (tk n xs e).1 = [] := by
  unfold tk at h ⊢
  split
  · rfl
  · rename_i he
    rw [if_neg he] at h
    split
    · rfl
    · rename_i hl; rw [if_neg hl] at h; exact absurd rfl h
set_option maxRecDepth 100000 in
theorem unum_err {n : Nat} {xs : List Int} {e : Int} (h : (tk n xs e).2.2 ≠ 0) : unum n xs e = 0 := by unfold unum; rw [tk_err h]; rfl
set_option maxHeartbeats 400000 in
set_option maxRecDepth 100000 in
theorem inum_any {lo g : Nat} {xs : List Int} {e : Int} (w : World) (h : Id w lo g xs e) (hx : IsBy xs) (most : Int) (m0 : -9223372036854775808 ≤ most) (m1 : most ≤ 9223372036854775807) :
    Calls Tryz.prog 61 #[.pointer (some ⟨g, 0, none⟩), .int .i64 most] w (INumPost w lo g .i64 (tkNum most xs e).1 (tkNum most xs e).2.1 (tkNum most xs e).2.2) := by
  have hub := unum_bound (n := 8) (e := e) hx
  have hu : unum 8 xs e < 18446744073709551616 := hub.2
  have hc := hide (iu_any w h hx 8 (by omega) (by omega))
  have hnil := tk_nil (n := 8) h.nil_
  have hz := unum_err (n := 8) (xs := xs) (e := e)
  unfold tkNum
  generalize unum 8 xs e = v at *
  generalize (tk 8 xs e).2 = r at *
  obtain ⟨ys, e1⟩ := r
  dsimp only at *
  have h0 := hub.1
  clear h hx hub
  by_cases he : e1 = 0
  · subst he
    clear hz hnil
    by_cases hm : most < v
    · rw [if_pos hm, if_neg (by simp)]
      by_cases h63 : 9223372036854775808 ≤ v
      · have HV := hide hu
        clear hu
        go_enter Tryz.func61, Tryz.ntmps61
        go_wp2_with (first
          | (go_at_call 62; refine hc.out.mono ?_; rintro en w1 ⟨rfl, hr, hg⟩; obtain ⟨A1, n1, c1, _, hb1, _⟩ := id hr; have cc0 := hb1.cell 0; have cc1 := hb1.cell 1; simp only [List.getElem?_toArray, List.getElem?_cons_zero, List.getElem?_cons_succ] at cc0 cc1; clear hb1)
          | (go_at_call 115; refine (ifail_new _ hr 5).mono ?_; rintro en w2 ⟨rfl, hr2, hg2⟩))
        go_ret
        exact ⟨rfl, hr2, grown_trans hg hg2⟩
      · have HV := hide hu
        clear hu
        go_enter Tryz.func61, Tryz.ntmps61
        go_wp2_with (first
          | (go_at_call 62; refine hc.out.mono ?_; rintro en w1 ⟨rfl, hr, hg⟩; obtain ⟨A1, n1, c1, _, hb1, _⟩ := id hr; have cc0 := hb1.cell 0; have cc1 := hb1.cell 1; simp only [List.getElem?_toArray, List.getElem?_cons_zero, List.getElem?_cons_succ] at cc0 cc1; clear hb1)
          | (go_at_call 115; refine (ifail_new _ hr 5).mono ?_; rintro en w2 ⟨rfl, hr2, hg2⟩))
        go_ret
        exact ⟨rfl, hr2, grown_trans hg hg2⟩
    · rw [if_neg hm]
      have h63 : ¬ 9223372036854775808 ≤ v := by omega
      have HV := hide hu
      clear hu
      go_enter Tryz.func61, Tryz.ntmps61
      go_wp2_with (go_at_call 62; refine hc.out.mono ?_; rintro en w1 ⟨rfl, hr, hg⟩; obtain ⟨A1, n1, c1, _, hb1, _⟩ := id hr; have cc0 := hb1.cell 0; have cc1 := hb1.cell 1; simp only [List.getElem?_toArray, List.getElem?_cons_zero, List.getElem?_cons_succ] at cc0 cc1; clear hb1)
      go_ret
      exact ⟨rfl, hr, hg⟩
  · have hd : (e1 == 0) = false := beq_eq_false_iff_ne.2 he
    obtain rfl := hz he
    obtain rfl := hnil he
    clear hz hnil
    have hif : (if most < 0 then ((0 : Int), ([] : List Int), if e1 ≠ 0 then e1 else 5) else (0, [], e1)) = (0, [], e1) := by
      rw [if_pos he]; split <;> rfl
    rw [hif]
    clear hu h0
    go_enter Tryz.func61, Tryz.ntmps61
    go_wp2_with (go_at_call 62; refine hc.out.mono ?_; rintro en w1 ⟨rfl, hr, hg⟩; obtain ⟨A1, n1, c1, _, hb1, _⟩ := id hr; have cc0 := hb1.cell 0; have cc1 := hb1.cell 1; simp only [List.getElem?_toArray, List.getElem?_cons_zero, List.getElem?_cons_succ] at cc0 cc1; clear hb1)
    go_ret
    exact ⟨rfl, hr, hg⟩
end Go.Proofs.YtpbkejmffddelaaGreat

/-
  SameEntries of two lists of one entry, when the entries are the same. Own work.
-/
namespace Go.Proofs.YtpbkejmffddelaaGreat
open Go.RowKit Go.Shelf
def FSn (q : Unit) (opn : Nat) (v : Value) (w : World) : Prop := True
theorem FSn_mono (q : Unit) : ∀ j v w w', FSn q j v w → Below w.heap.size w w' → FSn q j v w' := fun _ _ _ _ _ _ => trivial
def SSn6 (ga gb : Nat) (key : Nm) (x : Vl) (vp vl vs vp' vl' vs' : Value) (at_ : Int) (opn : Nat) (v : Value) : Prop :=
  match opn with
  | 0 | 12 | 25 => v = .slice (some ⟨ga, 0, none⟩) 1 1
  | 1 | 6 | 13 | 18 | 26 | 31 => v = .int .i64 ((0 : Nat) : Int)
  | 2 | 14 | 27 => v = .pointer (some ⟨ga, 0 + 0 * 7, none⟩)
  | 3 => v = .pointer (some ⟨ga, 0, none⟩)
  | 4 | 9 => v = encStr key
  | 5 | 17 | 30 => v = .slice (some ⟨gb, 0, none⟩) 1 1
  | 7 | 19 | 32 => v = .pointer (some ⟨gb, 0 + 0 * 7, none⟩)
  | 8 => v = .pointer (some ⟨gb, 0, none⟩)
  | 10 | 11 | 22 | 23 | 24 | 36 | 37 => v = .bool false
  | 15 => v = .pointer (some ⟨ga, 6, none⟩)
  | 16 | 21 => v = .int .i64 at_
  | 20 => v = .pointer (some ⟨gb, 6, none⟩)
  | 28 => v = .pointer (some ⟨ga, 1, none⟩)
  | 29 => v = .agg (vlC x vp vl vs).toArray
  | 33 => v = .pointer (some ⟨gb, 1, none⟩)
  | 34 => v = .agg (vlC x vp' vl' vs').toArray
  | 35 => v = .bool true
  | _ => True

set_option maxRecDepth 100000 in
set_option maxHeartbeats 2000000 in
theorem sameEn_any (w : World) (ga gb : Nat) (key : Nm) (x : Vl) (vp vl vs vp' vl' vs' : Value) (at_ : Int) (ra : Row w 28 ga (enC key x vp vl vs at_)) (rb : Row w 28 gb (enC key x vp' vl' vs' at_)) (hx : VlM w w.heap.size x vp vl vs) (hy : VlM w w.heap.size x vp' vl' vs') (fx : x.Fits) :
    Calls Tryz.prog 16 #[.slice (some ⟨ga, 0, none⟩) 1 1, .slice (some ⟨gb, 0, none⟩) 1 1] w fun e w' => e = .returned (.bool true) ∧ Below w.heap.size w w' := by
  go_enter Tryz.func16, Tryz.ntmps16
  go_wp2_with fail
  go_loopw [5] (fun iv wr => ∃ i : Nat, i ≤ 1 ∧ iv = .int .i64 (i : Int) ∧ Below w.heap.size w wr) (fun iv _ => 1 - (intOf iv).toNat)
  case atStart => exact ⟨0, by omega, rfl, Below.refl _ _⟩
  case round =>
    obtain ⟨i, hi, rfl, BW⟩ := hrel
    by_cases hlt : i < 1
    · obtain rfl : i = 0 := by omega
      replace ra := ra.later BW
      replace rb := rb.later BW
      replace hx := hx.later BW
      replace hy := hy.later BW
      go_wp2_with fail
      rename_i K6 hK6
      refine wp_region_valsG [35] (SSn6 ga gb key x vp vl vs vp' vl' vs' at_) (JF wr [35] (FSn ())) (by kernel_rfl) (by kernel_rfl) (by kernel_rfl) (by kernel_rfl) (JF.start _) ?obs6 ?he6
      case obs6 =>
        refine ⟨?_, ?_, ?_, ?_, ?_, ?_, ?_, ?_, ?_, ?_, ?_, ?_, ?_, ?_, ?_, ?_, ?_, ?_, ?_, ?_, ?_, ?_, ?_, ?_, ?_, ?_, ?_, ?_, ?_, ?_, ?_, ?_, ?_, ?_, ?_, ?_, ?_, ?_, trivial⟩
        · refine ⟨.inl rfl, ?_⟩
          exact .inl ⟨by kernel_rfl, fun L a1 w1 n h => ⟨_, rfl, run_move (.tmp 0) rfl (h.var n 0 (by kernel_rfl))⟩⟩
        · refine ⟨.inl rfl, ?_⟩
          exact .inl ⟨by kernel_rfl, fun L a1 w1 n h => ⟨_, rfl, run_move (.tmp 5) rfl (h.var n 5 (by kernel_rfl))⟩⟩
        · refine ⟨.inl rfl, ?_⟩
          exact .inl ⟨by kernel_rfl, fun L a1 w1 n h => ⟨_, rfl, run_idxO 44 (.tmp 17) (.tmp 18) 28 7 ga 0 1 1 0 rfl Tryz.underlying44 Tryz.sizeOf28 (h.dep n 0 17 (by kernel_rfl) rfl) (h.dep n 1 18 (by kernel_rfl) rfl) (by decide)⟩⟩
        · refine ⟨.inl rfl, ?_⟩
          refine .inl ⟨by kernel_rfl, fun L a1 w1 n h => ⟨.pointer (some ⟨ga, 0, none⟩), rfl, ?_⟩⟩
          have e0 : a1.eval (.tmp 19) = _ := h.dep n 2 19 (by kernel_rfl) rfl
          unfold execOp
          simp only [e0]
          go_simp
        · refine ⟨.inl rfl, ?_⟩
          exact .inl ⟨by kernel_rfl, fun L a1 w1 n h => ⟨_, rfl, run_load1 9 (.tmp 20) ga 0 _ rfl Tryz.isAgg9 (h.dep n 3 20 (by kernel_rfl) rfl) ((ra.later h.inv.1).cell rfl)⟩⟩
        · refine ⟨.inl rfl, ?_⟩
          exact .inl ⟨by kernel_rfl, fun L a1 w1 n h => ⟨_, rfl, run_move (.tmp 1) rfl (h.var n 1 (by kernel_rfl))⟩⟩
        · refine ⟨.inl rfl, ?_⟩
          exact .inl ⟨by kernel_rfl, fun L a1 w1 n h => ⟨_, rfl, run_move (.tmp 5) rfl (h.var n 5 (by kernel_rfl))⟩⟩
        · refine ⟨.inl rfl, ?_⟩
          exact .inl ⟨by kernel_rfl, fun L a1 w1 n h => ⟨_, rfl, run_idxO 44 (.tmp 22) (.tmp 23) 28 7 gb 0 1 1 0 rfl Tryz.underlying44 Tryz.sizeOf28 (h.dep n 5 22 (by kernel_rfl) rfl) (h.dep n 6 23 (by kernel_rfl) rfl) (by decide)⟩⟩
        · refine ⟨.inl rfl, ?_⟩
          refine .inl ⟨by kernel_rfl, fun L a1 w1 n h => ⟨.pointer (some ⟨gb, 0, none⟩), rfl, ?_⟩⟩
          have e0 : a1.eval (.tmp 24) = _ := h.dep n 7 24 (by kernel_rfl) rfl
          unfold execOp
          simp only [e0]
          go_simp
        · refine ⟨.inl rfl, ?_⟩
          exact .inl ⟨by kernel_rfl, fun L a1 w1 n h => ⟨_, rfl, run_load1 9 (.tmp 25) gb 0 _ rfl Tryz.isAgg9 (h.dep n 8 25 (by kernel_rfl) rfl) ((rb.later h.inv.1).cell rfl)⟩⟩
        · refine ⟨.inl rfl, ?_⟩
          exact .inl ⟨by kernel_rfl, fun L a1 w1 n h => ⟨_, rfl, run_neStr (.tmp 21) (.tmp 26) rfl (h.dep n 4 21 (by kernel_rfl) rfl) (h.dep n 9 26 (by kernel_rfl) rfl) (by simp)⟩⟩
        · refine ⟨.inl rfl, ?_⟩
          exact .inl ⟨by kernel_rfl, fun L a1 w1 n h => ⟨_, rfl, run_move (.tmp 27) rfl (h.dep n 10 27 (by kernel_rfl) rfl)⟩⟩
        · refine ⟨.inr ⟨11, false, 28, rfl, by kernel_rfl, rfl, by simp, fun v h => h⟩, ?_⟩
          exact .inl ⟨by kernel_rfl, fun L a1 w1 n h => ⟨_, rfl, run_move (.tmp 0) rfl (h.var n 0 (by kernel_rfl))⟩⟩
        · refine ⟨.inr ⟨11, false, 28, rfl, by kernel_rfl, rfl, by simp, fun v h => h⟩, ?_⟩
          exact .inl ⟨by kernel_rfl, fun L a1 w1 n h => ⟨_, rfl, run_move (.tmp 5) rfl (h.var n 5 (by kernel_rfl))⟩⟩
        · refine ⟨.inr ⟨11, false, 28, rfl, by kernel_rfl, rfl, by simp, fun v h => h⟩, ?_⟩
          exact .inl ⟨by kernel_rfl, fun L a1 w1 n h => ⟨_, rfl, run_idxO 44 (.tmp 29) (.tmp 30) 28 7 ga 0 1 1 0 rfl Tryz.underlying44 Tryz.sizeOf28 (h.dep n 12 29 (by kernel_rfl) rfl) (h.dep n 13 30 (by kernel_rfl) rfl) (by decide)⟩⟩
        · refine ⟨.inr ⟨11, false, 28, rfl, by kernel_rfl, rfl, by simp, fun v h => h⟩, ?_⟩
          refine .inl ⟨by kernel_rfl, fun L a1 w1 n h => ⟨.pointer (some ⟨ga, 6, none⟩), rfl, ?_⟩⟩
          have e0 : a1.eval (.tmp 31) = _ := h.dep n 14 31 (by kernel_rfl) rfl
          unfold execOp
          simp only [e0]
          go_simp
        · refine ⟨.inr ⟨11, false, 28, rfl, by kernel_rfl, rfl, by simp, fun v h => h⟩, ?_⟩
          exact .inl ⟨by kernel_rfl, fun L a1 w1 n h => ⟨_, rfl, run_load1 3 (.tmp 32) ga 6 _ rfl Tryz.isAgg3 (h.dep n 15 32 (by kernel_rfl) rfl) ((ra.later h.inv.1).cell rfl)⟩⟩
        · refine ⟨.inr ⟨11, false, 28, rfl, by kernel_rfl, rfl, by simp, fun v h => h⟩, ?_⟩
          exact .inl ⟨by kernel_rfl, fun L a1 w1 n h => ⟨_, rfl, run_move (.tmp 1) rfl (h.var n 1 (by kernel_rfl))⟩⟩
        · refine ⟨.inr ⟨11, false, 28, rfl, by kernel_rfl, rfl, by simp, fun v h => h⟩, ?_⟩
          exact .inl ⟨by kernel_rfl, fun L a1 w1 n h => ⟨_, rfl, run_move (.tmp 5) rfl (h.var n 5 (by kernel_rfl))⟩⟩
        · refine ⟨.inr ⟨11, false, 28, rfl, by kernel_rfl, rfl, by simp, fun v h => h⟩, ?_⟩
          exact .inl ⟨by kernel_rfl, fun L a1 w1 n h => ⟨_, rfl, run_idxO 44 (.tmp 34) (.tmp 35) 28 7 gb 0 1 1 0 rfl Tryz.underlying44 Tryz.sizeOf28 (h.dep n 17 34 (by kernel_rfl) rfl) (h.dep n 18 35 (by kernel_rfl) rfl) (by decide)⟩⟩
        · refine ⟨.inr ⟨11, false, 28, rfl, by kernel_rfl, rfl, by simp, fun v h => h⟩, ?_⟩
          refine .inl ⟨by kernel_rfl, fun L a1 w1 n h => ⟨.pointer (some ⟨gb, 6, none⟩), rfl, ?_⟩⟩
          have e0 : a1.eval (.tmp 36) = _ := h.dep n 19 36 (by kernel_rfl) rfl
          unfold execOp
          simp only [e0]
          go_simp
        · refine ⟨.inr ⟨11, false, 28, rfl, by kernel_rfl, rfl, by simp, fun v h => h⟩, ?_⟩
          exact .inl ⟨by kernel_rfl, fun L a1 w1 n h => ⟨_, rfl, run_load1 3 (.tmp 37) gb 6 _ rfl Tryz.isAgg3 (h.dep n 20 37 (by kernel_rfl) rfl) ((rb.later h.inv.1).cell rfl)⟩⟩
        · refine ⟨.inr ⟨11, false, 28, rfl, by kernel_rfl, rfl, by simp, fun v h => h⟩, ?_⟩
          exact .inl ⟨by kernel_rfl, fun L a1 w1 n h => ⟨_, rfl, run_neqI (.tmp 33) (.tmp 38) rfl (h.dep n 16 33 (by kernel_rfl) rfl) (h.dep n 21 38 (by kernel_rfl) rfl) (by simp)⟩⟩
        · refine ⟨.inl rfl, ?_⟩
          exact .inl ⟨by kernel_rfl, fun L a1 w1 n h => ⟨_, rfl, run_pickF (.tmp 28) _ _ rfl (h.dep n 11 28 (by kernel_rfl) rfl) (h.dep n 22 39 (by kernel_rfl) rfl)⟩⟩
        · refine ⟨.inl rfl, ?_⟩
          exact .inl ⟨by kernel_rfl, fun L a1 w1 n h => ⟨_, rfl, run_move (.tmp 40) rfl (h.dep n 23 40 (by kernel_rfl) rfl)⟩⟩
        · refine ⟨.inr ⟨24, false, 41, rfl, by kernel_rfl, rfl, by simp, fun v h => h⟩, ?_⟩
          exact .inl ⟨by kernel_rfl, fun L a1 w1 n h => ⟨_, rfl, run_move (.tmp 0) rfl (h.var n 0 (by kernel_rfl))⟩⟩
        · refine ⟨.inr ⟨24, false, 41, rfl, by kernel_rfl, rfl, by simp, fun v h => h⟩, ?_⟩
          exact .inl ⟨by kernel_rfl, fun L a1 w1 n h => ⟨_, rfl, run_move (.tmp 5) rfl (h.var n 5 (by kernel_rfl))⟩⟩
        · refine ⟨.inr ⟨24, false, 41, rfl, by kernel_rfl, rfl, by simp, fun v h => h⟩, ?_⟩
          exact .inl ⟨by kernel_rfl, fun L a1 w1 n h => ⟨_, rfl, run_idxO 44 (.tmp 42) (.tmp 43) 28 7 ga 0 1 1 0 rfl Tryz.underlying44 Tryz.sizeOf28 (h.dep n 25 42 (by kernel_rfl) rfl) (h.dep n 26 43 (by kernel_rfl) rfl) (by decide)⟩⟩
        · refine ⟨.inr ⟨24, false, 41, rfl, by kernel_rfl, rfl, by simp, fun v h => h⟩, ?_⟩
          refine .inl ⟨by kernel_rfl, fun L a1 w1 n h => ⟨.pointer (some ⟨ga, 1, none⟩), rfl, ?_⟩⟩
          have e0 : a1.eval (.tmp 44) = _ := h.dep n 27 44 (by kernel_rfl) rfl
          unfold execOp
          simp only [e0]
          go_simp
        · refine ⟨.inr ⟨24, false, 41, rfl, by kernel_rfl, rfl, by simp, fun v h => h⟩, ?_⟩
          exact .inl ⟨by kernel_rfl, fun L a1 w1 n h => ⟨_, rfl, run_loadP 26 (.tmp 45) ga 1 TE [encStr key] (vlC x vp vl vs) [.int .i64 at_] _ rfl (h.dep n 28 45 (by kernel_rfl) rfl) (ra.later h.inv.1) rfl Tryz.underlying26 rfl (szVl x _ _ _)⟩⟩
        · refine ⟨.inr ⟨24, false, 41, rfl, by kernel_rfl, rfl, by simp, fun v h => h⟩, ?_⟩
          exact .inl ⟨by kernel_rfl, fun L a1 w1 n h => ⟨_, rfl, run_move (.tmp 1) rfl (h.var n 1 (by kernel_rfl))⟩⟩
        · refine ⟨.inr ⟨24, false, 41, rfl, by kernel_rfl, rfl, by simp, fun v h => h⟩, ?_⟩
          exact .inl ⟨by kernel_rfl, fun L a1 w1 n h => ⟨_, rfl, run_move (.tmp 5) rfl (h.var n 5 (by kernel_rfl))⟩⟩
        · refine ⟨.inr ⟨24, false, 41, rfl, by kernel_rfl, rfl, by simp, fun v h => h⟩, ?_⟩
          exact .inl ⟨by kernel_rfl, fun L a1 w1 n h => ⟨_, rfl, run_idxO 44 (.tmp 47) (.tmp 48) 28 7 gb 0 1 1 0 rfl Tryz.underlying44 Tryz.sizeOf28 (h.dep n 30 47 (by kernel_rfl) rfl) (h.dep n 31 48 (by kernel_rfl) rfl) (by decide)⟩⟩
        · refine ⟨.inr ⟨24, false, 41, rfl, by kernel_rfl, rfl, by simp, fun v h => h⟩, ?_⟩
          refine .inl ⟨by kernel_rfl, fun L a1 w1 n h => ⟨.pointer (some ⟨gb, 1, none⟩), rfl, ?_⟩⟩
          have e0 : a1.eval (.tmp 49) = _ := h.dep n 32 49 (by kernel_rfl) rfl
          unfold execOp
          simp only [e0]
          go_simp
        · refine ⟨.inr ⟨24, false, 41, rfl, by kernel_rfl, rfl, by simp, fun v h => h⟩, ?_⟩
          exact .inl ⟨by kernel_rfl, fun L a1 w1 n h => ⟨_, rfl, run_loadP 26 (.tmp 50) gb 1 TE [encStr key] (vlC x vp' vl' vs') [.int .i64 at_] _ rfl (h.dep n 33 50 (by kernel_rfl) rfl) (rb.later h.inv.1) rfl Tryz.underlying26 rfl (szVl x _ _ _)⟩⟩
        · refine ⟨.inr ⟨24, false, 41, rfl, by kernel_rfl, rfl, by simp, fun v h => h⟩, ?_⟩
          refine .inr fun L a1 w1 n h K hK => ?_
          have e0 : a1.eval (.tmp 46) = vlV x vp vl vs := h.dep n 29 46 (by kernel_rfl) rfl
          have e1 : a1.eval (.tmp 51) = vlV x vp' vl' vs' := h.dep n 34 51 (by kernel_rfl) rfl
          refine JF.call (FSn_mono ()) h hK 52 rfl 24 _ _ #[vlV x vp vl vs, vlV x vp' vl' vs'] rfl Tryz.call24 ?_ (rsameV_any w1 x x _ _ _ _ _ _ (hx.later h.inv.1) (hy.later h.inv.1) fx fx) ?_
          · simp only [List.map_toArray, List.map_cons, List.map_nil, e0, e1]
          · rintro e w3 ⟨rfl, b9⟩
            exact ⟨_, rfl, (show Value.bool _ = Value.bool true by simp), trivial, b9⟩
        · refine ⟨.inr ⟨24, false, 41, rfl, by kernel_rfl, rfl, by simp, fun v h => h⟩, ?_⟩
          exact .inl ⟨by kernel_rfl, fun L a1 w1 n h => ⟨_, rfl, run_notB (.tmp 52) true rfl (h.dep n 35 52 (by kernel_rfl) rfl) rfl⟩⟩
        · refine ⟨.inl rfl, ?_⟩
          exact .inl ⟨by kernel_rfl, fun L a1 w1 n h => ⟨_, rfl, run_pickF (.tmp 41) _ _ rfl (h.dep n 24 41 (by kernel_rfl) rfl) (h.dep n 36 53 (by kernel_rfl) rfl)⟩⟩
      case he6 =>
        intro V w9 hV hJ
        have b9 : Below wr.heap.size wr w9 := hJ.1
        have hE9 : V 37 = .bool false := hV 37 _ rfl
        clear hV hJ
        simp only [putOps, List.setIfInBounds_toArray, List.set_cons_succ, List.set_cons_zero, Nat.reduceAdd]
        rw [hE9]
        refine hK6 _ _ ?_
        clear hE9
        go_wp2_with fail
        go_roundw
        case rel => exact ⟨1, by omega, by go_num, BW.trans (b9.mono BW.size)⟩
        case measure => simp [intOf]
    · obtain rfl : i = 1 := by omega
      go_wp2_with fail
      go_ret
      exact ⟨rfl, BW⟩
end Go.Proofs.YtpbkejmffddelaaGreat

/-
  The reader of pack: one byte, four bytes, texts (as Reader, Reader2). Own work.
-/
namespace Go.Proofs.YtpbkejmffddelaaGreat
open Go.RowKit
theorem take_int {lo g : Nat} {xs : List Int} {e : Int} (w : World) (h : Rd w lo g xs e) (v : Int) (h0 : 0 ≤ v) (hv : v ≤ 4294967296) :
    Calls Tryz.prog 111 #[.pointer (some ⟨g, 0, none⟩), .int .i64 v] w (TkPost w lo g (tk v.toNat xs e)) := by
  obtain ⟨k, rfl⟩ := Int.eq_ofNat_of_zero_le h0
  exact take_any w h k (by omega)

theorem Sp.from_ {w : World} {lo lo' hi n : Nat} {A : Option Addr} {xs : List Int} (h : Sp w lo hi A n xs) (hl : lo' ≤ lo) : Sp w lo' hi A n xs :=
  ⟨h.1, fun h0 => let ⟨b, o, e, h1, h2, hc⟩ := h.2 h0; ⟨b, o, e, Nat.le_trans hl h1, h2, hc⟩⟩

def TextPost (w : World) (lo g : Nat) (r : List Int × List Int × Int) (en : Ending) (w' : World) : Prop :=
  ∃ A n c, en = .returned (.slice A n c) ∧ Sp w' w.heap.size w'.heap.size A n r.1 ∧ Rd w' lo g r.2.1 r.2.2 ∧ w.grownBy w' (some g)

/-- What is told of a text of at most so many bytes. -/
def tkText (most : Int) (xs : List Int) (e : Int) : List Int × List Int × Int :=
  let v := unum 4 xs e
  let r := (tk 4 xs e).2
  if most < v then ([], [], if r.2 ≠ 0 then r.2 else 5) else tk v.toNat r.1 r.2
set_option maxRecDepth 100000 in
set_option maxHeartbeats 2000000 in
theorem u8_any {lo g : Nat} {xs : List Int} {e : Int} (w : World) (h : Rd w lo g xs e) (hx : IsBy xs) :
    Calls Tryz.prog 113 #[.pointer (some ⟨g, 0, none⟩)] w (NumPost w lo g .i64 (unum 1 xs e) (tk 1 xs e).2.1 (tk 1 xs e).2.2) := by
  have hby := (tk_by (n := 1) (e := e) hx).1
  have hln := (tk_len 1 xs e).1
  have hct := hide (take_any w h 1 (by omega))
  unfold unum
  generalize tk 1 xs e = r at *
  clear h hx
  rcases hr1 : r.1 with _ | ⟨b, t⟩
  · go_enter Tryz.func113, Tryz.ntmps113
    have HR := hide hr1
    clear hr1
    go_wp2_with (go_at_call 111; refine hct.out.mono ?_; rintro en w1 ⟨A, n, c, rfl, hs, hn, hr, hg⟩; have hz : (((n : Nat) : Int) == 0) = true := by (have := hs.1; rw [HR.out] at this; simp at this; simp [← this]))
    go_ret
    exact ⟨by simp [beV], hr, hg⟩
  · obtain rfl : t = [] := by rw [hr1] at hln; simp at hln; exact hln
    have hb := hby b (by rw [hr1]; simp)
    have HR := hide hr1
    clear hr1 hby hln
    go_enter Tryz.func113, Tryz.ntmps113
    go_wp2_with (go_at_call 111; refine hct.out.mono ?_; rintro en w1 ⟨A, n, c, rfl, hs, hn, hr, hg⟩; rw [HR.out] at hs; obtain rfl : n = 1 := hs.1.symm; obtain ⟨b0, o, rfl, _, _, hc⟩ := hs.2 (by omega); have hc0 := hc 0 (by omega); rw [Nat.add_zero] at hc0; clear hc)
    go_ret
    exact ⟨by simp [beV], hr, hg⟩
set_option maxRecDepth 100000 in
set_option maxHeartbeats 2000000 in
theorem bytes_any {lo g : Nat} {xs : List Int} {e : Int} (w : World) (h : Rd w lo g xs e) (hx : IsBy xs) (most : Int) (m0 : -9223372036854775808 ≤ most) (m1 : most ≤ 9223372036854775807) :
    Calls Tryz.prog 56 #[.pointer (some ⟨g, 0, none⟩), .int .i64 most] w (TextPost w lo g (tkText most xs e)) := by
  have hub := unum_bound (n := 4) (e := e) hx
  have hu : unum 4 xs e < 4294967296 := hub.2
  have hc := hide (u32_any w h hx)
  have hnil := tk_nil (n := 4) (rd_nil h)
  unfold tkText
  generalize unum 4 xs e = v at *
  generalize (tk 4 xs e).2 = r at *
  obtain ⟨ys, e1⟩ := r
  dsimp only at *
  have h0 := hub.1
  clear h hx hub
  by_cases hm : most < v
  · rw [if_pos hm]
    by_cases he : e1 = 0
    · subst he
      rw [if_neg (by simp)]
      go_enter Tryz.func56, Tryz.ntmps56
      go_wp2_with (first
        | (go_at_call 108; refine hc.out.mono ?_; rintro en w1 ⟨rfl, hr, hg⟩)
        | (go_at_call 109; refine (pabove_any v most _ h0 (by omega) m0 m1).mono ?_; rintro en w2 ⟨rfl, rfl⟩)
        | (go_at_call 110; refine (fail_new _ hr 5).mono ?_; rintro en w2 ⟨rfl, hr2, hg2⟩))
      go_ret
      exact ⟨none, 0, 0, rfl, Sp.nil_, hr2, grown_trans hg hg2⟩
    · rw [if_pos he]
      have hys := hide (hnil he)
      clear hnil
      go_enter Tryz.func56, Tryz.ntmps56
      go_wp2_with (first
        | (go_at_call 108; refine hc.out.mono ?_; rintro en w1 ⟨rfl, hr, hg⟩)
        | (go_at_call 109; refine (pabove_any v most _ h0 (by omega) m0 m1).mono ?_; rintro en w2 ⟨rfl, rfl⟩)
        | (go_at_call 110; refine (fail_old _ hr he 5).mono ?_; rintro en w2 ⟨rfl, rfl⟩))
      go_ret
      exact ⟨none, 0, 0, rfl, Sp.nil_, by rw [← hys.out]; exact hr, hg⟩
  · rw [if_neg hm]
    clear hnil
    go_enter Tryz.func56, Tryz.ntmps56
    go_wp2_with (first
      | (go_at_call 108; refine hc.out.mono ?_; rintro en w1 ⟨rfl, hr, hg⟩)
      | (go_at_call 109; refine (pabove_any _ most _ h0 (by omega) m0 m1).mono ?_; rintro en w2 ⟨rfl, rfl⟩)
      | (go_at_call 111; refine (take_int _ hr v h0 (by omega)).mono ?_; rintro en w2 ⟨A2, n2, c2, rfl, hs2, hn2, hr2, hg2⟩)
      | (go_at_call 107; refine (clone_new A2 n2 c2 _ _ hs2.lt_size hn2).mono ?_; rintro en w3 ⟨A3, n3, c3, rfl, hb3, hn3, hc3, hl3⟩))
    go_ret
    exact ⟨A3, n3, c3, rfl, hb3.from_ (Nat.le_trans hg.size hg2.size), hr2.later hl3, grown_trans hg (grown_trans hg2 (grown_of_below hl3))⟩
end Go.Proofs.YtpbkejmffddelaaGreat

/-
  The document's reader: a text (as RefIn). Own work.
-/
namespace Go.Proofs.YtpbkejmffddelaaGreat
open Go.RowKit
set_option maxHeartbeats 2000000
def ITextPost (w : World) (lo g : Nat) (r : List Int × List Int × Int) (en : Ending) (w' : World) : Prop :=
  ∃ A n c, en = .returned (.slice A n c) ∧ Bs w' w'.heap.size A n r.1 ∧ Id w' lo g r.2.1 r.2.2 ∧ w.grownBy w' (some g)

/-- Two texts, one behind the other, are new memory. -/
theorem both_new (A B : Option Addr) (n m c d : Nat) (xs ys : List Int) (w : World) (h1 : Bs w w.heap.size A n xs) (h2 : Bs w w.heap.size B m ys) (hn : n + m ≤ 140737488355328) :
    Calls Tryz.prog 59 #[.slice A n c, .slice B m d] w fun e w' => ∃ A n c, e = .returned (.slice A n c) ∧ Sp w' w.heap.size w'.heap.size A n (xs ++ ys) ∧ n ≤ c ∧ c ≤ maxLen ∧ Below w.heap.size w w' := by
  obtain ⟨i0, hi, hz, hsz, hby⟩ := u8_info
  have hown0 := World.ownsRow_nil w w.heap.size 5 1
  go_enter Tryz.func59, Tryz.ntmps59
  go_wp2_with (first
    | (at_builtin
       refine wpList_append_bs rfl (.tmp 6) (.tmp 7) _ rfl w.heap.size 5 i0 Tryz.underlying31 hi hz hsz hby (.slice none 0 0) 0 [] rfl hown0 w.heap.size A n c xs rfl h1 (by omega) (by simp) ?_
       intro v1 w1 hown1 hg1
       have hb1 := grown_below (Below.refl _ _) hown0 (Nat.le_refl _) hg1
       have hz1 := hb1.size)
    | (at_builtin
       refine wpList_append_bs rfl (.tmp 9) (.tmp 10) _ rfl w.heap.size 5 i0 Tryz.underlying31 hi hz hsz hby v1 (0 + n) ([] ++ xs) rfl hown1 w.heap.size B m d ys rfl (h2.below hb1) (by omega) hz1 ?_
       intro v2 w2 hown2 hg2))
  go_ret
  obtain ⟨A1, n1, c1, rfl, h2, h3, h4, h5⟩ := ret_owns_new hown2 (grown_below hb1 hown1 (Nat.le_refl _) hg2) (Nat.le_refl _) rfl
  exact ⟨A1, n1, c1, rfl, by simpa using h2, h3, h4, h5⟩

set_option maxHeartbeats 1000000 in
theorem ibytes_any {lo g : Nat} {xs : List Int} {e : Int} (w : World) (h : Id w lo g xs e) (hx : IsBy xs) (most : Int) (m0 : -9223372036854775808 ≤ most) (m1 : most ≤ 9223372036854775807) :
    Calls Tryz.prog 60 #[.pointer (some ⟨g, 0, none⟩), .int .i64 most] w (ITextPost w lo g (tkText most xs e)) := by
  have hub := unum_bound (n := 4) (e := e) hx
  have hu : unum 4 xs e < 4294967296 := hub.2
  have hc := hide (iu_any w h hx 4 (by omega) (by omega))
  have hnil := tk_nil (n := 4) h.nil_
  have hz := unum_err (n := 4) (xs := xs) (e := e)
  unfold tkText
  generalize unum 4 xs e = v at *
  generalize (tk 4 xs e).2 = r at *
  obtain ⟨ys, e1⟩ := r
  dsimp only at *
  have h0 := hub.1
  clear h hx hub
  by_cases he : e1 = 0
  · subst he
    clear hz hnil
    by_cases hm : most < v
    · rw [if_pos hm, if_neg (by simp)]
      go_enter Tryz.func60, Tryz.ntmps60
      go_wp2_with (first
        | (go_at_call 62; refine hc.out.mono ?_; rintro en w1 ⟨rfl, hr, hg⟩; obtain ⟨A1, n1, c1, hlo1, hb1, hs1, hmc1, ⟨hc1, hm1⟩, _⟩ := id hr; have cc0 := hb1.cell 0; have cc1 := hb1.cell 1; simp only [List.getElem?_toArray, List.getElem?_cons_zero, List.getElem?_cons_succ] at cc0 cc1; have HB1 := hide hb1; have hlt1 := hb1.lt; clear hb1)
        | (go_at_call 115; refine (ifail_new _ hr 5).mono ?_; rintro en w2 ⟨rfl, hr2, hg2⟩; obtain ⟨A3, n3, c3, _, hb3, _⟩ := id hr2; have dd0 := hb3.cell 0; have dd1 := hb3.cell 1; simp only [List.getElem?_toArray, List.getElem?_cons_zero, List.getElem?_cons_succ] at dd0 dd1; clear hb3))
      go_ret
      exact ⟨none, 0, 0, rfl, Bs.nil_, hr2, grown_trans hg hg2⟩
    · rw [if_neg hm]
      by_cases hl : (ys.length : Int) < v
      · have ht : tk v.toNat ys 0 = ([], [], 4) := by simp [tk]; omega
        rw [ht]
        go_enter Tryz.func60, Tryz.ntmps60
        go_wp2_with (first
          | (go_at_call 62; refine hc.out.mono ?_; rintro en w1 ⟨rfl, hr, hg⟩; obtain ⟨A1, n1, c1, hlo1, hb1, hs1, hmc1, ⟨hc1, hm1⟩, _⟩ := id hr; have cc0 := hb1.cell 0; have cc1 := hb1.cell 1; simp only [List.getElem?_toArray, List.getElem?_cons_zero, List.getElem?_cons_succ] at cc0 cc1; have HB1 := hide hb1; have hlt1 := hb1.lt; clear hb1; have hnl : (n1 : Int) < v := by (have := hs1.1; omega))
          | (go_at_call 115; refine (ifail_new _ hr 4).mono ?_; rintro en w2 ⟨rfl, hr2, hg2⟩; obtain ⟨A3, n3, c3, _, hb3, _⟩ := id hr2; have dd0 := hb3.cell 0; have dd1 := hb3.cell 1; simp only [List.getElem?_toArray, List.getElem?_cons_zero, List.getElem?_cons_succ] at dd0 dd1; clear hb3))
        go_ret
        exact ⟨none, 0, 0, rfl, Bs.nil_, hr2, grown_trans hg hg2⟩
      · obtain ⟨k, rfl⟩ := Int.eq_ofNat_of_zero_le h0
        have ht : tk (k : Int).toNat ys 0 = (ys.take k, ys.drop k, 0) := by simp [tk]; omega
        rw [ht]
        have hkl : k ≤ ys.length := by omega
        clear hu
        go_enter Tryz.func60, Tryz.ntmps60
        go_wp2_with (first
          | (go_at_call 62; refine hc.out.mono ?_; rintro en w1 ⟨rfl, hr, hg⟩; obtain ⟨A1, n1, c1, hlo1, hb1, hs1, hmc1, ⟨hc1, hm1⟩, _⟩ := id hr; have cc0 := hb1.cell 0; have cc1 := hb1.cell 1; simp only [List.getElem?_toArray, List.getElem?_cons_zero, List.getElem?_cons_succ] at cc0 cc1; have HB1 := hide hb1; have hlt1 := hb1.lt; clear hb1; have hnl : k ≤ n1 := by (have := hs1.1; omega))
          | (go_at_call 59; refine (both_new none _ 0 _ 0 _ [] (ys.take k) _ Bs.nil_ (hs1.take hnl).lt_size (by omega)).mono ?_; rintro en w2 ⟨A2, n2, c2, rfl, hb2, hn2, hc2, hl2⟩; have hB2 := HB1.out.below hl2 (HB1.out).lt; have f0 := hB2.frozen 0; have c0' := hB2.cell 0; simp only [List.getElem?_toArray, List.getElem?_cons_zero, List.getElem?_cons_succ] at c0'; have HB2 := hide hB2; clear hB2))
        · go_ret
          have hcn : c1 = k := ‹c1 = k›
          have hdr := (hs1.later hl2).drop (k := k) hnl hmc1
          rw [if_pos hcn] at hdr
          exact ⟨A2, n2, c2, rfl, by simpa using (hb2.grown (grown_set _ g 0 _) (.inl hlt1)).lt_size, ⟨A1, n1 - k, 0, hlo1, HB2.out.set 0 _, hdr.grown (grown_set _ _ _ _) (.inr (Nat.le_refl _)), by omega, ⟨by omega, by omega⟩, fun h => absurd rfl h⟩, grown_trans hg (grown_trans (grown_of_below hl2) (grown_set _ _ _ _))⟩
        · go_ret
          have hdr := (hs1.later hl2).drop (k := k) hnl hmc1
          rw [if_neg ‹¬c1 = k›] at hdr
          exact ⟨A2, n2, c2, rfl, by simpa using (hb2.grown (grown_set _ g 0 _) (.inl hlt1)).lt_size, ⟨_, n1 - k, c1 - k, hlo1, HB2.out.set 0 _, hdr.grown (grown_set _ _ _ _) (.inr (Nat.le_refl _)), by omega, ⟨by omega, by omega⟩, fun h => absurd rfl h⟩, grown_trans hg (grown_trans (grown_of_below hl2) (grown_set _ _ _ _))⟩
  · have hd : (e1 == 0) = false := beq_eq_false_iff_ne.2 he
    have hd2 : (e1 != 0) = true := by rw [bne_iff_ne]; exact he
    obtain rfl := hz he
    obtain rfl := hnil he
    clear hz hnil
    have hif : (if most < 0 then (([] : List Int), ([] : List Int), if e1 ≠ 0 then e1 else 5) else tk (0 : Int).toNat [] e1) = ([], [], e1) := by
      rw [if_pos he]
      split
      · rfl
      · simp [tk, he]
    rw [hif]
    clear hu h0
    go_enter Tryz.func60, Tryz.ntmps60
    go_wp2_with (go_at_call 62; refine hc.out.mono ?_; rintro en w1 ⟨rfl, hr, hg⟩; obtain ⟨A1, n1, c1, hlo1, hb1, hs1, hmc1, ⟨hc1, hm1⟩, _⟩ := id hr; have cc0 := hb1.cell 0; have cc1 := hb1.cell 1; simp only [List.getElem?_toArray, List.getElem?_cons_zero, List.getElem?_cons_succ] at cc0 cc1; have HB1 := hide hb1; have hlt1 := hb1.lt; clear hb1)
    go_ret
    exact ⟨none, 0, 0, rfl, Bs.nil_, hr, hg⟩
end Go.Proofs.YtpbkejmffddelaaGreat

/-
  The closure that reads a text. Own work.
-/
namespace Go.Proofs.YtpbkejmffddelaaGreat
open Go.RowKit
set_option maxRecDepth 100000 in
set_option maxHeartbeats 2000000 in
theorem rtext_any {lo g g1 : Nat} {xs : List Int} {e : Int} (w : World) (h : Rd w lo g xs e) (hx : IsBy xs) (hr : Row w 101 g1 [ptr g]) :
    Calls Tryz.prog 114 #[ptr g1] w fun en w' => en = .returned (.string (strOfNums (tkText 512 xs e).1)) ∧ Rd w' lo g (tkText 512 xs e).2.1 (tkText 512 xs e).2.2 ∧ w.grownBy w' (some g) := by
  have c0 := hr.cell (j := 0) rfl
  have HB := hide (bytes_any w h hx 512 (by decide) (by decide))
  clear h hx
  go_enter Tryz.func114, Tryz.ntmps114
  go_wp2_with fail
  refine HB.out.mono ?_
  rintro en w1 ⟨A, n, c, rfl, hs, hR, hg⟩
  have hb := hs.lt_size
  go_wp2_with (first
    | (with_reducible refine wl_run (o := ⟨some 4, _, _, _, _, _⟩) rfl (.string (strOfNums (tkText 512 xs e).1)) (run_toStr 31 9 5 (.tmp 3) rfl rfl hb Tryz.underlying31 Tryz.underlying5 Tryz.underlying9) ?_))
  go_ret
  exact ⟨rfl, hR, hg⟩
end Go.Proofs.YtpbkejmffddelaaGreat

/-
  The document's Parse. Contracts. Own work.
-/
import Derived.Test.YthjcmgjmdjihnaaDoorRespW
namespace Go.Proofs.YthjcmgjmdjihnaaDoor
open Go.RowKit Go.Shelf
set_option linter.unusedVariables false
set_option linter.unusedSimpArgs false
theorem own_bz {w w' : World} {T Tv n m e e' g : Nat} {v u : Value} {us xs : List Value} (ho : w.ownsRow T e 1 u m us) (bz : ButZ (g :: ownL v) w w') (hv : w.ownsRow Tv e' 1 v n xs) (hg : g < T) (he : e' ≠ e) : w'.ownsRow T e 1 u m us := by
  refine own_at ho fun k hk => bz.block k (ho.lt k hk).2 fun hm => ?_
  rcases List.mem_cons.1 hm with rfl | hm
  · have := (ho.lt k hk).1; omega
  · unfold ownL at hm
    rcases hv.2 with ⟨rfl, _⟩ | ⟨k', cap, cur, rfl, _, hg1, _⟩
    · simp [Value.ownBlock] at hm
    · simp [Value.ownBlock] at hm
      subst hm
      rcases ho.2 with ⟨rfl, _⟩ | ⟨k2, cap2, cur2, rfl, _, hg2, _⟩
      · cases hk
      · injection hk with hk
        subst hk
        have := hg1.symm.trans hg2
        simp at this
        exact he this.2
abbrev fdL (v : Value) (e l : Int) : List Value := [v, .int .i64 e, .int .i64 l]
/-- The region that builds a list of one, appends it and stores: what holds as the three are done. -/
def JP (T g3 n : Nat) (w6 : World) (cv : Value) (xs : List Value) (u : Value) (bs : List Bool) (vs : List Value) (w : World) : Prop :=
  ButZ (g3 :: ownL cv) w6 w ∧ (bs.getD 1 false = false → bs.getD 2 false = false → Below w6.heap.size w6 w) ∧
  (bs.getD 0 false = true → bs.getD 1 false = false → ∃ g7, vs.getD 0 undef = .slice (some ⟨g7, 0, none⟩) 1 1 ∧ Row w 40 g7 [u]) ∧
  (bs.getD 1 false = true → w.ownsRow T 40 1 (vs.getD 1 undef) (n + 1) (xs ++ [u])) ∧
  (bs.getD 2 false = false → Row w 32 g3 (fdL cv 0 0)) ∧ (bs.getD 2 false = true → Row w 32 g3 (fdL (vs.getD 1 undef) 0 0))
section
variable {T g3 n : Nat} {w6 w w' : World} {cv u : Value} {xs : List Value} {bs bs' : List Bool} {vs vs' : List Value}
theorem JP.start (r : Row w6 32 g3 (fdL cv 0 0)) : JP T g3 n w6 cv xs u [false, false, false] vs w6.drew :=
  ⟨ButZ.of ((Below.refl _ _).drew), fun _ _ => (Below.refl _ _).drew, fun h => absurd h (by decide), fun h => absurd h (by decide), fun _ => r, fun h => absurd h (by decide)⟩
theorem JP.built (h : JP T g3 n w6 cv xs u bs vs w) (hb : Below w.heap.size w w') {g7 : Nat} (hv : vs'.getD 0 undef = .slice (some ⟨g7, 0, none⟩) 1 1) (hr : Row w' 40 g7 [u]) (b1 : bs.getD 1 false = false) (b2 : bs.getD 2 false = false) (c1 : bs'.getD 1 false = false) (c2 : bs'.getD 2 false = false) : JP T g3 n w6 cv xs u bs' vs' w' := by
  obtain ⟨hU, hW, _, _, h4, _⟩ := h
  have hb6 := hW b1 b2
  exact ⟨hU.trans (ButZ.of hb), fun _ _ => hb6.trans (hb.mono hb6.size), fun _ _ => ⟨g7, hv, hr⟩, fun h => absurd (c1.symm.trans h) (by decide), fun _ => (h4 b2).later hb, fun h => absurd (c2.symm.trans h) (by decide)⟩
theorem JP.appended (h : JP T g3 n w6 cv xs u bs vs w) (gr : w.grownBy w' cv.ownBlock) (own : w.ownsRow T 40 1 cv n xs) (own' : w'.ownsRow T 40 1 (vs'.getD 1 undef) (n + 1) (xs ++ [u])) (b2 : bs.getD 2 false = false) (c1 : bs'.getD 1 false = true) (c2 : bs'.getD 2 false = false) : JP T g3 n w6 cv xs u bs' vs' w' := by
  obtain ⟨hU, _, _, _, h4, _⟩ := h
  exact ⟨hU.trans (ButZ.own gr (fun k hk => List.mem_cons_of_mem _ hk)), fun h => absurd (c1.symm.trans h) (by decide), fun _ h => absurd (c1.symm.trans h) (by decide), fun _ => own', fun _ => (h4 b2).grownS own (by decide) gr, fun h => absurd (c2.symm.trans h) (by decide)⟩
theorem JP.stored (h : JP T g3 n w6 cv xs u bs vs w) (o : Only g3 w w') (hr : Row w' 32 g3 (fdL (vs.getD 1 undef) 0 0)) (hgT : g3 < T) (b1 : bs.getD 1 false = true) (v1 : vs'.getD 1 undef = vs.getD 1 undef) (c1 : bs'.getD 1 false = true) (c2 : bs'.getD 2 false = true) : JP T g3 n w6 cv xs u bs' vs' w' := by
  obtain ⟨hU, _, _, h3, _, _⟩ := h
  have q := h3 b1
  refine ⟨hU.only o (.inr (by simp)), fun h => absurd (c1.symm.trans h) (by decide), fun _ h => absurd (c1.symm.trans h) (by decide), fun _ => ?_, fun h => absurd (c2.symm.trans h) (by decide), fun _ => by rw [v1]; exact hr⟩
  rw [v1]
  exact own_at q fun k hk => o.block k (fun e => by have := (q.lt k hk).1; omega)
end
theorem ll_size1F : (Tryd.prog.info? 27).map (·.size) = some 1 := by kernel_rfl
theorem in_size1F : (Tryd.prog.info? 3).map (·.size) = some 1 := by kernel_rfl
def ParRes (w : World) (s : Wd) (e : Ending) (w' : World) : Prop := Below w.heap.size w w' ∧ ∃ v, e = .returned (.agg #[v, .int .i64 ((pars s).2.2 : Int), .int .i64 ((if (pars s).2.2 = 0 then (pars s).2.1.length else 0 : Nat) : Int)]) ∧ OwC w' w.heap.size v (pars s).1
def SPa14 (g3 g5 gq : Nat) (cv u : Value) (opn : Nat) (v : Value) : Prop :=
  match opn with
  | 0 | 8 => v = .pointer (some ⟨g3, 0, none⟩)
  | 1 => v = cv
  | 2 => v = .pointer (some ⟨g5, 0, none⟩)
  | 3 => v = .slice (some ⟨gq, 0, none⟩) 1 1
  | 4 => v = .pointer (some ⟨gq, 0, none⟩)
  | 5 => v = u
  | _ => True

set_option maxRecDepth 100000 in
set_option maxHeartbeats 4000000 in
theorem rparse_any (s : Wd) (w : World) (hs : s.length ≤ 6000) : Calls Tryd.prog 10 #[encStr s] w (ParRes w s) := by
  obtain ⟨il, hil, hlz, hls, hlb⟩ := liInfo
  have HC0 := hide (fun (w : World) (q : Wd) (hq : q.length ≤ 6000) => rcommand_any q w hq)
  obtain ⟨S0, hS00⟩ : ∃ n, n = s.length := ⟨_, rfl⟩
  have hS0 := hide hS00.symm
  have hS6 : (S0 : Int) ≤ 6000 := by omega
  have hs9 := hide hs
  clear hs hS00
  go_enter Tryd.func10, Tryd.ntmps10
  go_wp2_with (first
    | (with_reducible refine wl_alloc (o := ⟨some 2, _, _, _, _, _⟩) rfl 32 _ (fdL (.slice none 0 0) 0 0) rfl fdInfo rfl ?_; intro g2 w2 r2 p2 l2 b2)
    | (with_reducible refine wl_alloc (o := ⟨some 3, _, _, _, _, _⟩) rfl 32 _ (fdL (.slice none 0 0) 0 0) rfl fdInfo rfl ?_; intro g3 w3 r3 p3 l3 b3; have r23 := r2.later b3))
  have hg23 : g2 ≠ g3 := by omega
  have hB3 := hide (b2.trans (b3.mono b2.size))
  obtain ⟨T, hT⟩ : ∃ T, T = w3.heap.size := ⟨_, rfl⟩
  have hgT : g3 < T := by omega
  have hg2T : g2 < T := by have := b3.size; omega
  have hwT := hide (show w.heap.size ≤ T by rw [hT]; exact hB3.out.size)
  have hp2 : w.heap.size ≤ g2 := p2
  have hp3 : w.heap.size ≤ g3 := Nat.le_trans b2.size p3
  go_loopw [4] (fun iv wr => ∃ (i : Nat) (L0 : List (List Wd)) (cv : Value), i ≤ S0 ∧ L0.length ≤ i ∧ iv = .int .i64 (i : Int) ∧ Row wr 32 g2 (fdL (.slice none 0 0) 0 0) ∧ Row wr 32 g3 (fdL cv 0 0) ∧ OwC wr T cv L0 ∧ T ≤ wr.heap.size ∧ Below w.heap.size w wr ∧ pars s = (L0 ++ (pars (s.drop i)).1, (pars (s.drop i)).2)) (fun iv _ => 7000 - (intOf iv).toNat)
  case atStart => exact ⟨0, [], _, by omega, by simp, rfl, r23, r3, OwC.nil _ _, by omega, hB3.out, by rw [List.drop_zero]; rfl⟩
  case round =>
    clear r2 r3 r23 p2 p3 l2 l3 hT
    obtain ⟨i, L0, cv, hi, hL0, rfl, rr2, rr3, oc, hTr, BW, hp⟩ := hrel
    have hwb := BW.size
    have hiI : (i : Int) ≤ (S0 : Int) := by omega
    have hi9 := hide (show i ≤ s.length by rw [hS0.out]; exact hi)
    have hdl := hide (show (s.drop i).length = S0 - i by rw [List.length_drop, hS0.out])
    have HC := HC0.out wr (s.drop i) (by rw [hdl.out]; have := hs9.out; have := hS0.out; omega)
    have hl2 := rr2.lt
    have hl3 := rr3.lt
    have hL09 := hide hL0
    have hiN := hide hi
    replace hp := hide hp
    clear hi hL0
    unfold FndRes at HC
    cases hc : cmdL (s.drop i) with
    | error c =>
      rw [hc] at HC
      simp only at HC
      have hc3 := cmdL_err hc
      have honeX : ∀ u ∈ fdL (.slice none 0 0) (c : Int) 0, u.oneCell' = true := by simp [Value.oneCell']
      obtain ⟨vs, ow, hN⟩ := oc
      obtain ⟨Ac, cc, hcv⟩ := own_slB ow
      have oc : OwC wr T cv L0 := ⟨vs, ow, hN⟩
      clear ow hN
      by_cases h4 : c = 4
      · subst h4
        have hpe := hide (show pars s = (L0, s.drop i, 0) by rw [hp.out, pars_err hc, if_pos rfl, List.append_nil])
        have honeO : ∀ u ∈ fdL cv 0 ((S0 - i : Nat) : Int), u.oneCell' = true := by rw [hcv]; simp [Value.oneCell']
        have hsub := hide (show IntKind.i64.wrap ((S0 : Int) - (i : Int)) = ((S0 - i : Nat) : Int) from wrap_id (by omega) (by omega) (by omega))
        obtain ⟨D0, hD0⟩ : ∃ n, n = S0 - i := ⟨_, rfl⟩
        rw [← hD0] at hsub honeO
        replace hD0 := hide hD0
        replace hcv := hide hcv
        clear hc hc3
        go_wp2_with (first
          | (with_reducible refine wl_run (o := ⟨some 8, _, _, _, _, _⟩) rfl (.int .i64 (S0 : Int)) (run_lenZ 9 (.tmp 7) s rfl Tryd.underlying9 rfl hS0.out) ?_)
          | (with_reducible refine wl_run (o := ⟨some 14, _, _, _, _, _⟩) rfl (encStr (s.drop i)) (run_sliceStrL 9 (.tmp 12) (.tmp 13) s i rfl Tryd.underlying9 rfl rfl hi9.out) ?_))
        refine HC.mono ?_
        rintro e w4 ⟨b4, rfl⟩
        clear HC
        have hw4 := b4.size
        go_wp2_with (first
          | (with_reducible refine wl_run (o := ⟨some 8, _, _, _, _, _⟩) rfl (.int .i64 (S0 : Int)) (run_lenZ 9 (.tmp 7) s rfl Tryd.underlying9 rfl hS0.out) ?_)
          | (with_reducible refine wl_run (o := ⟨some 14, _, _, _, _, _⟩) rfl (encStr (s.drop i)) (run_sliceStrL 9 (.tmp 12) (.tmp 13) s i rfl Tryd.underlying9 rfl rfl hi9.out) ?_)
          | ((with_reducible refine wl_alloc (o := ⟨some 5, _, _, _, _, _⟩) rfl 32 _ (fdL (.slice none 0 0) 0 0) rfl fdInfo rfl ?_); intro g5 w5 q5 p5 l5 b5)
          | (refine wl_store_row rfl 32 (.tmp 5) (.tmp 15) g5 32 _ (fdL (.slice none 0 0) 4 0) rfl rfl rfl q5 szFd rfl honeX ?_; intro w6 r5 o5; have c50 := r5.cell (j := 0) rfl; have c51 := r5.cell (j := 1) rfl; have c52 := r5.cell (j := 2) rfl; have rg2 := ((rr2.later b4).later b5).only o5 (by omega); have rg3 := ((rr3.later b4).later b5).only o5 (by omega))
          | (with_reducible refine wl_run (o := ⟨some 22, _, _, _, _, _⟩) rfl (.int .i64 (D0 : Int)) (run_subZ (.tmp 20) (.tmp 21) rfl rfl rfl hsub.out) ?_)
          | (with_reducible refine wl_run (o := ⟨some 20, _, _, _, _, _⟩) rfl (.int .i64 (S0 : Int)) (run_lenZ 9 (.tmp 19) s rfl Tryd.underlying9 rfl hS0.out) ?_)
          | (refine wl_store rfl 3 _ _ g3 2 32 _ (.int .i64 ((D0 : Int))) rfl in_size1F rfl rfl rg3 (show 2 < 3 by decide) rfl ?_; intro w7 r7 o7; have rg7 := rg2.only o7 hg23)
          | (refine wl_load_row rfl 32 (.tmp 3) g3 32 (fdL cv 0 (D0 : Int)) _ rfl rfl r7 Tryd.underlying32 rfl szFd ?_)
          | (refine wl_store_row rfl 32 (.tmp 2) _ g2 32 _ (fdL cv 0 (D0 : Int)) rfl rfl rfl rg7 szFd rfl honeO ?_; intro w8 r8 o8))
        refine bodyPost_ret (results_rt1 Tryd.results10 _ _ g2 32 _ _ rfl r8 Tryd.underlying32 rfl szFd) rfl ?_
        have B6 : Below w.heap.size w w6 := ((BW.trans (b4.mono hwb)).trans (b5.mono (Nat.le_trans hwb hw4))).trans (o5.below (by omega))
        have B8 : Below w.heap.size w w8 := (B6.trans (o7.below hp3)).trans (o8.below hp2)
        refine ⟨B8, cv, by rw [hpe.out]; simp only [if_true]; rw [hdl.out, ← hD0.out]; rfl, ?_⟩
        rw [hpe.out]
        refine OwC.lo ?_ hwT.out
        have o6 := (oc.later b4).at (w' := w6) fun k _ hk => (o5.block k (by omega)).trans (b5.block k hk)
        have o7' := o6.at (w' := w7) fun k hk _ => o7.block k (by omega)
        exact o7'.at (w' := w8) fun k hk _ => o8.block k (by omega)
      · have hpe := hide (show pars s = (L0, s.drop i, c) by rw [hp.out, pars_err hc, if_neg h4, List.append_nil])
        have honeO : ∀ u ∈ fdL cv (c : Int) 0, u.oneCell' = true := by rw [hcv]; simp [Value.oneCell']
        have hcB : ((c : Int) == 4) = false := by rw [beq_eq_false_iff_ne]; omega
        have hcB0 : ((c : Int) == 0) = false := by rw [beq_eq_false_iff_ne]; omega
        have hc09 := hide (show c ≠ 0 by omega)
        replace hcv := hide hcv
        clear hc hc3 h4
        go_wp2_with (first
          | (with_reducible refine wl_run (o := ⟨some 8, _, _, _, _, _⟩) rfl (.int .i64 (S0 : Int)) (run_lenZ 9 (.tmp 7) s rfl Tryd.underlying9 rfl hS0.out) ?_)
          | (with_reducible refine wl_run (o := ⟨some 14, _, _, _, _, _⟩) rfl (encStr (s.drop i)) (run_sliceStrL 9 (.tmp 12) (.tmp 13) s i rfl Tryd.underlying9 rfl rfl hi9.out) ?_))
        refine HC.mono ?_
        rintro e w4 ⟨b4, rfl⟩
        clear HC
        have hw4 := b4.size
        go_wp2_with (first
          | (with_reducible refine wl_run (o := ⟨some 8, _, _, _, _, _⟩) rfl (.int .i64 (S0 : Int)) (run_lenZ 9 (.tmp 7) s rfl Tryd.underlying9 rfl hS0.out) ?_)
          | (with_reducible refine wl_run (o := ⟨some 14, _, _, _, _, _⟩) rfl (encStr (s.drop i)) (run_sliceStrL 9 (.tmp 12) (.tmp 13) s i rfl Tryd.underlying9 rfl rfl hi9.out) ?_)
          | ((with_reducible refine wl_alloc (o := ⟨some 5, _, _, _, _, _⟩) rfl 32 _ (fdL (.slice none 0 0) 0 0) rfl fdInfo rfl ?_); intro g5 w5 q5 p5 l5 b5)
          | (refine wl_store_row rfl 32 (.tmp 5) (.tmp 15) g5 32 _ (fdL (.slice none 0 0) (c : Int) 0) rfl rfl rfl q5 szFd rfl honeX ?_; intro w6 r5 o5; have c50 := r5.cell (j := 0) rfl; have c51 := r5.cell (j := 1) rfl; have c52 := r5.cell (j := 2) rfl; have rg2 := ((rr2.later b4).later b5).only o5 (by omega); have rg3 := ((rr3.later b4).later b5).only o5 (by omega))
          | (refine wl_store rfl 3 _ _ g3 1 32 _ (.int .i64 ((c : Int))) rfl in_size1F rfl rfl rg3 (show 1 < 3 by decide) rfl ?_; intro w7 r7 o7; have rg7 := rg2.only o7 hg23)
          | (refine wl_load_row rfl 32 (.tmp 3) g3 32 (fdL cv (c : Int) 0) _ rfl rfl r7 Tryd.underlying32 rfl szFd ?_)
          | (refine wl_store_row rfl 32 (.tmp 2) _ g2 32 _ (fdL cv (c : Int) 0) rfl rfl rfl rg7 szFd rfl honeO ?_; intro w8 r8 o8))
        refine bodyPost_ret (results_rt1 Tryd.results10 _ _ g2 32 _ _ rfl r8 Tryd.underlying32 rfl szFd) rfl ?_
        have B6 : Below w.heap.size w w6 := ((BW.trans (b4.mono hwb)).trans (b5.mono (Nat.le_trans hwb hw4))).trans (o5.below (by omega))
        have B8 : Below w.heap.size w w8 := (B6.trans (o7.below hp3)).trans (o8.below hp2)
        refine ⟨B8, cv, by rw [hpe.out]; simp only; rw [if_neg hc09.out]; rfl, ?_⟩
        rw [hpe.out]
        refine OwC.lo ?_ hwT.out
        have o6 := (oc.later b4).at (w' := w6) fun k _ hk => (o5.block k (by omega)).trans (b5.block k hk)
        have o7' := o6.at (w' := w7) fun k hk _ => o7.block k (by omega)
        exact o7'.at (w' := w8) fun k hk _ => o8.block k (by omega)
    | ok p =>
      obtain ⟨ws, r⟩ := p
      rw [hc] at HC
      simp only at HC
      have hls := cmdL_less hc
      have hrl := hide (show r.length < S0 - i by have := hls.1; rw [hdl.out] at this; exact this)
      have hws40 := hide hls.2
      have hsuf := cmdL_suf hc
      have hpo := hide (pars_ok hc)
      obtain ⟨R0, hR00⟩ : ∃ n, n = r.length := ⟨_, rfl⟩
      have hR0 := hide hR00.symm
      have hdr := hide (show s.drop (S0 - R0) = r by
        obtain ⟨pre, hpre⟩ := hsuf
        have h1 : s.drop i = pre ++ r := hpre.symm
        have h2 := congrArg List.length h1
        rw [hdl.out, List.length_append, ← hR00] at h2
        have h3 : s.drop (S0 - R0) = (s.drop i).drop pre.length := by rw [List.drop_drop]; congr 1; have := hrl.out; rw [hR0.out] at this; omega
        rw [h3, h1, List.drop_left])
      have hR3 : R0 < S0 - i := by have := hrl.out; rw [hR0.out] at this; exact this
      have hsub1 := hide (show IntKind.i64.wrap ((S0 : Int) - (R0 : Int)) = ((S0 - R0 : Nat) : Int) from wrap_id (by omega) (by omega) (by omega))
      obtain ⟨D1, hD10⟩ : ∃ n, n = S0 - R0 := ⟨_, rfl⟩
      obtain ⟨D2, hD20⟩ : ∃ n, n = S0 - R0 - 1 := ⟨_, rfl⟩
      rw [← hD10] at hsub1 hdr
      have hsub2 := hide (show IntKind.i64.wrap ((D1 : Int) - 1) = (D2 : Int) from wrap_id (by omega) (by omega) (by omega))
      have hadd := hide (show IntKind.i64.wrap ((D2 : Int) + 1) = (D1 : Int) from wrap_id (by omega) (by omega) (by omega))
      have hDi := hide (show i < D1 ∧ D1 ≤ S0 by omega)
      have honeX : ∀ (gq : Nat), ∀ u ∈ fdL (.slice (some ⟨gq, 0, none⟩) 1 1) 0 (R0 : Int), u.oneCell' = true := fun gq => by simp [Value.oneCell']
      obtain ⟨nW, hnW⟩ : ∃ n, n = ws.length := ⟨_, rfl⟩
      clear hc hls hsuf hR00 hR3 hD10 hD20
      go_wp2_with (first
        | (with_reducible refine wl_run (o := ⟨some 8, _, _, _, _, _⟩) rfl (.int .i64 (S0 : Int)) (run_lenZ 9 (.tmp 7) s rfl Tryd.underlying9 rfl hS0.out) ?_)
        | (with_reducible refine wl_run (o := ⟨some 14, _, _, _, _, _⟩) rfl (encStr (s.drop i)) (run_sliceStrL 9 (.tmp 12) (.tmp 13) s i rfl Tryd.underlying9 rfl rfl hi9.out) ?_))
      refine HC.mono ?_
      rintro e w4 ⟨b4, u, gq, rfl, rq4, pq, ou4⟩
      clear HC
      have hw4 := b4.size
      rw [hR0.out]
      obtain ⟨Au, cu, rfl⟩ := own_slB ou4
      rw [← hnW] at ou4 rq4
      have hq4 := rq4.lt
      have honeX := honeX gq
      replace hnW := hide hnW
      have ou49 := hide ou4
      clear ou4
      by_cases hw0 : 0 < nW
      · have hw0I : (0 : Int) < (nW : Int) := by omega
        have hwn := hide (show ws ≠ [] by rintro rfl; have := hnW.out; simp at this; omega)
        clear hw0
        go_wp2_with (first
          | (with_reducible refine wl_run (o := ⟨some 8, _, _, _, _, _⟩) rfl (.int .i64 (S0 : Int)) (run_lenZ 9 (.tmp 7) s rfl Tryd.underlying9 rfl hS0.out) ?_)
          | (with_reducible refine wl_run (o := ⟨some 14, _, _, _, _, _⟩) rfl (encStr (s.drop i)) (run_sliceStrL 9 (.tmp 12) (.tmp 13) s i rfl Tryd.underlying9 rfl rfl hi9.out) ?_)
          | ((with_reducible refine wl_alloc (o := ⟨some 5, _, _, _, _, _⟩) rfl 32 _ (fdL (.slice none 0 0) 0 0) rfl fdInfo rfl ?_); intro g5 w5 q5 p5 l5 b5)
          | (refine wl_store_row rfl 32 (.tmp 5) (.tmp 15) g5 32 _ (fdL (.slice (some ⟨gq, 0, none⟩) 1 1) 0 (R0 : Int)) rfl rfl rfl q5 szFd rfl honeX ?_; intro w6 r5 o5; have c50 := r5.cell (j := 0) rfl; have c51 := r5.cell (j := 1) rfl; have c52 := r5.cell (j := 2) rfl; have rq6 := (rq4.later b5).only o5 (by omega); have rg2 := ((rr2.later b4).later b5).only o5 (by omega); have rg3 := ((rr3.later b4).later b5).only o5 (by omega))
          | (with_reducible refine wl_run (o := ⟨some 33, _, _, _, _, _⟩) rfl (.int .i64 (S0 : Int)) (run_lenZ 9 (.tmp 32) s rfl Tryd.underlying9 rfl hS0.out) ?_)
          | (with_reducible refine wl_run (o := ⟨some 36, _, _, _, _, _⟩) rfl (.int .i64 (D1 : Int)) (run_subZ (.tmp 33) (.tmp 35) rfl rfl rfl hsub1.out) ?_)
          | (with_reducible refine wl_run (o := ⟨some 37, _, _, _, _, _⟩) rfl (.int .i64 (D2 : Int)) (run_subZ (.tmp 36) (.const (.int .i64 1)) rfl rfl rfl hsub2.out) ?_)
          | (with_reducible refine wl_run (o := ⟨some 40, _, _, _, _, _⟩) rfl (.pointer (some ⟨gq, 0, none⟩)) (run_idxO0 27 (.tmp 39) (.const (.int .i64 0)) 40 1 gq 0 1 1 rfl Tryd.underlying27 Tryd.sizeOf40 rfl rfl (by decide)) ?_)
          | (with_reducible refine wl_run (o := ⟨some 41, _, _, _, _, _⟩) rfl (.slice Au nW cu) (run_load1 40 (.tmp 40) gq 0 (.slice Au nW cu) rfl Tryd.isAgg40 rfl (rq6.cell (j := 0) rfl)) ?_)
          | (with_reducible refine wl_run (o := ⟨some 11, _, _, _, _, _⟩) rfl (.int .i64 (D1 : Int)) (run_addZ (.tmp 10) (.const (.int .i64 1)) rfl rfl rfl hadd.out) ?_))
        rename_i K6 hK6
        obtain ⟨xs, ow, hN⟩ := oc
        obtain ⟨u, hu⟩ : ∃ u, u = Value.slice Au nW cu := ⟨_, rfl⟩
        have b46 : ∀ k, k < w4.heap.size → w6.heap[k]? = w4.heap[k]? := fun k hk => (o5.block k (by omega)).trans (b5.block k hk)
        have hw46 : w4.heap.size ≤ w6.heap.size := Nat.le_trans b5.size (o5.below (B := 0) (by omega)).size
        have ow4 := own_later ow b4
        have ow6 := own_at (w' := w6) ow4 fun k hk => b46 k (ow4.lt k hk).2
        have hN6 : NOf T xs L0 w6 := fun i u l hu hl => by
          have q := own_later (hN i u l hu hl) b4
          exact own_at q fun k hk => b46 k (q.lt k hk).2
        have ou6 := own_at (w' := w6) ou49.out fun k hk => b46 k (ou49.out.lt k hk).2
        rw [← hu] at rq6 ou6
        have rq := rq6
        have huc := hide (show u.cells = #[u] by rw [hu]; rfl)
        have ho1 : ∀ x ∈ [u], x.oneCell' = true := by rw [hu]; simp [Value.oneCell']
        obtain ⟨n0, hn0⟩ : ∃ n, n = L0.length := ⟨_, rfl⟩
        have hn06 : n0 ≤ 6000 := by have := hL09.out; have := hiN.out; omega
        have hm1 := hide (show n0 + 1 ≤ maxLen by simp only [maxLen]; omega)
        have hm24 := hide (show (n0 + 1) * 24 ≤ 140737488355328 by omega)
        rw [← hn0] at ow6
        have own69 := hide ow6
        have hTw : T ≤ w6.heap.size := Nat.le_trans hTr (Nat.le_trans hw4 hw46)
        have B6 : Below w.heap.size w w6 := ((BW.trans (b4.mono hwb)).trans (b5.mono (Nat.le_trans hwb hw4))).trans (o5.below (by omega))
        have hvl : xs.length = L0.length := by have := ow6.1; omega
        have ou69 := hide ou6
        have hN69 := hide hN6
        clear ow hN ow4 ow6 hN6 ou6 c50 c51 c52 hu ou49 b46
        refine wp_region_vals [6, 7, 9] (SPa14 g3 g5 gq cv u) (JP T g3 n0 w6 cv xs u) (by kernel_rfl) (by kernel_rfl) (by kernel_rfl) (by kernel_rfl) (by kernel_rfl) (JP.start rg3) ?obs3 ?he3
        case obs3 =>
          refine ⟨?_, ?_, ?_, ?_, ?_, ?_, ?_, ?_, ?_, ?_, trivial⟩
          · refine .inl ⟨by kernel_rfl, fun L a1 w1 n h => ⟨.pointer (some ⟨g3, 0, none⟩), rfl, ?_⟩⟩
            have e0 : a1.eval (.tmp 3) = _ := h.var n 3 (by kernel_rfl)
            unfold execOp
            simp only [e0]
            go_simp
          · exact .inl ⟨by kernel_rfl, fun L a1 w1 n h => ⟨_, rfl, run_load1 27 (.tmp 44) g3 0 cv rfl Tryd.isAgg27 (h.dep n 0 44 (by kernel_rfl) rfl) ((h.inv.2.2.2.2.1 ((bits_at (E := [6, 7, 9]) (ks := 2) (s := 9) rfl).trans (n.later (by kernel_rfl)))).cell (j := 0) rfl)⟩⟩
          · refine .inl ⟨by kernel_rfl, fun L a1 w1 n h => ⟨.pointer (some ⟨g5, 0, none⟩), rfl, ?_⟩⟩
            have e0 : a1.eval (.tmp 5) = _ := h.var n 5 (by kernel_rfl)
            unfold execOp
            simp only [e0]
            go_simp
          · exact .inl ⟨by kernel_rfl, fun L a1 w1 n h => ⟨_, rfl, run_load1 27 (.tmp 46) g5 0 (.slice (some ⟨gq, 0, none⟩) 1 1) rfl Tryd.isAgg27 (h.dep n 2 46 (by kernel_rfl) rfl) ((r5.later (h.inv.2.1 ((bits_at (E := [6, 7, 9]) (ks := 1) (s := 7) rfl).trans (n.later (by kernel_rfl))) ((bits_at (E := [6, 7, 9]) (ks := 2) (s := 9) rfl).trans (n.later (by kernel_rfl))))).cell (j := 0) rfl)⟩⟩
          · exact .inl ⟨by kernel_rfl, fun L a1 w1 n h => ⟨_, rfl, run_idxO0 27 (.tmp 47) (.const (.int .i64 0)) 40 1 gq 0 1 1 rfl Tryd.underlying27 Tryd.sizeOf40 (h.dep n 3 47 (by kernel_rfl) rfl) rfl (by decide)⟩⟩
          · exact .inl ⟨by kernel_rfl, fun L a1 w1 n h => ⟨_, rfl, run_load1 40 (.tmp 48) gq 0 u rfl Tryd.isAgg40 (h.dep n 4 48 (by kernel_rfl) rfl) ((rq.later (h.inv.2.1 ((bits_at (E := [6, 7, 9]) (ks := 1) (s := 7) rfl).trans (n.later (by kernel_rfl))) ((bits_at (E := [6, 7, 9]) (ks := 2) (s := 9) rfl).trans (n.later (by kernel_rfl))))).cell (j := 0) rfl)⟩⟩
          · refine .inr fun L a1 w1 n h K hK => ?_
            have no0 : L.getD 6 false = false := n.not_yet
            have no1 : L.getD 7 false = false := n.later (by kernel_rfl)
            have no2 : L.getD 9 false = false := n.later (by kernel_rfl)
            have e0 : a1.eval (.tmp 49) = u := h.dep n 5 49 (by kernel_rfl) rfl
            refine st_build1 27 (.tmp 49) rfl 40 il (.slice none 0 0) (a1.eval (.tmp 49)) Tryd.underlying27 hil hlz hls rfl rfl (by rw [e0]; exact huc.out) ?_
            intro g9 w9 r9 p9 l9 b9
            rw [e0] at r9
            exact hK _ w9 trivial (JP.built h.inv b9 rfl r9 ((bits_at rfl).trans no1) ((bits_at rfl).trans no2) no1 no2)
          · refine .inr fun L a1 w1 n h K hK => ?_
            have yes0 : L.getD 6 false = true := n.dep (by kernel_rfl)
            have no1 : L.getD 7 false = false := n.not_yet
            have no2 : L.getD 9 false = false := n.later (by kernel_rfl)
            obtain ⟨g7, eu, r7⟩ := h.inv.2.2.1 ((bits_at rfl).trans yes0) ((bits_at rfl).trans no1)
            have own2 := own_later own69.out (h.inv.2.1 ((bits_at rfl).trans no1) ((bits_at rfl).trans no2))
            have hsz2 := h.inv.1.size
            have e18 : a1.eval (.tmp 45) = cv := h.dep n 1 45 (by kernel_rfl) rfl
            refine st_append_at (.tmp 45) (.tmp 50) 27 rfl T 40 il _ 1 24 Tryd.underlying27 hil hlz hls hlb rfl (by decide) cv n0 xs e18 own2 ⟨g7, 0, none⟩ 1 1 [u] eu rfl (row_src r7) ho1 hm1.out hm24.out (Nat.le_trans hTw hsz2) ?_
            intro v9 w9 own9 gr9 at9
            exact hK _ w9 trivial (JP.appended h.inv gr9 own2 own9 ((bits_at rfl).trans no2) rfl no2)
          · refine .inl ⟨by kernel_rfl, fun L a1 w1 n h => ⟨.pointer (some ⟨g3, 0, none⟩), rfl, ?_⟩⟩
            have e0 : a1.eval (.tmp 3) = _ := h.var n 3 (by kernel_rfl)
            unfold execOp
            simp only [e0]
            go_simp
          · refine .inr fun L a1 w1 n h K hK => ?_
            have yes1 : L.getD 7 false = true := n.dep (by kernel_rfl)
            have no2 : L.getD 9 false = false := n.not_yet
            have ow9 := h.inv.2.2.2.1 ((bits_at rfl).trans yes1)
            obtain ⟨A9, c9, hsl⟩ := own_slB ow9
            have hsl2 : a1.tmps.getD 51 undef = .slice A9 _ c9 := hsl
            refine st_store 27 (.tmp 52) (.tmp 51) g3 0 32 (fdL cv 0 0) (a1.eval (.tmp 51)) rfl ll_size1F (h.dep n 8 52 (by kernel_rfl) rfl) rfl (h.inv.2.2.2.2.1 ((bits_at rfl).trans no2)) (Nat.succ_pos _) (by rw [show a1.eval (.tmp 51) = _ from hsl2]; rfl) ?_
            intro w9 r9 o9
            exact hK undef w9 trivial (JP.stored h.inv o9 r9 hgT ((bits_at rfl).trans yes1) rfl yes1 rfl)
        case he3 =>
          intro V w8 hV hJ
          have bz := hJ.1
          have own8 : w8.ownsRow T 40 1 (V 7) (n0 + 1) (xs ++ [u]) := hJ.2.2.2.1 rfl
          have rg8 : Row w8 32 g3 (fdL (V 7) 0 0) := hJ.2.2.2.2.2 rfl
          have hS : ∀ k ∈ g3 :: ownL cv, k = g3 ∨ T ≤ k := by
            intro k hk
            rcases List.mem_cons.1 hk with rfl | hk
            · exact .inl rfl
            · unfold ownL at hk
              cases ho : cv.ownBlock with
              | none => rw [ho] at hk; simp at hk
              | some q => rw [ho] at hk; simp at hk; subst hk; exact .inr (own69.out.lt _ ho).1
          have rg28 := rg2.butz bz (fun hm => by rcases hS _ hm with h | h; exact hg23 h; omega)
          have hw8 := bz.size
          have hSw : ∀ k ∈ g3 :: ownL cv, w.heap.size ≤ k := by
            intro k hk
            rcases hS k hk with h | h
            · omega
            · exact Nat.le_trans hwT.out h
          have B8 : Below w.heap.size w w8 := B6.trans (bz.below hSw B6.size)
          have hN8 : NOf T xs L0 w8 := fun i u l hu hl => own_bz (hN69.out i u l hu hl) bz own69.out hgT (by decide)
          have ou8 : OwnW w8 T u ws := own_bz (ownsRow_lo ou69.out hTr) bz own69.out hgT (by decide)
          rw [hn0] at own8
          have oc8 := hide (OwC.push hN8 hvl own8 ou8)
          have rg89 := hide rg8
          have rg289 := hide rg28
          clear hV hJ own8 hN8 ou8 rg8 rg28 rg2 rg3 r5 rq rq6 rq4
          simp only [putOps, List.setIfInBounds_toArray, List.set_cons_succ, List.set_cons_zero, Nat.reduceAdd]
          go_wp2_with (first
            | (with_reducible refine wl_run (o := ⟨some 11, _, _, _, _, _⟩) rfl (.int .i64 (D1 : Int)) (run_addZ (.tmp 10) (.const (.int .i64 1)) rfl rfl rfl hadd.out) ?_))
          go_roundw
          case rel =>
            refine ⟨D1, L0 ++ [ws], V 7, hDi.out.2, ?_, rfl, rg289.out, rg89.out, oc8.out, Nat.le_trans hTw hw8, B8, ?_⟩
            · rw [List.length_append]; have := hDi.out.1; have := hL09.out; simp; omega
            · rw [hp.out, hpo.out, if_neg hwn.out, hdr.out, List.append_assoc]; rfl
          case measure => have := hDi.out; have := hS6; simp [intOf]; omega
      · have hw0I : ¬ (0 : Int) < (nW : Int) := by omega
        have hwn := hide (show ws = [] from List.eq_nil_of_length_eq_zero (by rw [← hnW.out]; omega))
        clear hw0
        go_wp2_with (first
          | (with_reducible refine wl_run (o := ⟨some 8, _, _, _, _, _⟩) rfl (.int .i64 (S0 : Int)) (run_lenZ 9 (.tmp 7) s rfl Tryd.underlying9 rfl hS0.out) ?_)
          | (with_reducible refine wl_run (o := ⟨some 14, _, _, _, _, _⟩) rfl (encStr (s.drop i)) (run_sliceStrL 9 (.tmp 12) (.tmp 13) s i rfl Tryd.underlying9 rfl rfl hi9.out) ?_)
          | ((with_reducible refine wl_alloc (o := ⟨some 5, _, _, _, _, _⟩) rfl 32 _ (fdL (.slice none 0 0) 0 0) rfl fdInfo rfl ?_); intro g5 w5 q5 p5 l5 b5)
          | (refine wl_store_row rfl 32 (.tmp 5) (.tmp 15) g5 32 _ (fdL (.slice (some ⟨gq, 0, none⟩) 1 1) 0 (R0 : Int)) rfl rfl rfl q5 szFd rfl honeX ?_; intro w6 r5 o5; have c50 := r5.cell (j := 0) rfl; have c51 := r5.cell (j := 1) rfl; have c52 := r5.cell (j := 2) rfl; have rq6 := (rq4.later b5).only o5 (by omega); have rg2 := ((rr2.later b4).later b5).only o5 (by omega); have rg3 := ((rr3.later b4).later b5).only o5 (by omega))
          | (with_reducible refine wl_run (o := ⟨some 33, _, _, _, _, _⟩) rfl (.int .i64 (S0 : Int)) (run_lenZ 9 (.tmp 32) s rfl Tryd.underlying9 rfl hS0.out) ?_)
          | (with_reducible refine wl_run (o := ⟨some 36, _, _, _, _, _⟩) rfl (.int .i64 (D1 : Int)) (run_subZ (.tmp 33) (.tmp 35) rfl rfl rfl hsub1.out) ?_)
          | (with_reducible refine wl_run (o := ⟨some 37, _, _, _, _, _⟩) rfl (.int .i64 (D2 : Int)) (run_subZ (.tmp 36) (.const (.int .i64 1)) rfl rfl rfl hsub2.out) ?_)
          | (with_reducible refine wl_run (o := ⟨some 40, _, _, _, _, _⟩) rfl (.pointer (some ⟨gq, 0, none⟩)) (run_idxO0 27 (.tmp 39) (.const (.int .i64 0)) 40 1 gq 0 1 1 rfl Tryd.underlying27 Tryd.sizeOf40 rfl rfl (by decide)) ?_)
          | (with_reducible refine wl_run (o := ⟨some 41, _, _, _, _, _⟩) rfl (.slice Au nW cu) (run_load1 40 (.tmp 40) gq 0 (.slice Au nW cu) rfl Tryd.isAgg40 rfl (rq6.cell (j := 0) rfl)) ?_)
          | (with_reducible refine wl_run (o := ⟨some 11, _, _, _, _, _⟩) rfl (.int .i64 (D1 : Int)) (run_addZ (.tmp 10) (.const (.int .i64 1)) rfl rfl rfl hadd.out) ?_))
        go_roundw
        case rel =>
          have B6 : Below w.heap.size w w6 := ((BW.trans (b4.mono hwb)).trans (b5.mono (Nat.le_trans hwb hw4))).trans (o5.below (by omega))
          refine ⟨D1, L0, cv, hDi.out.2, Nat.le_trans hL09.out (Nat.le_of_lt hDi.out.1), rfl, rg2, rg3, ?_, by have := b5.size; have := o5.size; omega, B6, ?_⟩
          · exact (oc.later b4).at (w' := w6) fun k _ hk => (o5.block k (by omega)).trans (b5.block k hk)
          · rw [hp.out, hpo.out, if_pos hwn.out, hdr.out]
        case measure => have := hDi.out; have := hS6; simp [intOf]; omega
end Go.Proofs.YthjcmgjmdjihnaaDoor

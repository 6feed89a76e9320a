/-
  A set's calls, next part: Put, Range, Between. Own work.
-/
import Derived.Test.YtfklfgaomcbchaaZsetN
namespace Go.Proofs.Ytfklfgaomcbchaa
open Go.RowKit Go.Shelf
set_option linter.unusedVariables false
set_option linter.unusedSimpArgs false
/-- Drop. -/
theorem drop_any (w : World) (B gz mb : Nat) (hd : Nd) (Ls : List Nd) (m : Nm) (h : ZSet w B gz mb hd Ls) (hm : m.length ≤ maxLen) (hl : Ls.length ≤ 999998) : Calls Try.prog 22 #[ptr gz, encStr m] w fun e w' => ∃ Ls', e = .returned (.bool (scoreOf (scs Ls) m).isSome) ∧ ZSet w' B gz mb hd Ls' ∧ scs Ls' = dropS (scs Ls) m ∧ ButZ (zB mb hd Ls) w w' ∧ Ls'.length ≤ Ls.length ∧ ∀ n ∈ Ls', n ∈ Ls := by
  cases hs : scoreOf (scs Ls) m with
  | none =>
    refine (drop_no w B gz mb hd Ls m h hm hs).mono ?_
    rintro e w1 ⟨rfl, rfl⟩
    exact ⟨Ls, rfl, h, (dropS_none (scoreOf_none.1 hs)).symm, ButZ.of (Below.refl _ _), Nat.le_refl _, fun n hn => hn⟩
  | some s =>
    refine (drop_yes w B gz mb hd Ls m s h hm hl hs).mono ?_
    rintro e w1 ⟨Ls', rfl, h1, h2, h3, h4, h5⟩
    exact ⟨Ls', rfl, h1, h2, h3, by omega, h5⟩
set_option maxRecDepth 100000 in
set_option maxHeartbeats 1000000 in
/-- Put. -/
theorem put_any2 (w : World) (B gz mb : Nat) (hd : Nd) (Ls : List Nd) (m : Nm) (s : Int) (h : ZSet w B gz mb hd Ls) (hm : m.length ≤ 1000000) (hl : Ls.length ≤ 999998) (hB : B ≤ w.heap.size) : Calls Try.prog 23 #[ptr gz, encStr m, .int .i64 s] w fun e w' => ∃ Ls', e = .returned (.bool (!(scoreOf (scs Ls) m).isSome)) ∧ ZSet w' B gz mb hd Ls' ∧ scs Ls' = putS (scs Ls) ⟨m, s⟩ ∧ ButZ (zB mb hd Ls) w w' ∧ Ls'.length ≤ Ls.length + 1 ∧ ∀ k ∈ zB mb hd Ls', k ∈ zB mb hd Ls ∨ w.heap.size ≤ k := by
  have hmx : m.length ≤ maxLen := by simp only [maxLen]; omega
  have HD := drop_any w B gz mb hd Ls m h hmx hl
  have HM := made_any w gz mb _ h.row
  have H := hide h
  have hl0 := hide hl
  have hm0 := hide hm
  obtain ⟨t, ht⟩ : ∃ t, t = (scoreOf (scs Ls) m).isSome := ⟨_, rfl⟩
  rw [← ht] at HD ⊢
  clear ht h hl
  go_enter Try.func23, Try.ntmps23
  go_wp2_with fail
  refine HM.mono ?_
  rintro e w1 ⟨rfl, rfl⟩
  go_wp2_with fail
  refine HD.mono ?_
  rintro e w2 ⟨L1, rfl, h2, hs2, B2, hl2, hin⟩
  obtain ⟨es, hM, hel, hes⟩ := h2.map
  obtain ⟨hmb, hgm⟩ := h2.mb_ne
  have hno : scoreOf (scs L1) m = none := by rw [hs2, scoreOf_drop, if_pos rfl]
  have hne := scoreOf_none.1 hno
  have hat : atE es m = none := by rw [hes, hno]; rfl
  have c20 := h2.row.cell (j := 0) rfl
  have hlx : es.length < maxLen := by simp only [maxLen]; have := hl0.out; omega
  have HI := fun w3 (o : Only mb w2 w3) (hw : B ≤ w3.heap.size) => insert_any2 w3 B hd L1 ⟨m, s⟩ (h2.z.only o hmb) h2.h16 (by have := hl0.out; omega) h2.rise hm hw
  have hw2 : B ≤ w2.heap.size := Nat.le_trans hB B2.size
  have H2 := hide h2
  replace hes := hide hes
  replace hs2 := hide hs2
  replace hno := hide hno
  replace hat := hide hat
  replace hel := hide hel
  replace HI := hide HI
  replace hne := hide hne
  replace hin := hide hin
  clear HM HD h2 hm
  go_wp2_with (first
    | (with_reducible refine wl_put rfl (.tmp 17) (.tmp 18) (.tmp 19) m (.int .i64 s) mb es rfl rfl rfl rfl hM hmx hlx ?_; intro w3 m3 o3; have r3 := H2.out.row.only o3 hgm; have c31 := r3.cell (j := 1) rfl)
    | (with_reducible refine wl_build (o := ⟨some 26, _, _, _, _, _⟩) rfl 35 [(0, .tmp 24), (1, .tmp 25)] rfl [(0, encStr m), (1, .int .i64 s)] rfl [encStr m, .int .i64 s] (builtSc m s) ?_))
  refine (HI.out _ o3 (Nat.le_trans hw2 (Nat.le_of_eq o3.size.symm))).mono ?_
  rintro e w4 ⟨nd, hnd, rfl, hz4, B4, hnb⟩
  go_wp2_with fail
  go_ret
  have hS3 : ∀ k ∈ (hd :: L1).map Nd.b, k ≠ gz ∧ k ≠ mb := by
    intro k hk
    obtain ⟨n, hn, rfl⟩ := List.mem_map.1 hk
    obtain ⟨c, hc⟩ := List.getElem?_of_mem hn
    exact ⟨H2.out.gz_ne n hn, (hmb c n hc).2⟩
  have r4 : Row w4 52 gz [.map (some mb), ptr hd.g] := (B4.block gz r3.lt fun hk => (hS3 gz hk).1 rfl).trans r3
  have m4 : MapAt w4 mb (putE es m (.int .i64 s)) := m3.same (B4.block mb m3.lt fun hk => (hS3 mb hk).2 rfl)
  have hk : nAhead ⟨m, s⟩ (scs L1) ≤ L1.length := by simpa using nAhead_le ⟨m, s⟩ (scs L1)
  have hsc : scs (putL L1 (nAhead ⟨m, s⟩ (scs L1)) nd) = putAt (scs L1) (nAhead ⟨m, s⟩ (scs L1)) ⟨m, s⟩ := by rw [scs_put, hnd]
  have hlen : (putL L1 (nAhead ⟨m, s⟩ (scs L1)) nd).length = L1.length + 1 := putL_len hk
  refine ⟨putL L1 (nAhead ⟨m, s⟩ (scs L1)) nd, rfl, ⟨r4, ⟨_, m4, by rw [putE_len _ _ _ hat.out, hlen, hel.out], fun q => ?_⟩, hz4, H.out.h16, ?_, ?_, H.out.lo⟩, ?_, ?_, by rw [hlen]; omega, ?_⟩
  · rw [atE_put, hsc, scoreOf_putAt hne.out, hes.out]
    by_cases hq : q = m
    · rw [if_pos hq, if_pos hq]; rfl
    · rw [if_neg hq, if_neg hq]
  · rw [hsc]; exact Rising.putAt H2.out.rise fun a ha e => hne.out a ha (by rw [e])
  · rw [hsc]; exact Uniq.putAt H2.out.uniq hne.out
  · rw [hsc, hs2.out]; rfl
  · refine B2.trans ((Mem_only o3 (by simp)).trans (B4.sub fun k hk => ?_))
    obtain ⟨n, hn, rfl⟩ := List.mem_map.1 hk
    refine List.mem_cons_of_mem _ (List.mem_map.2 ⟨n, ?_, rfl⟩)
    rcases List.mem_cons.1 hn with e | e
    · rw [e]; exact List.mem_cons_self
    · exact List.mem_cons_of_mem _ (hin.out n e)
  · intro q hq
    rcases List.mem_cons.1 hq with e | e
    · exact .inl (by rw [e]; exact List.mem_cons_self)
    · obtain ⟨n, hn, rfl⟩ := List.mem_map.1 e
      rcases List.mem_cons.1 hn with e2 | e2
      · exact .inl (List.mem_cons_of_mem _ (List.mem_map.2 ⟨n, by rw [e2]; exact List.mem_cons_self, rfl⟩))
      · rcases List.mem_append.1 e2 with e3 | e3
        · exact .inl (List.mem_cons_of_mem _ (List.mem_map.2 ⟨n, List.mem_cons_of_mem _ (hin.out n (List.take_subset _ _ e3)), rfl⟩))
        · rcases List.mem_cons.1 e3 with e4 | e4
          · rw [e4]; exact .inr (by have := B2.size; have := o3.size; omega)
          · exact .inl (List.mem_cons_of_mem _ (List.mem_map.2 ⟨n, List.mem_cons_of_mem _ (hin.out n (List.drop_subset _ _ e4)), rfl⟩))
set_option maxRecDepth 100000 in
theorem put_any (w : World) (B gz mb : Nat) (hd : Nd) (Ls : List Nd) (m : Nm) (s : Int) (h : ZSet w B gz mb hd Ls) (hm : m.length ≤ 1000000) (hl : Ls.length ≤ 999998) (hB : B ≤ w.heap.size) : Calls Try.prog 23 #[ptr gz, encStr m, .int .i64 s] w fun e w' => ∃ Ls', e = .returned (.bool (!(scoreOf (scs Ls) m).isSome)) ∧ ZSet w' B gz mb hd Ls' ∧ scs Ls' = putS (scs Ls) ⟨m, s⟩ ∧ ButZ (zB mb hd Ls) w w' ∧ Ls'.length ≤ Ls.length + 1 :=
  (put_any2 w B gz mb hd Ls m s h hm hl hB).mono fun e w' ⟨Ls', h1, h2, h3, h4, h5, _⟩ => ⟨Ls', h1, h2, h3, h4, h5⟩
set_option maxRecDepth 100000 in
/-- Range. -/
theorem range_any (w : World) (B gz mb : Nat) (hd : Nd) (Ls : List Nd) (x y : Int) (h : ZSet w B gz mb hd Ls) (hl : Ls.length ≤ 1000000) : Calls Try.prog 13 #[ptr gz, .int .i64 x, .int .i64 y] w fun e w' => ∃ v, e = .returned v ∧ OwnS w' w.heap.size v (((scs Ls).drop (min x.toNat Ls.length)).take (min y.toNat Ls.length - min x.toNat Ls.length)) ∧ Below w.heap.size w w' := by
  have HB := fun w1 (hb : Below w.heap.size w w1) g1 g2 (h1 : Row w1 3 g1 [.int .i64 x]) (h2 : Row w1 3 g2 [.int .i64 y]) => behind_any w1 B gz mb (min x.toNat Ls.length) (min y.toNat Ls.length) hd Ls 31 32 #[ptr g1] #[ptr g2] (h.row.later hb) (h.z.later hb) h.h16 (by omega) (by omega) hl callrange1
    (fun w2 hb2 i m hm => by
      have hi := (List.getElem?_eq_some_iff.1 hm).1
      have e : decide (i < min x.toNat Ls.length) = decide ((i : Int) < x) := by rw [decide_eq_decide]; omega
      rw [e]; exact range1_any w2 m.a i x g1 (h1.later hb2)) callrange2
    (fun w2 hb2 i m hm => by
      have hi := (List.getElem?_eq_some_iff.1 hm).1
      have e : decide (i < min y.toNat Ls.length) = decide ((i : Int) < y) := by rw [decide_eq_decide]; omega
      rw [e]; exact range2_any w2 m.a i y g2 (h2.later hb2))
  generalize min x.toNat Ls.length = k1 at *
  generalize min y.toNat Ls.length = k2 at *
  replace HB := hide HB
  clear h hl
  go_enter Try.func13, Try.ntmps13
  go_wp2_with (first
    | (with_reducible refine wl_box (o := ⟨some 4, _, _, _, _, _⟩) rfl 3 (.tmp 1) _ [.int .i64 x] rfl rfl rfl ?_; intro g4 w4 r4 p4 l4 b4)
    | (with_reducible refine wl_box (o := ⟨some 5, _, _, _, _, _⟩) rfl 3 (.tmp 2) _ [.int .i64 y] rfl rfl rfl ?_; intro g5 w5 r5 p5 l5 b5))
  have B5 := b4.trans (b5.mono b4.size)
  refine (HB.out _ B5 g4 g5 (r4.later b5) r5).mono ?_
  rintro e w6 ⟨v, rfl, own, b6⟩
  go_wp2_with fail
  go_ret
  exact ⟨_, rfl, own_lo own B5.size, B5.trans (b6.mono B5.size)⟩
end Go.Proofs.Ytfklfgaomcbchaa

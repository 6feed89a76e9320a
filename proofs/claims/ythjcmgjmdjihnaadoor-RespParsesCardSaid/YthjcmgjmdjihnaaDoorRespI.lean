/-
  The commands of bytes, as the program tells them. Contract. Own work.
-/
import Derived.Test.YthjcmgjmdjihnaaDoorRespH
namespace Go.Proofs.YthjcmgjmdjihnaaDoor
open Go.RowKit Go.Shelf
set_option linter.unusedVariables false
set_option linter.unusedSimpArgs false
theorem OwC.lo {w : World} {T T' : Nat} {v : Value} {L : List (List Wd)} (h : OwC w T v L) (hT : T' ≤ T) : OwC w T' v L := by
  obtain ⟨vs, h1, h2⟩ := h
  exact ⟨vs, ownsRow_lo h1 hT, fun i u l hu hl => ownsRow_lo (h2 i u l hu hl) hT⟩
theorem OwC.slice {w : World} {T : Nat} {v : Value} {L : List (List Wd)} (h : OwC w T v L) : ∃ A c, v = .slice A L.length c := by
  obtain ⟨vs, h1, h2⟩ := h
  exact own_slB h1
theorem decInfo : (Tryd.prog.info? 58).map (fun i => i.zero) = some (some (.agg #[.slice none 0 0])) := by kernel_rfl
theorem llInfo : (Tryd.prog.info? 27).map (fun i => i.zero) = some (some (.slice none 0 0)) := by kernel_rfl
theorem inInfo : (Tryd.prog.info? 3).map (fun i => i.zero) = some (some (.int .i64 0)) := by kernel_rfl
theorem pdInfo : (Tryd.prog.info? 56).map (fun i => i.zero) = some (some (.pointer none)) := by kernel_rfl
theorem pd_size1 : (Tryd.prog.info? 56).map (·.size) = some 1 := by kernel_rfl
theorem builtDec (A : Option Addr) (n c : Nat) : Tryd.prog.built 58 [(0, .slice A n c)] = some [Value.slice A n c].toArray := by kernel_rfl
def CM5 (gl gn : Nat) (lv : Value) (x0 ee : Int) (opn : Nat) (v : Value) : Prop :=
  match opn with
  | 0 => v = lv
  | 1 => v = .int .i64 x0
  | 2 | 5 => v = .int .i64 ee
  | _ => True

theorem callClo : ∀ (xs : Array Value) (w : World), (callFunc 24 xs).run Tryd.prog w = .ok (.enter 24 xs) w := fun xs w => by kernel_rfl
def CmsRes (w : World) (s : Wd) (e : Ending) (w' : World) : Prop := ∃ lv, e = .returned (.tuple #[lv, .int .i64 ((s.length - (pars s).2.1.length : Nat) : Int), .int .i64 ((pars s).2.2 : Int)]) ∧ OwC w' w.heap.size lv (pars s).1 ∧ Below w.heap.size w w'
set_option maxRecDepth 100000 in
set_option maxHeartbeats 4000000 in
theorem commands_any (w : World) (A : Option Addr) (c : Nat) (s : Wd) (hb : Bs w w.heap.size A s.length (nb s)) (hc : s.length ≤ c) (hs : s.length ≤ 150000000000000) (hcnt : (pars s).1.length ≤ 100000) (hT : TabV w) : Calls Tryd.prog 16 #[.slice A s.length c] w (CmsRes w s) := by
  have hmf : ∀ (fn : Fn) (first cap : Array Value) (w : World), (Instr.makeFunc fn first cap).run Tryd.prog w = .ok (.func fn first cap) w := fun _ _ _ _ => rfl
  have z1 := llInfo
  have z2 := inInfo
  have z3 := pdInfo
  have hbd := builtDec A s.length c
  have hb9 := hide hb
  have hc9 := hide hc
  have hs9 := hide hs
  have hcnt9 := hide hcnt
  have hT9 := hide (TabB.of hT)
  obtain ⟨nn, hnn⟩ : ∃ n, n = s.length := ⟨_, rfl⟩
  rw [← hnn] at hbd ⊢
  replace hnn := hide hnn
  clear hb hc hs hT hcnt
  go_enter Tryd.func16, Tryd.ntmps16
  go_wp2_with (first
    | (with_reducible refine wl_box (o := ⟨some 1, _, _, _, _, _⟩) rfl 26 (.tmp 0) (.slice A nn c) [.slice A nn c] rfl rfl rfl ?_; intro gb w1 rb1 pb1 lb1 b1)
    | (with_reducible refine wl_alloc (o := ⟨some 2, _, _, _, _, _⟩) rfl 27 _ [.slice none 0 0] rfl z1 rfl ?_; intro gl w2 rl2 pl2 ll2 b2; have rb2 := rb1.later b2; have B2 := b1.trans (b2.mono b1.size))
    | (with_reducible refine wl_alloc (o := ⟨some 3, _, _, _, _, _⟩) rfl 3 _ [.int .i64 0] rfl z2 rfl ?_; intro gn w3 rn3 pn3 ln3 b3; have rb3 := rb2.later b3; have rl3 := rl2.later b3; have B3 := B2.trans (b3.mono B2.size); have cb3 := rb3.cell (j := 0) rfl)
    | (with_reducible refine wl_build (o := ⟨some 7, _, _, _, _, _⟩) rfl 58 [(0, .tmp 6)] rfl [(0, .slice A nn c)] rfl [.slice A nn c] hbd ?_)
    | (with_reducible refine wl_box (o := ⟨some 8, _, _, _, _, _⟩) rfl 58 (.tmp 7) (.agg #[.slice A nn c]) [.slice A nn c] rfl rfl rfl ?_; intro gd w4 rd4 pd4 ld4 b4; have rb4 := rb3.later b4; have rl4 := rl3.later b4; have rn4 := rn3.later b4; have B4 := B3.trans (b4.mono B3.size))
    | (with_reducible refine wl_alloc (o := ⟨some 5, _, _, _, _, _⟩) rfl 56 _ [.pointer none] rfl z3 rfl ?_; intro gv w5 rv5 pv5 lv5 b5; have rb5 := rb4.later b5; have rl5 := rl4.later b5; have rn5 := rn4.later b5; have rd5 := rd4.later b5; have B5 := B4.trans (b5.mono B4.size))
    | (with_reducible refine wl_store rfl 56 (.tmp 5) (.tmp 8) gv 0 56 _ (.pointer (some ⟨gd, 0, none⟩)) rfl pd_size1 rfl rfl rv5 (Nat.succ_pos _) rfl ?_; intro w6 rv6 o6))
  have hne1 : gb ≠ gv := by have := b2.size; have := b3.size; have := b4.size; omega
  have hne2 : gl ≠ gv := by have := b3.size; have := b4.size; omega
  have hne3 : gn ≠ gv := by have := b4.size; omega
  have hne4 : gd ≠ gv := by omega
  have hne5 : gd ≠ gb := by have := b2.size; have := b3.size; omega
  have hne6 : gd ≠ gn := by omega
  have hne7 : gd ≠ gl := by have := b3.size; omega
  have hne8 : gn ≠ gb := by have := b2.size; omega
  have hne9 : gn ≠ gl := by omega
  have hne0 : gl ≠ gb := by omega
  have rb6 := rb5.only o6 hne1
  have rl6 := rl5.only o6 hne2
  have rn6 := rn5.only o6 hne3
  have rd6 := rd5.only o6 hne4
  have hwgv : w.heap.size ≤ gv := Nat.le_trans B4.size pv5
  have B6 : Below w.heap.size w w6 := B5.trans (o6.below hwgv)
  have hwgd : w.heap.size ≤ gd := Nat.le_trans B3.size pd4
  have hwgn : w.heap.size ≤ gn := Nat.le_trans B2.size pn3
  have hwgl : w.heap.size ≤ gl := Nat.le_trans b1.size pl2
  have hS : ∀ k ∈ [gd, gn, gl], k < w6.heap.size := by
    intro k hk
    have := rd6.lt; have := rn6.lt; have := rl6.lt
    simp at hk
    omega
  refine (attempt_any [gd, gn, gl] (fun w1 e w2 => CloR s w1.heap.size gd gn gl e w2 ∧ ButZ [gd, gn, gl] w1 w2) 24 _ w6 hS callClo (fun w7 b7 => ?_)).mono ?_
  · have B7 := B6.trans (b7.mono B6.size)
    refine (clo_any w7 gd gv gb gn gl w.heap.size A c s ⟨A, c, hnn.out ▸ rd6.later b7, hb9.out.below B7, hc9.out, hwgd⟩ hs9.out hcnt9.out (hT9.out.below B7) (rv6.later b7) (hnn.out ▸ rb6.later b7) (rn6.later b7) (rl6.later b7) hwgn hwgl hne4 hne5 hne6 hne7 hne3 hne8 hne9 hne2 hne0).mono ?_
    rintro en w8 ⟨er, rfl, hR, bz⟩
    exact ⟨er, rfl, ⟨hR, bz⟩, bz⟩
  rintro en w8 ⟨e, g, w7, w9, rfl, b7, ⟨⟨hpe, rn9, lv, rl9, oc9⟩, bz9⟩, o8, hg1, hg2⟩
  have hw7 := b7.size
  have hgn8 : gn ≠ g := by have := hS gn (by simp); omega
  have hgl8 : gl ≠ g := by have := hS gl (by simp); omega
  have rn8 := rn9.only o8 hgn8
  have rl8 := rl9.only o8 hgl8
  have oc8 : OwC w8 w7.heap.size lv (pars s).1 := oc9.at fun k hk _ => o8.block k (by omega)
  have B8 : Below w.heap.size w w8 := by
    have q1 := B6.trans (b7.mono B6.size)
    have q2 : Below w.heap.size w7 w9 := bz9.below (by intro k hk; simp at hk; omega) q1.size
    exact (q1.trans q2).trans (o8.below (by have := B6.size; omega))
  have hlo := hide (show w.heap.size ≤ w7.heap.size by have := B6.size; omega)
  have hk7 := hide (show ∀ k ∈ [gl, gn], k < w7.heap.size by intro k hk; simp at hk; have := hS gl (by simp); have := hS gn (by simp); omega)
  obtain ⟨ee, hee⟩ : ∃ ee : Int, ee = ((pars s).2.2 : Int) := ⟨_, rfl⟩
  obtain ⟨x0, hx0⟩ : ∃ x : Int, x = ((s.length - (pars s).2.1.length : Nat) : Int) := ⟨_, rfl⟩
  rw [← hee] at hpe
  rw [← hx0] at rn8
  obtain ⟨Al, cl, hlv⟩ := oc8.slice
  have hlv1 : lv.oneCell' = true := by rw [hlv]; rfl
  have hag1 : ∀ w, (isAgg 27).run Tryd.prog w = .ok false w := Tryd.isAgg27
  have hag2 : ∀ w, (isAgg 3).run Tryd.prog w = .ok false w := Tryd.isAgg3
  have hne : gn ≠ gl := hne9
  replace oc8 := hide oc8
  replace hee := hide hee
  replace hx0 := hide hx0
  replace hlv := hide hlv
  clear rb1 rl2 rb2 rn3 rb3 rl3 cb3 rd4 rb4 rl4 rn4 rv5 rb5 rl5 rn5 rd5 rv6 rb6 rl6 rn6 rd6 oc9 rn9 rl9 bz9 o6 o8 hmf z1 z2 z3 hbd
  clear hS hw7 hne1 hne2 hne3 hne4 hne5 hne6 hne7 hne8 hne9 hne0
  by_cases h4 : e = 4
  · subst h4
    have hee0 : ee = 0 := by rw [hpe]; rfl
    subst hee0
    clear hpe
    go_wp2_with fail
    rename_i K5 hK5
    refine wp_region_vals [3, 4] (CM5 gl gn lv x0 0) (fun _ _ wz => Row wz 27 gl [lv] ∧ Row wz 3 gn [.int .i64 x0] ∧ ButZ [gl, gn] w8 wz) (by kernel_rfl) (by kernel_rfl) (by kernel_rfl) (by kernel_rfl) (by kernel_rfl) ⟨rl8, rn8, (ButZ.refl _ _).drew⟩ ?obs5 ?he5
    case obs5 =>
      refine ⟨?_, ?_, ?_, ?_, ?_, ?_, trivial⟩
      · exact .inl ⟨by kernel_rfl, fun L a1 w1 n h => ⟨_, rfl, run_load1 27 (.tmp 2) gl 0 lv rfl Tryd.isAgg27 (h.var n 2 (by kernel_rfl)) (h.inv.1.cell (j := 0) rfl)⟩⟩
      · exact .inl ⟨by kernel_rfl, fun L a1 w1 n h => ⟨_, rfl, run_load1 3 (.tmp 3) gn 0 (.int .i64 x0) rfl Tryd.isAgg3 (h.var n 3 (by kernel_rfl)) (h.inv.2.1.cell (j := 0) rfl)⟩⟩
      · exact .inl ⟨by kernel_rfl, fun L a1 w1 n h => ⟨_, rfl, run_move (.tmp 4) rfl (h.var n 4 (by kernel_rfl))⟩⟩
      · refine .inr fun L a1 w1 n h K hK => ?_
        refine st_store 27 (.tmp 2) (.tmp 13) gl 0 27 [lv] lv rfl ll_size1 (h.var n 2 (by kernel_rfl)) (h.dep n 0 13 (by kernel_rfl) rfl) h.inv.1 (Nat.succ_pos _) hlv1 ?_
        intro w3 r3 o3
        exact hK undef w3 trivial ⟨r3, h.inv.2.1.only o3 hne, h.inv.2.2.only o3 (.inr (by simp))⟩
      · refine .inr fun L a1 w1 n h K hK => ?_
        refine st_store 3 (.tmp 3) (.tmp 14) gn 0 3 [.int .i64 x0] (.int .i64 x0) rfl int_size1 (h.var n 3 (by kernel_rfl)) (h.dep n 1 14 (by kernel_rfl) rfl) h.inv.2.1 (Nat.succ_pos _) rfl ?_
        intro w3 r3 o3
        exact hK undef w3 trivial ⟨h.inv.1.only o3 (Ne.symm hne), r3, h.inv.2.2.only o3 (.inr (by simp))⟩
      · exact .inl ⟨by kernel_rfl, fun L a1 w1 n h => ⟨_, rfl, run_assign (.tmp 15) rfl (h.dep n 2 15 (by kernel_rfl) rfl)⟩⟩
    case he5 =>
      intro V w10 hV hJ
      obtain ⟨rl10, rn10, bz10⟩ := hJ
      have hE : V 5 = .int .i64 0 := hV 5 _ rfl
      clear hV
      simp only [putOps, List.setIfInBounds_toArray, List.set_cons_succ, List.set_cons_zero, Nat.reduceAdd]
      rw [hE]
      have c1 := rl10.cell (j := 0) rfl
      have c2 := rn10.cell (j := 0) rfl
      refine hK5 _ _ ?_
      go_wp2_with fail
      refine bodyPost_ret (v := .tuple #[lv, .int .i64 x0, .int .i64 0]) ?_ rfl ⟨lv, ?_, (oc8.out.butz bz10 hk7.out).lo hlo.out, B8.trans (bz10.below (by intro k hk; simp at hk; omega) B8.size)⟩
      · simp [results, Tryd.results16, go_sem, c1, c2, asAddr, hag1, hag2]
      · rw [← hx0.out, ← hee.out]
  · have h4b : (e == 4) = false := by simpa using h4
    have hee0 : ee = e := by rw [hpe]; exact if_neg h4
    subst hee0
    clear hpe
    go_wp2_with fail
    rename_i K5 hK5
    refine wp_region_vals [3, 4] (CM5 gl gn lv x0 ee) (fun _ _ wz => Row wz 27 gl [lv] ∧ Row wz 3 gn [.int .i64 x0] ∧ ButZ [gl, gn] w8 wz) (by kernel_rfl) (by kernel_rfl) (by kernel_rfl) (by kernel_rfl) (by kernel_rfl) ⟨rl8, rn8, (ButZ.refl _ _).drew⟩ ?obs5 ?he5
    case obs5 =>
      refine ⟨?_, ?_, ?_, ?_, ?_, ?_, trivial⟩
      · exact .inl ⟨by kernel_rfl, fun L a1 w1 n h => ⟨_, rfl, run_load1 27 (.tmp 2) gl 0 lv rfl Tryd.isAgg27 (h.var n 2 (by kernel_rfl)) (h.inv.1.cell (j := 0) rfl)⟩⟩
      · exact .inl ⟨by kernel_rfl, fun L a1 w1 n h => ⟨_, rfl, run_load1 3 (.tmp 3) gn 0 (.int .i64 x0) rfl Tryd.isAgg3 (h.var n 3 (by kernel_rfl)) (h.inv.2.1.cell (j := 0) rfl)⟩⟩
      · exact .inl ⟨by kernel_rfl, fun L a1 w1 n h => ⟨_, rfl, run_move (.tmp 4) rfl (h.var n 4 (by kernel_rfl))⟩⟩
      · refine .inr fun L a1 w1 n h K hK => ?_
        refine st_store 27 (.tmp 2) (.tmp 13) gl 0 27 [lv] lv rfl ll_size1 (h.var n 2 (by kernel_rfl)) (h.dep n 0 13 (by kernel_rfl) rfl) h.inv.1 (Nat.succ_pos _) hlv1 ?_
        intro w3 r3 o3
        exact hK undef w3 trivial ⟨r3, h.inv.2.1.only o3 hne, h.inv.2.2.only o3 (.inr (by simp))⟩
      · refine .inr fun L a1 w1 n h K hK => ?_
        refine st_store 3 (.tmp 3) (.tmp 14) gn 0 3 [.int .i64 x0] (.int .i64 x0) rfl int_size1 (h.var n 3 (by kernel_rfl)) (h.dep n 1 14 (by kernel_rfl) rfl) h.inv.2.1 (Nat.succ_pos _) rfl ?_
        intro w3 r3 o3
        exact hK undef w3 trivial ⟨h.inv.1.only o3 (Ne.symm hne), r3, h.inv.2.2.only o3 (.inr (by simp))⟩
      · exact .inl ⟨by kernel_rfl, fun L a1 w1 n h => ⟨_, rfl, run_assign (.tmp 15) rfl (h.dep n 2 15 (by kernel_rfl) rfl)⟩⟩
    case he5 =>
      intro V w10 hV hJ
      obtain ⟨rl10, rn10, bz10⟩ := hJ
      have hE : V 5 = .int .i64 ee := hV 5 _ rfl
      clear hV
      simp only [putOps, List.setIfInBounds_toArray, List.set_cons_succ, List.set_cons_zero, Nat.reduceAdd]
      rw [hE]
      have c1 := rl10.cell (j := 0) rfl
      have c2 := rn10.cell (j := 0) rfl
      refine hK5 _ _ ?_
      go_wp2_with fail
      refine bodyPost_ret (v := .tuple #[lv, .int .i64 x0, .int .i64 ee]) ?_ rfl ⟨lv, ?_, (oc8.out.butz bz10 hk7.out).lo hlo.out, B8.trans (bz10.below (by intro k hk; simp at hk; omega) B8.size)⟩
      · simp [results, Tryd.results16, go_sem, c1, c2, asAddr, hag1, hag2]
      · rw [← hx0.out, ← hee.out]
end Go.Proofs.YthjcmgjmdjihnaaDoor

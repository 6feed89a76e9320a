/-
  The disk: Append, Read. Own work.
-/
import Derived.Test.YtaflmiopaiigbaaDiskJ
namespace Go.Proofs.Ytaflmiopaiigbaa
open Go.RowKit Go.Maps Go.ChangeMaps
set_option linter.unusedVariables false
set_option linter.unusedSimpArgs false
/-- Behind an act, the files told by P. -/
def ActedP (w w' : World) (B gd : Nat) (pl : Value) (mb : Nat) (e0 : Int) (on : Bool) (fuse : Int) (fs : Fs) (P : Fs → Prop) : Prop :=
  ∃ fs', (if e0 = 0 ∧ actE on fuse = 0 then P fs' else fs' = fs) ∧ DiskAt w' B gd pl mb fs' ∧ PlAt w' pl (dOn e0 on fuse) (dFu e0 on fuse) ∧ Buts (plB pl ++ dblocks gd mb fs) w w' ∧ ∀ k ∈ dblocks gd mb fs', k ∈ dblocks gd mb fs ∨ w.heap.size ≤ k
theorem ActedP.from {w0 w w' : World} {B gd mb : Nat} {pl : Value} {e0 : Int} {on : Bool} {fuse : Int} {fs : Fs} {P : Fs → Prop} (h : ActedP w w' B gd pl mb e0 on fuse fs P) (hb : Below w0.heap.size w0 w) : ActedP w0 w' B gd pl mb e0 on fuse fs P := by
  obtain ⟨fs', h1, h2, h3, h4, h5⟩ := h
  exact ⟨fs', h1, h2, h3, (Buts.of hb _).trans h4, fun k hk => (h5 k hk).imp id fun q => Nat.le_trans hb.size q⟩
theorem Acted.toP {w w' : World} {B gd mb : Nat} {pl : Value} {e0 : Int} {on : Bool} {fuse : Int} {fs fs1 : Fs} (h : Acted w w' B gd pl mb e0 on fuse fs fs1) (hn : ∀ k ∈ dblocks gd mb fs1, k ∈ dblocks gd mb fs) : ActedP w w' B gd pl mb e0 on fuse fs (fun fs' => fs' = fs1) := by
  obtain ⟨h1, h2, h3⟩ := h
  refine ⟨_, ?_, h1, h2, h3, fun k hk => .inl ?_⟩
  · unfold dFs
    by_cases he : e0 = 0 <;> by_cases ha : actE on fuse = 0 <;> simp [he, ha]
  · unfold dFs at hk
    split at hk
    · split at hk
      · exact hn k hk
      · exact hk
    · exact hk
theorem change_allP (w : World) (B gd mb : Nat) (pl : Value) (F : FuncId) (caps : Array Value) (e0 : Int) (on : Bool) (fuse : Int) (fs : Fs) (P : Fs → Prop) (h : DiskAt w B gd pl mb fs) (hp : PlAt w pl on fuse) (hf : isI fuse) (hF : ∀ (xs : Array Value) (w : World), (callFunc F xs).run Try.prog w = .ok (.enter F xs) w)
    (hc : e0 = 0 → ∀ w1, DiskAt w1 B gd pl mb fs → Buts (plB pl) w w1 → Calls Try.prog F caps w1 fun en w2 => en = .returned (.tuple #[]) ∧ ∃ fs1, P fs1 ∧ DiskAt w2 B gd pl mb fs1 ∧ Buts (dblocks gd mb fs) w1 w2 ∧ ∀ k ∈ dblocks gd mb fs1, k ∈ dblocks gd mb fs ∨ w1.heap.size ≤ k) :
    Calls Try.prog 56 #[ptr gd, .int .i64 e0, .func (.func F) #[] caps] w fun en w' => en = .returned (.int .i64 (dE e0 on fuse)) ∧ ActedP w w' B gd pl mb e0 on fuse fs P := by
  have hnb := pl_not hp h
  by_cases he : e0 = 0
  · subst he
    rcases actE_cases on fuse with ha | ha
    · refine (change_do w gd pl _ F caps on fuse h.row hp hf ha hF (fun w1 w2 => ∃ fs1, P fs1 ∧ DiskAt w2 B gd pl mb fs1 ∧ Buts (dblocks gd mb fs) w1 w2 ∧ ∀ k ∈ dblocks gd mb fs1, k ∈ dblocks gd mb fs ∨ w1.heap.size ≤ k) (fun w1 h1 h2 => hc rfl w1 (h.buts h2 hnb) h2)).mono ?_
      rintro en w' ⟨rfl, w1, h1, h2, fs1, h5, h3, h4, h6⟩
      refine ⟨by simp [dE, ha], fs1, by simpa [ha] using h5, h3, ?_, (h2.sub (fun k hk => List.mem_append.2 (.inl hk))).trans (h4.sub (fun k hk => List.mem_append.2 (.inr hk))), fun k hk => (h6 k hk).imp id fun q => Nat.le_trans h2.size q⟩
      simpa [dOn, dFu] using h1.buts h4 (fun k hk hk2 => hnb k hk2 hk)
    · refine (change_off w gd pl _ _ on fuse h.row hp hf ha).mono ?_
      rintro en w' ⟨rfl, h1, h2⟩
      exact ⟨by simp [dE, ha], fs, by simp [ha], h.buts h2 hnb, by simpa [dOn, dFu] using h1, h2.sub (fun k hk => List.mem_append.2 (.inl hk)), fun k hk => .inl hk⟩
  · refine (change_err w gd e0 _ he).mono ?_
    rintro en w' ⟨rfl, rfl⟩
    exact ⟨by simp [dE, he], fs, by simp [he], h, by simpa [dOn, dFu, he] using hp, Buts.refl _ _, fun k hk => .inl hk⟩
theorem owb_low {w : World} {b0 b1 e n : Nat} {v : Value} {xs : List Value} (h : w.ownsRow b1 e 1 v n xs) (hb : b0 ≤ b1) : w.ownsRow b0 e 1 v n xs :=
  ⟨h.1, h.2.imp id fun ⟨g, cap, cur, e, h1, h2⟩ => ⟨g, cap, cur, e, Nat.le_trans hb h1, h2⟩⟩
/-- Bytes that came in lie in no plug. -/
theorem bs_plB {w w2 : World} {pl : Value} {on : Bool} {fuse : Int} {A : Option Addr} {m : Nat} {ys : List Int} (hy : Bs w w.heap.size A m ys) (hp : PlAt w pl on fuse) (hb : Buts (plB pl) w w2) : Bs w2 w2.heap.size A m ys := by
  refine ⟨hy.1, fun h0 => ?_⟩
  obtain ⟨b, o, rfl, hlt, hc⟩ := hy.2 h0
  refine ⟨b, o, rfl, Nat.lt_of_lt_of_le hlt hb.size, fun j hj => ?_⟩
  have hn : b ∉ plB pl := by
    intro hk
    rcases hp with ⟨gp, rfl, hp⟩ | ⟨rfl, _⟩
    · simp [plB] at hk
      subst hk
      have h1 := hc 0 h0
      rw [cell_of_row w b (o + 0) _ _ (0, 0) (show w.heap[b]? = some (.cells #[.bool on, .int .i64 fuse] 77 (0, 0)) from hp)] at h1
      match o, h1 with
      | 0, h1 => simp at h1
      | 1, h1 => simp at h1
      | o + 2, h1 => simp at h1
    · simp [plB] at hk
  rw [← hc j hj]
  unfold World.cell?
  rw [hb.block b hlt hn]
/-- What Append refuses. -/
def appE (fe : Int) (k m : Nat) : Int := if fe = 0 then (if 1048576 < k + m then 10 else 0) else fe
set_option maxRecDepth 100000 in
set_option maxHeartbeats 1000000 in
theorem append_any (w : World) (B gd mb : Nat) (pl : Value) (on : Bool) (fuse : Int) (fs : Fs) (n : Nm) (A : Option Addr) (m c : Nat) (ys : List Int) (hB : B ≤ w.heap.size) (hy : Bs w w.heap.size A m ys) (hm : m ≤ 1000000000) (h : DiskAt w B gd pl mb fs) (hp : PlAt w pl on fuse) (hf : isI fuse) :
    Calls Try.prog 28 #[ptr gd, encStr n, .slice A m c] w fun e w' => e = .returned (.int .i64 (dE (appE (findR fs n [] on).2 (findR fs n [] on).1.n m) on fuse)) ∧
      ActedP w w' B gd pl mb (appE (findR fs n [] on).2 (findR fs n [] on).1.n m) on fuse fs (fun fs' => ∃ f' : FV, fs' = putF fs n f' ∧ f'.n = (findR fs n [] on).1.n + m ∧ f'.xs = (findR fs n [] on).1.xs ++ ys ∧ f'.kept = (findR fs n [] on).1.kept) := by
  have HFD := fun (w1 : World) (b : Below w.heap.size w w1) => find_one w1 gd mb pl on fuse fs n (Row.later h.row b) (hp.later b) (h.map.later b)
  obtain ⟨ff, fe, hfr⟩ : ∃ ff fe, findR fs n [] on = (ff, fe) := ⟨_, _, rfl⟩
  rw [hfr] at HFD ⊢
  have hcs : (fe = 0 ∧ ff.n ≤ 1048576 ∧ ((decide ((1048576 : Int) < (ff.n : Int) + (m : Int)) = true ∧ appE fe ff.n m = 10) ∨ (decide ((1048576 : Int) < (ff.n : Int) + (m : Int)) = false ∧ appE fe ff.n m = 0))) ∨ (decide (fe = 0) = false ∧ appE fe ff.n m = fe) := by
    by_cases he : fe = 0
    · subst he
      obtain ⟨hat, _⟩ := findR_ok hfr
      refine .inl ⟨rfl, (h.files.bd _ (atF_mem hat)).2.2, ?_⟩
      by_cases hq : 1048576 < ff.n + m
      · exact .inl ⟨by simp; omega, by simp [appE, hq]⟩
      · exact .inr ⟨by simp; omega, by simp [appE, hq]⟩
    · exact .inr ⟨by simp [he], by simp [appE, he]⟩
  have HC : ∀ (w1 : World) (gA gB gC gF : Nat) (b : Below w.heap.size w w1) (rA : BoxD w1 gA gd) (pA : w.heap.size ≤ gA) (rB : BoxS w1 gB n) (pB : w.heap.size ≤ gB) (rC : Row w1 35 gC [.slice A m c]) (pC : w.heap.size ≤ gC) (rF : BoxF w1 gF ff) (pF : w.heap.size ≤ gF),
      Calls Try.prog 56 #[ptr gd, .int .i64 (appE fe ff.n m), .func (.func 59) #[] #[ptr gF, ptr gC, ptr gA, ptr gB]] w1 fun en w' => en = .returned (.int .i64 (dE (appE fe ff.n m) on fuse)) ∧ ActedP w1 w' B gd pl mb (appE fe ff.n m) on fuse fs (fun fs' => ∃ f' : FV, fs' = putF fs n f' ∧ f'.n = ff.n + m ∧ f'.xs = ff.xs ++ ys ∧ f'.kept = ff.kept) := by
    intro w1 gA gB gC gF b rA pA rB pB rC pC rF pF
    refine change_allP w1 B gd mb pl _ _ _ on fuse fs _ (h.later b) (hp.later b) hf Try.call59 (fun he w2 hD b2 => ?_)
    have hfe : fe = 0 ∧ ff.n + m ≤ 1048576 := by
      unfold appE at he
      split at he
      · split at he
        · cases he
        · exact ⟨by assumption, by omega⟩
      · exact absurd he (by assumption)
    obtain ⟨rfl, hle⟩ := hfe
    obtain ⟨hat, hlen⟩ := findR_ok hfr
    have hn := hlen n (by simp)
    have hmem := atF_mem hat
    have hsm : (atF fs n).isSome = true := by rw [hat]; rfl
    have hB2 : B ≤ w2.heap.size := Nat.le_trans hB (Nat.le_trans b.size b2.size)
    refine (appendC_any w2 B gF gC gA gB gd mb pl fs n ff A m c ys hn hB2 (hD.files.own _ hmem) ?_ (by omega) (Row.buts rF b2 (not_plB hp pF)) (Row.buts rC b2 (not_plB hp pC)) (Row.buts rA b2 (not_plB hp pA)) (Row.buts rB b2 (not_plB hp pB)) hD.row hD.map hD.few).mono ?_
    · exact bs_plB (hy.later b) (hp.later b) b2
    · rintro e w3 ⟨rfl, f', hM, m3, b3⟩
      obtain ⟨e1, e2, e3, hof, hloc⟩ := hM
      have hk := h.files.bd _ hmem
      have hnew : ∀ k ∈ f'.bk, k ∈ ff.bk ∨ w2.heap.size ≤ k := fun k hk => by
        rcases hloc with e | e
        · exact .inl (by rw [FV.bk, ← e]; exact hk)
        · exact .inr (e k hk)
      have hS : ∀ p ∈ delF fs n, ∀ k ∈ p.2.bk, k ∉ mb :: ff.bk := fun p hp k hk1 hk2 => by
        have hp2 := List.mem_filter.1 hp
        rcases List.mem_cons.1 hk2 with e | hk2
        · subst e; exact owf_not_map (hD.files.own p hp2.1) hD.map hk1
        · exact hD.files.two hp2.1 hmem (by simpa using hp2.2) k hk1 hk2
      have hF3 : FilesAt w3 B (delF fs n) := (hD.files.del n).buts b3 hS
      have hdis : ∀ p ∈ delF fs n, p.1 ≠ n → ∀ k ∈ p.2.bk, k ∉ f'.bk := fun p hp _ k hk1 hk2 => by
        have hp2 := List.mem_filter.1 hp
        rcases hnew k hk2 with hk3 | hk3
        · exact hS p hp k hk1 (List.mem_cons_of_mem _ hk3)
        · have := (owf_lo (hD.files.own p hp2.1) k hk1).2.1
          omega
      have hput : putF (delF fs n) n f' = putF fs n f' := by
        unfold putF delF
        rw [List.filter_filter]
        simp
      refine ⟨rfl, putF fs n f', ⟨f', rfl, by rw [e1, hy.1], e2, e3⟩, ⟨Row.buts hD.row b3 ?_, hD.lo, ?_, ?_, Nat.le_trans (put_len' f' hsm) hD.few⟩, b3.sub ?_, ?_⟩
      · intro hk2
        rcases List.mem_cons.1 hk2 with e | hk2
        · exact hD.map.ne_row hD.row e.symm
        · exact owf_not_row (hD.files.own _ hmem) hD.row (by decide) hk2
      · show MapAt w3 mb (ents (putF fs n f'))
        rw [ents_put]
        exact m3
      · rw [← hput]
        exact hF3.put hof ⟨by rw [e3]; exact hk.1, by rw [e3, e1]; have : ff.kept ≤ (ff.n : Int) := hk.2.1; omega, by rw [e1, hy.1]; omega⟩ hdis
      · intro k hk2
        rcases List.mem_cons.1 hk2 with e | hk2
        · exact mem_dblocks.2 (.inr (.inl e))
        · exact mem_dblocks.2 (.inr (.inr ⟨_, hmem, hk2⟩))
      · intro k hk2
        rcases mem_dblocks.1 hk2 with e | e | ⟨p, hp2, hk3⟩
        · exact .inl (mem_dblocks.2 (.inl e))
        · exact .inl (mem_dblocks.2 (.inr (.inl e)))
        · rcases mem_put hp2 with rfl | ⟨hp2, _⟩
          · exact (hnew k hk3).imp (fun q => mem_dblocks.2 (.inr (.inr ⟨_, hmem, q⟩))) id
          · exact .inl (mem_dblocks.2 (.inr (.inr ⟨p, hp2, hk3⟩)))
  have HC := hide HC
  have HFD := hide HFD
  clear h hp hfr hy
  generalize appE fe ff.n m = e0 at *
  rcases hcs with ⟨rfl, hle, ⟨hd, rfl⟩ | ⟨hd, rfl⟩⟩ | ⟨hd, he⟩
  · have hw : wrap64 ((ff.n : Int) + (m : Int)) = (ff.n : Int) + (m : Int) := by unfold wrap64; omega
    go_enter Try.func28, Try.ntmps28
    go_wp2_with (first
      | ((with_reducible refine wl_box rfl 27 _ (ptr gd) [ptr gd] rfl rfl rfl ?_); intro gA wgA rgA pgA lgA bgA; have bX := bgA)
      | ((with_reducible refine wl_box rfl 9 _ (encStr n) [encStr n] rfl rfl rfl ?_); intro gB wgB rgB pgB lgB bgB; have bX0 := bX; have pgB := Nat.le_trans bX0.size pgB; have bX := bX.trans (bgB.mono bX.size); have rgA := Row.later rgA bgB)
      | ((with_reducible refine wl_box rfl 35 _ (.slice A m c) [.slice A m c] rfl rfl rfl ?_); intro gC wgC rgC pgC lgC bgC; have bX0 := bX; have pgC := Nat.le_trans bX0.size pgC; have bX := bX.trans (bgC.mono bX.size); have rgA := Row.later rgA bgC; have rgB := Row.later rgB bgC)
      | (with_reducible refine wl_load rfl 27 _ gA 0 27 _ (ptr gd) rfl Try.isAgg27 rfl rgA rfl ?_)
      | (with_reducible refine wl_load rfl 9 _ gB 0 9 _ (encStr n) rfl Try.isAgg9 rfl rgB rfl ?_)
      | (with_reducible refine wl_load rfl 35 _ gC 0 35 _ (.slice A m c) rfl Try.isAgg35 rfl rgC rfl ?_))
    refine (HFD.out wgC bX).mono ?_
    rintro en w4 ⟨rfl, b4⟩
    have rgA := Row.later rgA b4
    have rgB := Row.later rgB b4
    have rgC := Row.later rgC b4
    have cgA := rgA.cell (j := 0) rfl
    have cgB := rgB.cell (j := 0) rfl
    have cgC := rgC.cell (j := 0) rfl
    have bX := bX.trans (b4.mono bX.size)
    clear HFD b4 bgA lgA bgB lgB bgC lgC
    go_wp2_with (first
      | ((with_reducible refine wl_alloc rfl 86 _ [.slice none 0 0, .int .i64 0] rfl zFile rfl ?_); intro gF w5 rF pF lF bF; clear cgA; have rgA := Row.later rgA bF; clear cgB; have rgB := Row.later rgB bF; clear cgC; have rgC := Row.later rgC bF; have pF := Nat.le_trans bX.size pF; have bX := bX.trans (bF.mono bX.size))
      | ((with_reducible refine wl_store_row rfl 86 (.tmp 7) (.tmp 13) gF 86 _ [.slice ff.A ff.n ff.c, .int .i64 ff.kept] rfl rfl rfl rF (szFile ff) rfl (one_file ff) ?_); intro w6 r6 o6; have rgA := rgA.only o6 (rne rgA rF (by decide)); have rgB := rgB.only o6 (rne rgB rF (by decide)); have rgC := rgC.only o6 (rne rgC rF (by decide)); have bX := bX.trans (o6.below pF); have cgA := rgA.cell (j := 0) rfl; have cgB := rgB.cell (j := 0) rfl; have cgC := rgC.cell (j := 0) rfl; have cF0 := r6.cell (j := 0) rfl))
    refine (HC.out w6 gA gB gC gF bX rgA pgA rgB pgB rgC pgC r6 pF).mono ?_
    rintro en w7 ⟨rfl, h7⟩
    go_wp2_with fail
    go_ret
    exact ⟨rfl, h7.from bX⟩
  · have hw : wrap64 ((ff.n : Int) + (m : Int)) = (ff.n : Int) + (m : Int) := by unfold wrap64; omega
    go_enter Try.func28, Try.ntmps28
    go_wp2_with (first
      | ((with_reducible refine wl_box rfl 27 _ (ptr gd) [ptr gd] rfl rfl rfl ?_); intro gA wgA rgA pgA lgA bgA; have bX := bgA)
      | ((with_reducible refine wl_box rfl 9 _ (encStr n) [encStr n] rfl rfl rfl ?_); intro gB wgB rgB pgB lgB bgB; have bX0 := bX; have pgB := Nat.le_trans bX0.size pgB; have bX := bX.trans (bgB.mono bX.size); have rgA := Row.later rgA bgB)
      | ((with_reducible refine wl_box rfl 35 _ (.slice A m c) [.slice A m c] rfl rfl rfl ?_); intro gC wgC rgC pgC lgC bgC; have bX0 := bX; have pgC := Nat.le_trans bX0.size pgC; have bX := bX.trans (bgC.mono bX.size); have rgA := Row.later rgA bgC; have rgB := Row.later rgB bgC)
      | (with_reducible refine wl_load rfl 27 _ gA 0 27 _ (ptr gd) rfl Try.isAgg27 rfl rgA rfl ?_)
      | (with_reducible refine wl_load rfl 9 _ gB 0 9 _ (encStr n) rfl Try.isAgg9 rfl rgB rfl ?_)
      | (with_reducible refine wl_load rfl 35 _ gC 0 35 _ (.slice A m c) rfl Try.isAgg35 rfl rgC rfl ?_))
    refine (HFD.out wgC bX).mono ?_
    rintro en w4 ⟨rfl, b4⟩
    have rgA := Row.later rgA b4
    have rgB := Row.later rgB b4
    have rgC := Row.later rgC b4
    have cgA := rgA.cell (j := 0) rfl
    have cgB := rgB.cell (j := 0) rfl
    have cgC := rgC.cell (j := 0) rfl
    have bX := bX.trans (b4.mono bX.size)
    clear HFD b4 bgA lgA bgB lgB bgC lgC
    go_wp2_with (first
      | ((with_reducible refine wl_alloc rfl 86 _ [.slice none 0 0, .int .i64 0] rfl zFile rfl ?_); intro gF w5 rF pF lF bF; clear cgA; have rgA := Row.later rgA bF; clear cgB; have rgB := Row.later rgB bF; clear cgC; have rgC := Row.later rgC bF; have pF := Nat.le_trans bX.size pF; have bX := bX.trans (bF.mono bX.size))
      | ((with_reducible refine wl_store_row rfl 86 (.tmp 7) (.tmp 13) gF 86 _ [.slice ff.A ff.n ff.c, .int .i64 ff.kept] rfl rfl rfl rF (szFile ff) rfl (one_file ff) ?_); intro w6 r6 o6; have rgA := rgA.only o6 (rne rgA rF (by decide)); have rgB := rgB.only o6 (rne rgB rF (by decide)); have rgC := rgC.only o6 (rne rgC rF (by decide)); have bX := bX.trans (o6.below pF); have cgA := rgA.cell (j := 0) rfl; have cgB := rgB.cell (j := 0) rfl; have cgC := rgC.cell (j := 0) rfl; have cF0 := r6.cell (j := 0) rfl))
    refine (HC.out w6 gA gB gC gF bX rgA pgA rgB pgB rgC pgC r6 pF).mono ?_
    rintro en w7 ⟨rfl, h7⟩
    go_wp2_with fail
    go_ret
    exact ⟨rfl, h7.from bX⟩
  · subst he
    have hne : ¬ e0 = 0 := by simpa using hd
    have hb0 : (e0 == 0) = false := by simpa using hne
    go_enter Try.func28, Try.ntmps28
    go_wp2_with (first
      | ((with_reducible refine wl_box rfl 27 _ (ptr gd) [ptr gd] rfl rfl rfl ?_); intro gA wgA rgA pgA lgA bgA; have bX := bgA)
      | ((with_reducible refine wl_box rfl 9 _ (encStr n) [encStr n] rfl rfl rfl ?_); intro gB wgB rgB pgB lgB bgB; have bX0 := bX; have pgB := Nat.le_trans bX0.size pgB; have bX := bX.trans (bgB.mono bX.size); have rgA := Row.later rgA bgB)
      | ((with_reducible refine wl_box rfl 35 _ (.slice A m c) [.slice A m c] rfl rfl rfl ?_); intro gC wgC rgC pgC lgC bgC; have bX0 := bX; have pgC := Nat.le_trans bX0.size pgC; have bX := bX.trans (bgC.mono bX.size); have rgA := Row.later rgA bgC; have rgB := Row.later rgB bgC)
      | (with_reducible refine wl_load rfl 27 _ gA 0 27 _ (ptr gd) rfl Try.isAgg27 rfl rgA rfl ?_)
      | (with_reducible refine wl_load rfl 9 _ gB 0 9 _ (encStr n) rfl Try.isAgg9 rfl rgB rfl ?_)
      | (with_reducible refine wl_load rfl 35 _ gC 0 35 _ (.slice A m c) rfl Try.isAgg35 rfl rgC rfl ?_))
    refine (HFD.out wgC bX).mono ?_
    rintro en w4 ⟨rfl, b4⟩
    have rgA := Row.later rgA b4
    have rgB := Row.later rgB b4
    have rgC := Row.later rgC b4
    have cgA := rgA.cell (j := 0) rfl
    have cgB := rgB.cell (j := 0) rfl
    have cgC := rgC.cell (j := 0) rfl
    have bX := bX.trans (b4.mono bX.size)
    clear HFD b4 bgA lgA bgB lgB bgC lgC
    go_wp2_with (first
      | ((with_reducible refine wl_alloc rfl 86 _ [.slice none 0 0, .int .i64 0] rfl zFile rfl ?_); intro gF w5 rF pF lF bF; clear cgA; have rgA := Row.later rgA bF; clear cgB; have rgB := Row.later rgB bF; clear cgC; have rgC := Row.later rgC bF; have pF := Nat.le_trans bX.size pF; have bX := bX.trans (bF.mono bX.size))
      | ((with_reducible refine wl_store_row rfl 86 (.tmp 7) (.tmp 13) gF 86 _ [.slice ff.A ff.n ff.c, .int .i64 ff.kept] rfl rfl rfl rF (szFile ff) rfl (one_file ff) ?_); intro w6 r6 o6; have rgA := rgA.only o6 (rne rgA rF (by decide)); have rgB := rgB.only o6 (rne rgB rF (by decide)); have rgC := rgC.only o6 (rne rgC rF (by decide)); have bX := bX.trans (o6.below pF); have cgA := rgA.cell (j := 0) rfl; have cgB := rgB.cell (j := 0) rfl; have cgC := rgC.cell (j := 0) rfl; have cF0 := r6.cell (j := 0) rfl))
    refine (HC.out w6 gA gB gC gF bX rgA pgA rgB pgB rgC pgC r6 pF).mono ?_
    rintro en w7 ⟨rfl, h7⟩
    go_wp2_with fail
    go_ret
    exact ⟨rfl, h7.from bX⟩
set_option maxRecDepth 100000 in
theorem read_any (w : World) (B gd mb : Nat) (pl : Value) (on : Bool) (fuse : Int) (fs : Fs) (n : Nm) (h : DiskAt w B gd pl mb fs) (hp : PlAt w pl on fuse) :
    Calls Try.prog 31 #[ptr gd, encStr n] w fun e w' => ∃ A' c', e = .returned (.tuple #[.slice A' (findR fs n [] on).1.n c', .int .i64 (findR fs n [] on).2]) ∧ w'.ownsRow w.heap.size 5 1 (.slice A' (findR fs n [] on).1.n c') (findR fs n [] on).1.n (bv (findR fs n [] on).1.xs) ∧ Below w.heap.size w w' := by
  have HFD := find_one w gd mb pl on fuse fs n h.row hp h.map
  obtain ⟨ff, fe, hfr⟩ : ∃ ff fe, findR fs n [] on = (ff, fe) := ⟨_, _, rfl⟩
  rw [hfr] at HFD ⊢
  have hbs : Bs w w.heap.size ff.A ff.n ff.xs ∧ ff.n ≤ 140737488355328 := by
    by_cases he : fe = 0
    · subst he
      obtain ⟨hat, _⟩ := findR_ok hfr
      have hm := atF_mem hat
      exact ⟨owf_bs (h.files.own _ hm), Nat.le_trans (h.files.bd _ hm).2.2 (by decide)⟩
    · have := findR_err hfr he
      rw [this]
      exact ⟨Bs.nil_, by decide⟩
  have HFD := hide HFD
  clear h hp hfr
  go_enter Try.func31, Try.ntmps31
  go_wp2_with fail
  refine HFD.out.mono ?_
  rintro en w4 ⟨rfl, b4⟩
  clear HFD
  go_wp2_with (first
    | ((with_reducible refine wl_alloc rfl 86 _ [.slice none 0 0, .int .i64 0] rfl zFile rfl ?_); intro gF w5 rF pF lF bF)
    | ((with_reducible refine wl_store_row rfl 86 (.tmp 6) (.tmp 12) gF 86 _ [.slice ff.A ff.n ff.c, .int .i64 ff.kept] rfl rfl rfl rF (szFile ff) rfl (one_file ff) ?_); intro w6 r6 o6; have cF0 := r6.cell (j := 0) rfl))
  have b6 : Below w.heap.size w w6 := (b4.trans (bF.mono b4.size)).trans (o6.below (Nat.le_trans b4.size pF))
  refine (cloneF ff.A ff.n ff.c ff.xs w6 (hbs.1.later b6) hbs.2).mono ?_
  rintro en w7 ⟨A7, c7, rfl, own7, b7⟩
  go_wp2_with fail
  go_ret2
  exact ⟨A7, c7, rfl, owb_low own7 b6.size, b6.trans (b7.mono b6.size)⟩
end Go.Proofs.Ytaflmiopaiigbaa

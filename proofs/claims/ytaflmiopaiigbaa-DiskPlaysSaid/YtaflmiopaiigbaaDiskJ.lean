/-
  The disk: Sync, Remove, Rename, Append, Read. Own work.
-/
import Derived.Test.YtaflmiopaiigbaaDiskI
import Derived.Test.YtaflmiopaiigbaaPackU
namespace Go.Proofs.Ytaflmiopaiigbaa
open Go.RowKit Go.Maps Go.ChangeMaps
set_option linter.unusedVariables false
set_option linter.unusedSimpArgs false
theorem pw_mem {α : Type} {R : α → α → Prop} {l : List α} (h : l.Pairwise R) {a b : α} (ha : a ∈ l) (hb : b ∈ l) : a = b ∨ R a b ∨ R b a := by
  induction h with
  | nil => cases ha
  | cons h1 h2 ih =>
    rcases List.mem_cons.1 ha with e | ha <;> rcases List.mem_cons.1 hb with e' | hb
    · exact .inl (e.trans e'.symm)
    · exact .inr (.inl (e ▸ h1 _ hb))
    · exact .inr (.inr (e' ▸ h1 _ ha))
    · exact ih ha hb
theorem FilesAt.two {w : World} {B : Nat} {fs : Fs} (h : FilesAt w B fs) {p q : Nm × FV} (hp : p ∈ fs) (hq : q ∈ fs) (hne : p.1 ≠ q.1) : ∀ k ∈ p.2.bk, k ∉ q.2.bk := by
  rcases pw_mem h.apart hp hq with e | hr | hr
  · exact absurd (congrArg Prod.fst e) hne
  · exact hr
  · exact fun k hk hk2 => hr k hk2 hk
theorem FilesAt.del {w : World} {B : Nat} {fs : Fs} (h : FilesAt w B fs) (n : Nm) : FilesAt w B (delF fs n) := ⟨fun p hp => h.own p (List.mem_filter.1 hp).1, fun p hp => h.bd p (List.mem_filter.1 hp).1, h.apart.sublist List.filter_sublist⟩
theorem DiskAt.turned {w w' : World} {B gd mb : Nat} {pl : Value} {fs fs' : Fs} (h : DiskAt w B gd pl mb fs) (hm : FMap w' mb fs') (hB : Buts [mb] w w') (hf : FilesAt w B fs') (hl : fs'.length ≤ 64) : DiskAt w' B gd pl mb fs' :=
  ⟨Row.buts h.row hB (fun e => h.map.ne_row h.row (List.mem_singleton.1 e).symm), h.lo, hm, hf.buts hB (fun p hp k hk hk2 => by simp at hk2; subst hk2; exact owf_not_map (hf.own p hp) h.map hk), hl⟩
theorem not_plB {w : World} {pl : Value} {on : Bool} {fuse : Int} {g : Nat} (hp : PlAt w pl on fuse) (hg : w.heap.size ≤ g) : g ∉ plB pl := by
  intro hk
  rcases hp with ⟨gp, rfl, hp⟩ | ⟨rfl, _⟩
  · simp [plB] at hk; have := hp.lt; omega
  · simp [plB] at hk
theorem findR_ok {fs : Fs} {n : Nm} {ns : List Nm} {on : Bool} {f : FV} (h : findR fs n ns on = (f, 0)) : atF fs n = some f ∧ ∀ m ∈ n :: ns, m.length ≤ maxLen := by
  unfold findR at h
  by_cases hr : refE (n :: ns) on = 0
  · rw [if_pos hr] at h
    refine ⟨?_, fun m hm => ?_⟩
    · cases hq : atF fs n with
      | none => rw [hq] at h; simp at h
      | some g => rw [hq] at h; simp at h; rw [h]
    · rcases refE_cases (n :: ns) on with ⟨_, ho⟩ | h1 | h1
      · exact okN_le (List.all_eq_true.1 ho m hm)
      · rw [hr] at h1; cases h1
      · rw [hr] at h1; cases h1
  · rw [if_neg hr] at h
    simp at h
    exact absurd h.2 hr
theorem findR_err {fs : Fs} {n : Nm} {ns : List Nm} {on : Bool} {f : FV} {e : Int} (h : findR fs n ns on = (f, e)) (he : e ≠ 0) : f = zV := by
  rcases findR_cases fs n ns on with ⟨_, _, ⟨g, _, h1⟩ | ⟨_, h1⟩⟩ | ⟨_, h1⟩ | ⟨_, h1⟩ <;> rw [h1] at h <;> simp at h
  · exact absurd h.2.symm he
  · exact h.1.symm
  · exact h.1.symm
  · exact h.1.symm
set_option maxRecDepth 100000 in
/-- A copy is a row of its own. -/
theorem cloneF (A : Option Addr) (n c : Nat) (xs : List Int) (w : World) (h : Bs w w.heap.size A n xs) (hn : n ≤ 140737488355328) :
    Calls Try.prog 14 #[.slice A n c] w fun e w' => ∃ A' c', e = .returned (.slice A' n c') ∧ w'.ownsRow w.heap.size 5 1 (.slice A' n c') n (bv xs) ∧ Below w.heap.size w w' := by
  have q : ∀ (w : World) (a : Option Addr) (n c n' c' : Nat), (binOp .eql 35 (.slice a n c) (.slice none n' c')).run Try.prog w = .ok (.bool a.isNone) w := fun w a n c n' c' => Lib.run_eql_slice_nil w _ _ a n c n' c' Try.underlying35
  obtain ⟨i0, hi, hz, hsz, hby⟩ := byte_info
  rcases A with _ | ad
  · have h0 : n = 0 := by
      rcases Nat.eq_zero_or_pos n with h0 | h0
      · exact h0
      · obtain ⟨_, _, h, _⟩ := h.2 h0; cases h
    subst h0
    obtain rfl : xs = [] := List.eq_nil_of_length_eq_zero h.1
    go_enter Try.func14, Try.ntmps14
    go_wp2
    go_ret
    exact ⟨none, 0, rfl, World.ownsRow_nil _ _ _ _, Below.refl _ _⟩
  · have hown := World.ownsRow_lit (base := w.heap.size) (e := 5) (size := 1) w #[] 0 (Nat.le_refl _) (by simp) rfl
    go_enter Try.func14, Try.ntmps14
    go_wp2_with (at_builtin; refine wpList_append_bs rfl (.tmp 5) (.tmp 6) _ rfl w.heap.size 5 i0 Try.underlying35 hi hz hsz hby (.slice (some ⟨w.heap.size, 0, none⟩) 0 0) 0 [] rfl hown w.heap.size (some ad) n c xs rfl (h.below ((Below.refl _ _).alloc (Nat.le_refl _) _)) (by omega) (by simp) ?_; intro v1 w1 hown1 hg1)
    go_ret
    have hb := grown_below ((Below.refl _ _).alloc (Nat.le_refl _) _) hown (Nat.le_refl _) hg1
    rw [Nat.zero_add, List.nil_append] at hown1
    rcases hown1.2 with ⟨rfl, h0⟩ | ⟨g, cap, cur, rfl, _⟩
    · subst h0; exact ⟨none, 0, rfl, hown1, hb⟩
    · exact ⟨some ⟨g, 0, none⟩, cap, rfl, hown1, hb⟩
theorem rne {w : World} {t t' g g' : Nat} {vs vs' : List Value} (h : Row w t g vs) (h' : Row w t' g' vs') (ht : t ≠ t') : g ≠ g' := by
  intro e
  subst e
  have := h.symm.trans h'
  simp at this
  exact ht this.2
set_option maxRecDepth 100000 in
theorem sync_any (w : World) (B gd mb : Nat) (pl : Value) (on : Bool) (fuse : Int) (fs : Fs) (n : Nm) (h : DiskAt w B gd pl mb fs) (hp : PlAt w pl on fuse) (hf : isI fuse) :
    Calls Try.prog 29 #[ptr gd, encStr n] w fun e w' => e = .returned (.int .i64 (dE ((findR fs n [] on).2) on fuse)) ∧ Acted w w' B gd pl mb ((findR fs n [] on).2) on fuse fs (putF fs n { (findR fs n [] on).1 with kept := ((findR fs n [] on).1.n : Int) }) := by
  obtain ⟨i0, hi, hz, hs, hb⟩ := str_info
  have HFD := fun (w1 : World) (b : Below w.heap.size w w1) => find_one w1 gd mb pl on fuse fs n (Row.later h.row b) (hp.later b) (h.map.later b)
  obtain ⟨ff, fe, hfr⟩ : ∃ ff fe, findR fs n [] on = (ff, fe) := ⟨_, _, rfl⟩
  rw [hfr] at HFD ⊢
  have HC : ∀ (w1 : World) (gA gB gF : Nat) (b : Below w.heap.size w w1) (rgA : Row w1 27 gA [ptr gd]) (pgA : w.heap.size ≤ gA) (rgB : Row w1 9 gB [encStr n]) (pgB : w.heap.size ≤ gB) (rF : BoxF w1 gF ff) (pF : w.heap.size ≤ gF), Calls Try.prog 56 #[ptr gd, .int .i64 fe, .func (.func 60) #[] #[ptr gF, ptr gA, ptr gB]] w1 fun en w' => en = .returned (.int .i64 (dE fe on fuse)) ∧ Acted w1 w' B gd pl mb fe on fuse fs (putF fs n { ff with kept := (ff.n : Int) }) := by
    intro w1 gA gB gF b rgA pgA rgB pgB rF pF
    refine change_all w1 B gd mb pl _ _ _ on fuse fs _ (h.later b) (hp.later b) hf Try.call60 (fun he w2 hD b2 => ?_)
    subst he
    obtain ⟨hat, hlen⟩ := findR_ok hfr
    have hn := hlen n (by simp)
    have hmem := atF_mem hat
    have hsm : (atF fs n).isSome = true := by rw [hat]; rfl
    have rgA := Row.buts rgA b2 (not_plB hp pgA)
    have rgB := Row.buts rgB b2 (not_plB hp pgB)
    have rF := Row.buts rF b2 (not_plB hp pF)
    refine (syncC_any w2 gF gA gB gd mb pl fs n ff hn rF rgA rgB hD.row hD.map hD.few).mono ?_
    rintro e w3 ⟨rfl, m3, b3⟩
    have hk := h.files.bd _ hmem
    exact ⟨rfl, hD.stored (f := { ff with kept := (ff.n : Int) }) m3 b3 (hD.files.own _ hmem) ⟨by show (0 : Int) ≤ (ff.n : Int); omega, Int.le_refl _, hk.2.2⟩ (fun p hp hne => hD.files.two hp hmem hne) (.inl hsm), b3.sub (fun k hk => by simp at hk; subst hk; exact mem_dblocks.2 (.inr (.inl rfl)))⟩
  have HC := hide HC
  have HFD := hide HFD
  clear h hp hfr
  go_enter Try.func29, Try.ntmps29
  go_wp2_with (first
    | ((with_reducible refine wl_box rfl 27 _ (ptr gd) [ptr gd] rfl rfl rfl ?_); intro gA wgA rgA pgA lgA bgA; have bX := bgA)
    | ((with_reducible refine wl_box rfl 9 _ (encStr n) [encStr n] rfl rfl rfl ?_); intro gB wgB rgB pgB lgB bgB; have bX0 := bX; have pgB := Nat.le_trans bX0.size pgB; have bX := bX.trans (bgB.mono bX.size); have rgA := Row.later rgA bgB)
    | (with_reducible refine wl_load rfl 27 _ gA 0 27 _ (ptr gd) rfl Try.isAgg27 rfl rgA rfl ?_)
    | (with_reducible refine wl_load rfl 9 _ gB 0 9 _ (encStr n) rfl Try.isAgg9 rfl rgB rfl ?_))
  refine (HFD.out wgB bX).mono ?_
  rintro en w4 ⟨rfl, b4⟩
  have rgA := Row.later rgA b4
  have rgB := Row.later rgB b4
  have cgA := rgA.cell (j := 0) rfl
  have cgB := rgB.cell (j := 0) rfl
  have bX := bX.trans (b4.mono bX.size)
  clear HFD b4 bgA lgA bgB lgB
  go_wp2_with (first
    | ((with_reducible refine wl_alloc rfl 86 _ [.slice none 0 0, .int .i64 0] rfl zFile rfl ?_); intro gF w5 rF pF lF bF; clear cgA; have rgA := Row.later rgA bF; clear cgB; have rgB := Row.later rgB bF; have pF := Nat.le_trans bX.size pF; have bX := bX.trans (bF.mono bX.size))
    | ((with_reducible refine wl_store_row rfl 86 (.tmp 5) (.tmp 11) gF 86 _ [.slice ff.A ff.n ff.c, .int .i64 ff.kept] rfl rfl rfl rF (szFile ff) rfl (one_file ff) ?_); intro w6 r6 o6; have rgA := rgA.only o6 (rne rgA rF (by decide)); have rgB := rgB.only o6 (rne rgB rF (by decide)); have bX := bX.trans (o6.below pF); have cgA := rgA.cell (j := 0) rfl; have cgB := rgB.cell (j := 0) rfl; have cF0 := r6.cell (j := 0) rfl))
  refine (HC.out w6 gA gB gF bX rgA pgA rgB pgB r6 pF).mono ?_
  rintro en w7 ⟨rfl, h7⟩
  go_wp2_with fail
  go_ret
  exact ⟨rfl, h7.from bX⟩

theorem DiskAt.dropped {w w' : World} {B gd mb : Nat} {pl : Value} {fs : Fs} {n : Nm} (h : DiskAt w B gd pl mb fs) (hm : MapAt w' mb (delE (ents fs) n)) (hB : Buts [mb] w w') : DiskAt w' B gd pl mb (delF fs n) :=
  h.turned (by show MapAt w' mb (ents (delF fs n)); rw [ents_del]; exact hm) hB (h.files.del n) (Nat.le_trans (List.length_filter_le _ _) h.few)
set_option maxRecDepth 100000 in
theorem remove_any (w : World) (B gd mb : Nat) (pl : Value) (on : Bool) (fuse : Int) (fs : Fs) (n : Nm) (h : DiskAt w B gd pl mb fs) (hp : PlAt w pl on fuse) (hf : isI fuse) :
    Calls Try.prog 35 #[ptr gd, encStr n] w fun e w' => e = .returned (.int .i64 (dE ((findR fs n [] on).2) on fuse)) ∧ Acted w w' B gd pl mb ((findR fs n [] on).2) on fuse fs (delF fs n) := by
  obtain ⟨i0, hi, hz, hs, hb⟩ := str_info
  have HFD := fun (w1 : World) (b : Below w.heap.size w w1) => find_one w1 gd mb pl on fuse fs n (Row.later h.row b) (hp.later b) (h.map.later b)
  obtain ⟨ff, fe, hfr⟩ : ∃ ff fe, findR fs n [] on = (ff, fe) := ⟨_, _, rfl⟩
  rw [hfr] at HFD ⊢
  have HC : ∀ (w1 : World) (gA gB gF : Nat) (b : Below w.heap.size w w1) (rgA : Row w1 27 gA [ptr gd]) (pgA : w.heap.size ≤ gA) (rgB : Row w1 9 gB [encStr n]) (pgB : w.heap.size ≤ gB) (rF : BoxF w1 gF ff) (pF : w.heap.size ≤ gF), Calls Try.prog 56 #[ptr gd, .int .i64 fe, .func (.func 65) #[] #[ptr gA, ptr gB]] w1 fun en w' => en = .returned (.int .i64 (dE fe on fuse)) ∧ Acted w1 w' B gd pl mb fe on fuse fs (delF fs n) := by
    intro w1 gA gB gF b rgA pgA rgB pgB rF pF
    refine change_all w1 B gd mb pl _ _ _ on fuse fs _ (h.later b) (hp.later b) hf Try.call65 (fun he w2 hD b2 => ?_)
    subst he
    obtain ⟨hat, hlen⟩ := findR_ok hfr
    have hn := hlen n (by simp)
    have hmem := atF_mem hat
    have hsm : (atF fs n).isSome = true := by rw [hat]; rfl
    have rgA := Row.buts rgA b2 (not_plB hp pgA)
    have rgB := Row.buts rgB b2 (not_plB hp pgB)
    have rF := Row.buts rF b2 (not_plB hp pF)
    refine (removeC_any w2 gA gB gd mb pl fs n hn rgA rgB hD.row hD.map).mono ?_
    rintro e w3 ⟨rfl, m3, b3⟩
    exact ⟨rfl, hD.dropped m3 b3, b3.sub (fun k hk => by simp at hk; subst hk; exact mem_dblocks.2 (.inr (.inl rfl)))⟩
  have HC := hide HC
  have HFD := hide HFD
  clear h hp hfr
  go_enter Try.func35, Try.ntmps35
  go_wp2_with (first
    | ((with_reducible refine wl_box rfl 27 _ (ptr gd) [ptr gd] rfl rfl rfl ?_); intro gA wgA rgA pgA lgA bgA; have bX := bgA)
    | ((with_reducible refine wl_box rfl 9 _ (encStr n) [encStr n] rfl rfl rfl ?_); intro gB wgB rgB pgB lgB bgB; have bX0 := bX; have pgB := Nat.le_trans bX0.size pgB; have bX := bX.trans (bgB.mono bX.size); have rgA := Row.later rgA bgB)
    | (with_reducible refine wl_load rfl 27 _ gA 0 27 _ (ptr gd) rfl Try.isAgg27 rfl rgA rfl ?_)
    | (with_reducible refine wl_load rfl 9 _ gB 0 9 _ (encStr n) rfl Try.isAgg9 rfl rgB rfl ?_))
  refine (HFD.out wgB bX).mono ?_
  rintro en w4 ⟨rfl, b4⟩
  have rgA := Row.later rgA b4
  have rgB := Row.later rgB b4
  have cgA := rgA.cell (j := 0) rfl
  have cgB := rgB.cell (j := 0) rfl
  have bX := bX.trans (b4.mono bX.size)
  clear HFD b4 bgA lgA bgB lgB
  go_wp2_with (first
    | ((with_reducible refine wl_alloc rfl 86 _ [.slice none 0 0, .int .i64 0] rfl zFile rfl ?_); intro gF w5 rF pF lF bF; clear cgA; have rgA := Row.later rgA bF; clear cgB; have rgB := Row.later rgB bF; have pF := Nat.le_trans bX.size pF; have bX := bX.trans (bF.mono bX.size))
    | ((with_reducible refine wl_store_row rfl 86 (.tmp 5) (.tmp 11) gF 86 _ [.slice ff.A ff.n ff.c, .int .i64 ff.kept] rfl rfl rfl rF (szFile ff) rfl (one_file ff) ?_); intro w6 r6 o6; have rgA := rgA.only o6 (rne rgA rF (by decide)); have rgB := rgB.only o6 (rne rgB rF (by decide)); have bX := bX.trans (o6.below pF); have cgA := rgA.cell (j := 0) rfl; have cgB := rgB.cell (j := 0) rfl; have cF0 := r6.cell (j := 0) rfl))
  refine (HC.out w6 gA gB gF bX rgA pgA rgB pgB r6 pF).mono ?_
  rintro en w7 ⟨rfl, h7⟩
  go_wp2_with fail
  go_ret
  exact ⟨rfl, h7.from bX⟩

set_option maxRecDepth 100000 in
theorem rename_any (w : World) (B gd mb : Nat) (pl : Value) (on : Bool) (fuse : Int) (fs : Fs) (n n2 : Nm) (h : DiskAt w B gd pl mb fs) (hp : PlAt w pl on fuse) (hf : isI fuse) :
    Calls Try.prog 34 #[ptr gd, encStr n, encStr n2] w fun e w' => e = .returned (.int .i64 (dE ((findR fs n [n2] on).2) on fuse)) ∧ Acted w w' B gd pl mb ((findR fs n [n2] on).2) on fuse fs (putF (delF fs n) n2 (findR fs n [n2] on).1) := by
  obtain ⟨i0, hi, hz, hs, hb⟩ := str_info
  have HFD := fun (w1 : World) (b : Below w.heap.size w w1) (A : Option Addr) (c : Nat) (hN : NmsAt w1 A 1 [n2]) (hA : ∀ b o, A = some ⟨b, o, none⟩ → b < w1.heap.size) => find_two w1 gd mb pl on fuse fs n n2 A c hN hA (Row.later h.row b) (hp.later b) (h.map.later b)
  obtain ⟨ff, fe, hfr⟩ : ∃ ff fe, findR fs n [n2] on = (ff, fe) := ⟨_, _, rfl⟩
  rw [hfr] at HFD ⊢
  have HC : ∀ (w1 : World) (gA gB gT gF : Nat) (b : Below w.heap.size w w1) (rgA : Row w1 27 gA [ptr gd]) (pgA : w.heap.size ≤ gA) (rgB : Row w1 9 gB [encStr n]) (pgB : w.heap.size ≤ gB) (rgT : Row w1 9 gT [encStr n2]) (pgT : w.heap.size ≤ gT) (rF : BoxF w1 gF ff) (pF : w.heap.size ≤ gF), Calls Try.prog 56 #[ptr gd, .int .i64 fe, .func (.func 64) #[] #[ptr gA, ptr gB, ptr gF, ptr gT]] w1 fun en w' => en = .returned (.int .i64 (dE fe on fuse)) ∧ Acted w1 w' B gd pl mb fe on fuse fs (putF (delF fs n) n2 ff) := by
    intro w1 gA gB gT gF b rgA pgA rgB pgB rgT pgT rF pF
    refine change_all w1 B gd mb pl _ _ _ on fuse fs _ (h.later b) (hp.later b) hf Try.call64 (fun he w2 hD b2 => ?_)
    subst he
    obtain ⟨hat, hlen⟩ := findR_ok hfr
    have hn := hlen n (by simp)
    have hmem := atF_mem hat
    have hsm : (atF fs n).isSome = true := by rw [hat]; rfl
    have rgA := Row.buts rgA b2 (not_plB hp pgA)
    have rgB := Row.buts rgB b2 (not_plB hp pgB)
    have rgT := Row.buts rgT b2 (not_plB hp pgT)
    have rF := Row.buts rF b2 (not_plB hp pF)
    refine (renameC_any w2 gA gB gF gT gd mb pl fs n n2 ff hn (hlen n2 (by simp)) rgA rgB rF rgT hD.row hD.map hD.few).mono ?_
    rintro e w3 ⟨rfl, m3, b3⟩
    have hdl : (delF fs n).length < fs.length := List.length_filter_lt_length_iff_exists.2 ⟨_, hmem, by simp⟩
    have hpl := put_len (delF fs n) n2 ff
    have hfew := hD.few
    refine ⟨rfl, hD.turned (by show MapAt w3 mb (ents (putF (delF fs n) n2 ff)); rw [ents_put, ents_del]; exact m3) b3 ((hD.files.del n).put (hD.files.own _ hmem) (hD.files.bd _ hmem) (fun p hp _ => ?_)) (by omega), b3.sub (fun k hk => by simp at hk; subst hk; exact mem_dblocks.2 (.inr (.inl rfl)))⟩
    have hp2 := List.mem_filter.1 hp
    exact hD.files.two hp2.1 hmem (by simpa using hp2.2)
  have HC := hide HC
  have HFD := hide HFD
  clear h hp hfr
  go_enter Try.func34, Try.ntmps34
  go_wp2_with (first
    | ((with_reducible refine wl_box rfl 27 _ (ptr gd) [ptr gd] rfl rfl rfl ?_); intro gA wgA rgA pgA lgA bgA; have bX := bgA)
    | ((with_reducible refine wl_box rfl 9 _ (encStr n) [encStr n] rfl rfl rfl ?_); intro gB wgB rgB pgB lgB bgB; have bX0 := bX; have pgB := Nat.le_trans bX0.size pgB; have bX := bX.trans (bgB.mono bX.size); have rgA := Row.later rgA bgB)
    | ((with_reducible refine wl_box rfl 9 _ (encStr n2) [encStr n2] rfl rfl rfl ?_); intro gT wgT rgT pgT lgT bgT; have bX0 := bX; have pgT := Nat.le_trans bX0.size pgT; have bX := bX.trans (bgT.mono bX.size); have rgA := Row.later rgA bgT; have rgB := Row.later rgB bgT)
    | (with_reducible refine wl_load rfl 27 _ gA 0 27 _ (ptr gd) rfl Try.isAgg27 rfl rgA rfl ?_)
    | (with_reducible refine wl_load rfl 9 _ gB 0 9 _ (encStr n) rfl Try.isAgg9 rfl rgB rfl ?_)
    | (with_reducible refine wl_load rfl 9 _ gT 0 9 _ (encStr n2) rfl Try.isAgg9 rfl rgT rfl ?_)
    | ((with_reducible refine wl_build1 rfl 43 (.tmp 12) rfl 9 i0 (.string ByteArray.empty) (encStr n2) Try.underlying43 hi hz hs rfl rfl rfl ?_); intro g3 w3 r3 p3 l3 b3; have bX := bX.trans (b3.mono bX.size); have rgA := Row.later rgA b3; have rgB := Row.later rgB b3; have rgT := Row.later rgT b3))
  refine (HFD.out w3 bX (some ⟨g3, 0, none⟩) 1 (row_nms r3) (fun b o e => by cases e; exact l3)).mono ?_
  rintro en w4 ⟨rfl, b4⟩
  have rgA := Row.later rgA b4
  have rgB := Row.later rgB b4
  have rgT := Row.later rgT b4
  have cgA := rgA.cell (j := 0) rfl
  have cgB := rgB.cell (j := 0) rfl
  have cgT := rgT.cell (j := 0) rfl
  have bX := bX.trans (b4.mono bX.size)
  clear HFD b4 r3 l3 p3 b3 bgA lgA bgB lgB bgT lgT
  go_wp2_with (first
    | ((with_reducible refine wl_alloc rfl 86 _ [.slice none 0 0, .int .i64 0] rfl zFile rfl ?_); intro gF w5 rF pF lF bF; clear cgA; have rgA := Row.later rgA bF; clear cgB; have rgB := Row.later rgB bF; clear cgT; have rgT := Row.later rgT bF; have pF := Nat.le_trans bX.size pF; have bX := bX.trans (bF.mono bX.size))
    | ((with_reducible refine wl_store_row rfl 86 (.tmp 7) (.tmp 15) gF 86 _ [.slice ff.A ff.n ff.c, .int .i64 ff.kept] rfl rfl rfl rF (szFile ff) rfl (one_file ff) ?_); intro w6 r6 o6; have rgA := rgA.only o6 (rne rgA rF (by decide)); have rgB := rgB.only o6 (rne rgB rF (by decide)); have rgT := rgT.only o6 (rne rgT rF (by decide)); have bX := bX.trans (o6.below pF); have cgA := rgA.cell (j := 0) rfl; have cgB := rgB.cell (j := 0) rfl; have cgT := rgT.cell (j := 0) rfl; have cF0 := r6.cell (j := 0) rfl))
  refine (HC.out w6 gA gB gT gF bX rgA pgA rgB pgB rgT pgT r6 pF).mono ?_
  rintro en w7 ⟨rfl, h7⟩
  go_wp2_with fail
  go_ret
  exact ⟨rfl, h7.from bX⟩

end Go.Proofs.Ytaflmiopaiigbaa

/- Proved: the law DiskPlays (P9.1 to P9.4) answers true and leaves its argument as it read before. For every list of acts; no condition. -/
import Derived.Test.YtaflmiopaiigbaaRows
import Derived.WalkKit
import Derived.ProofKit
import Derived.OpenShut
import Derived.ShutString
import Derived.ChangeOld
import Derived.Below
import Derived.Test.YtaflmiopaiigbaaDiskZ
import Derived.Test.YtaflmiopaiigbaaGD
import Derived.Test.YtaflmiopaiigbaaDiskX
set_option linter.unusedVariables false
set_option linter.unusedSimpArgs false
/-
  The disk: Edit: what it stores is new. Own work.
-/
namespace Go.Proofs.Ytaflmiopaiigbaa
open Go.RowKit Go.Maps Go.ChangeMaps
def SEd2 (gd mb : Nat) (pl : Value) (n : Nm) (A : Option Addr) (m c : Nat) (opn : Nat) (v : Value) : Prop :=
  match opn with
  | 0 | 1 => v = ptr gd
  | 2 => v = .pointer (some ⟨gd, 1, none⟩)
  | 3 => v = .map (some mb)
  | 4 => v = encStr n
  | 5 => v = .slice A m c
  | _ => True

set_option maxRecDepth 100000 in
set_option maxHeartbeats 1000000 in
theorem edit_ok2 (w : World) (B gd mb : Nat) (pl : Value) (fs : Fs) (n : Nm) (A : Option Addr) (m c : Nat) (xs : List Int) (hB : B ≤ w.heap.size) (hD : DiskAt w B gd pl mb fs) (hy : Bs w w.heap.size A m xs) (hok : okN n = true) (hmax : m ≤ 1048576) (hroom : (atF fs n).isSome = true ∨ fs.length < 64) :
    Calls Try.prog 33 #[ptr gd, encStr n, .slice A m c] w fun e w' => e = .returned (.int .i64 0) ∧ ∃ A' c', DiskAt w' B gd pl mb (putF fs n ⟨A', m, c', xs, m⟩) ∧ Buts [mb] w w' ∧ ∀ k ∈ (FV.mk A' m c' xs (m : Int)).bk, w.heap.size ≤ k := by
  have hn := okN_le hok
  have hm : m ≤ 140737488355328 := Nat.le_trans hmax (by decide)
  have hd : decide ((1048576 : Int) < (m : Int)) = false := by simp; omega
  have hq : (!(atF fs n).isSome && decide (64 ≤ fs.length)) = false := by
    rcases hroom with h | h
    · rw [h]; rfl
    · have : decide (64 ≤ fs.length) = false := by simp; omega
      rw [this]; simp
  have HU := full_any w gd mb pl fs n hn hD.row hD.map
  rw [hq] at HU
  have HU := hide HU
  go_enter Try.func33, Try.ntmps33
  go_wp2_with fail
  refine (made_yes w gd mb pl hD.row).mono ?_
  rintro e w1 ⟨rfl, rfl⟩
  go_wp2_with fail
  refine (named_any n w).mono ?_
  rintro e w1 ⟨rfl, rfl⟩
  rw [hok]
  go_wp2_with fail
  refine HU.out.mono ?_
  rintro e w1 ⟨rfl, b1⟩
  have hD := hD.later b1
  have hy := hy.later b1
  have hB := Nat.le_trans hB b1.size
  have b01 := b1
  clear HU b1
  go_wp2_with fail
  rename_i K0 hK0
  refine wp_region_vals [6, 7, 8] (SEd2 gd mb pl n A m c) (JEd w1 m xs (fun w' => ∃ A' c', DiskAt w' B gd pl mb (putF fs n ⟨A', m, c', xs, m⟩) ∧ Buts [mb] w1 w' ∧ ∀ k ∈ (FV.mk A' m c' xs (m : Int)).bk, w1.heap.size ≤ k)) (by kernel_rfl) (by kernel_rfl) (by kernel_rfl) (by kernel_rfl) (by kernel_rfl) (JEd.start _ _ _ _ _) ?obsE ?heE
  case obsE =>
    refine ⟨?_, ?_, ?_, ?_, ?_, ?_, ?_, ?_, ?_, trivial⟩
    · exact .inl ⟨by kernel_rfl, fun L a1 w1 n' h => ⟨_, rfl, run_move (.tmp 0) rfl (h.var n' 0 (by kernel_rfl))⟩⟩
    · refine .inl ⟨by kernel_rfl, fun L a1 w1 n' h => ⟨ptr gd, rfl, ?_⟩⟩
      have e0 : a1.eval (.tmp 21) = _ := h.dep n' 0 21 (by kernel_rfl) rfl
      unfold execOp
      simp only [e0]
      go_simp
    · refine .inl ⟨by kernel_rfl, fun L a1 w1 n' h => ⟨.pointer (some ⟨gd, 1, none⟩), rfl, ?_⟩⟩
      have e0 : a1.eval (.tmp 22) = _ := h.dep n' 1 22 (by kernel_rfl) rfl
      unfold execOp
      simp only [e0]
      go_simp
    · exact .inl ⟨by kernel_rfl, fun L a1 w1 n' h => ⟨_, rfl, run_loadA 70 (.tmp 23) ⟨gd, 1, none⟩ rfl Try.isAgg70 (h.dep n' 2 23 (by kernel_rfl) rfl) ((Row.later hD.row (h.inv.1 ((bits_at rfl).trans (n'.later (by kernel_rfl))))).cell (j := 1) (v := .map (some mb)) rfl)⟩⟩
    · exact .inl ⟨by kernel_rfl, fun L a1 w1 n' h => ⟨_, rfl, run_move (.tmp 1) rfl (h.var n' 1 (by kernel_rfl))⟩⟩
    · exact .inl ⟨by kernel_rfl, fun L a1 w1 n' h => ⟨_, rfl, run_move (.tmp 2) rfl (h.var n' 2 (by kernel_rfl))⟩⟩
    · refine .inr fun L a1 w1 n' h K hK => ?_
      have no6 : L.getD 6 false = false := n'.not_yet
      have no7 : L.getD 7 false = false := n'.later (by kernel_rfl)
      have no8 : L.getD 8 false = false := n'.later (by kernel_rfl)
      have b9 := h.inv.1 ((bits_at rfl).trans no8)
      have y0 : a1.eval (.tmp 26) = .slice A m c := h.dep n' 5 26 (by kernel_rfl) rfl
      refine st_call 14 _ _ #[.slice A m c] rfl Try.call14 ?_ (cloneF A m c xs w1 (hy.later b9) hm) ?_
      · simp only [List.map_toArray, List.map_cons, List.map_nil, y0]
      · rintro e w3 ⟨A3, c3, rfl, own3, b3⟩
        exact ⟨_, rfl, hK _ w3 trivial ⟨fun _ => b9.trans (b3.mono b9.size), fun _ _ => ⟨A3, c3, rfl, own_lo own3 b9.size⟩, fun h0 => absurd (no7.symm.trans h0) (by decide), fun h0 => absurd (no8.symm.trans h0) (by decide)⟩⟩
    · refine .inr fun L a1 w1 n' h K hK => ?_
      have yes6 : L.getD 6 false = true := n'.dep (by kernel_rfl)
      have no8 : L.getD 8 false = false := n'.later (by kernel_rfl)
      have b9 := h.inv.1 ((bits_at rfl).trans no8)
      obtain ⟨A3, c3, ev, own3⟩ := h.inv.2.1 ((bits_at rfl).trans yes6) ((bits_at rfl).trans no8)
      have y0 : a1.eval (.tmp 27) = .slice A3 m c3 := ev
      refine st_call 61 _ _ #[.slice A3 m c3] rfl Try.call61 ?_ (whole_any w1 A3 m c3) ?_
      · simp only [List.map_toArray, List.map_cons, List.map_nil, y0]
      · rintro e w3 ⟨rfl, b3⟩
        exact ⟨_, rfl, hK _ w3 trivial ⟨fun _ => b9.trans (b3.mono b9.size), fun _ _ => ⟨A3, c3, ev, ownr_later own3 b3⟩, fun _ => ⟨A3, c3, ev, rfl⟩, fun h0 => absurd (no8.symm.trans h0) (by decide)⟩⟩
    · refine .inr fun L a1 w1 n' h K hK => ?_
      have yes6 : L.getD 6 false = true := n'.dep (by kernel_rfl)
      have yes7 : L.getD 7 false = true := n'.dep (by kernel_rfl)
      have no8 : L.getD 8 false = false := n'.not_yet
      have b9 := h.inv.1 ((bits_at rfl).trans no8)
      obtain ⟨A3, c3, ev, own3⟩ := h.inv.2.1 ((bits_at rfl).trans yes6) ((bits_at rfl).trans no8)
      obtain ⟨A4, c4, ev4, eu4⟩ := h.inv.2.2.1 ((bits_at rfl).trans yes7)
      have e9 := ev.symm.trans ev4
      injection e9 with q1 q2 q3
      have y2 : a1.eval (.tmp 28) = (FV.mk A3 m c3 xs (m : Int)).val := by
        refine Eq.trans (show a1.eval (.tmp 28) = _ from eu4) ?_
        rw [← q1, ← q3]
      refine st_put (.tmp 24) (.tmp 25) (.tmp 28) (FV.mk A3 m c3 xs (m : Int)).val rfl (h.dep n' 3 24 (by kernel_rfl) rfl) (h.dep n' 4 25 (by kernel_rfl) rfl) y2 (hD.map.later b9) hn (lenE hD.few) ?_
      intro w3 m3 o3
      have hD3 := (hD.later b9).stored (n := n) (f := FV.mk A3 m c3 xs (m : Int)) m3 (Buts.only o3 (List.mem_singleton.2 rfl)) (own_lo own3 hB) ⟨by show (0 : Int) ≤ (m : Int); omega, Int.le_refl _, hmax⟩ (fun p hp _ k hk hk2 => by
        have := (hD.blo k (mem_dblocks.2 (.inr (.inr ⟨p, hp, hk⟩)))).2
        have := (owf_lo (f := FV.mk A3 m c3 xs (m : Int)) own3 k hk2).1
        omega) hroom
      exact hK undef w3 trivial ⟨fun h0 => absurd (show true = false from h0) (by decide), fun _ h0 => absurd (show true = false from h0) (by decide), fun _ => ⟨A4, c4, ev4, eu4⟩, fun _ => ⟨A3, c3, hD3, (Buts.of b9 _).trans (Buts.only o3 (List.mem_singleton.2 rfl)), fun k hk => (owf_lo (f := FV.mk A3 m c3 xs (m : Int)) own3 k hk).1⟩⟩
  case heE =>
    intro V w9 hV hJ
    obtain ⟨A', c', h1, h2, h3⟩ := hJ.2.2.2 rfl
    clear hV hJ
    simp only [putOps, List.setIfInBounds_toArray, List.set_cons_succ, List.set_cons_zero, Nat.reduceAdd]
    refine hK0 _ _ ?_
    go_wp2_with fail
    go_ret
    exact ⟨rfl, A', c', h1, (Buts.of b01 _).trans h2, fun k hk => Nat.le_trans b01.size (h3 k hk)⟩
end Go.Proofs.Ytaflmiopaiigbaa

/-
  Both disks: a call of each, one behind the other. Own work.
-/
namespace Go.Proofs.Ytaflmiopaiigbaa
open Go.RowKit Go.Maps Go.ChangeMaps
/-- Both disks are alike. -/
structure DW (w : World) (B gP gp gd mb gq gr : Nat) (on : Bool) (fuse : Int) (fs gs : Fs) : Prop where
  dh : DH w B gP gp gd mb gq gr on fuse fs on fuse gs
  vw : fs.map vF = gs.map vF
/-- Where a list's bytes may lie behind a call: where they did, in new memory, or where the act's own do. -/
def From (w : World) (gs : Fs) (E : Nat → Prop) (gs' : Fs) : Prop := ∀ p ∈ gs', ∀ k ∈ p.2.bk, (∃ q ∈ gs, k ∈ q.2.bk) ∨ w.heap.size ≤ k ∨ E k
abbrev allB (gp gd mb gq gr : Nat) (fs : Fs) : List Nat := gq :: gr :: (plB (ptr gp) ++ dblocks gd mb fs)
/-- The program's disk has done it, the document's not yet. -/
structure Mid2 (w w1 : World) (B gP gp gd mb gq gr : Nat) (on : Bool) (fuse : Int) (fs gs : Fs) (on' : Bool) (fuse' : Int) (fs' : Fs) : Prop where
  dh : DH w1 B gP gp gd mb gq gr on' fuse' fs' on fuse gs
  bu : Buts (allB gp gd mb gq gr fs) w w1
  nb : ∀ k ∈ dblocks gd mb fs', k ∈ dblocks gd mb fs ∨ w.heap.size ≤ k
/-- Both have done it. -/
structure Did (w w' : World) (B gP gp gd mb gq gr : Nat) (fs gs : Fs) (E : Nat → Prop) (on' : Bool) (fuse' : Int) (fs' gs' : Fs) : Prop where
  dw : DW w' B gP gp gd mb gq gr on' fuse' fs' gs'
  bu : Buts (allB gp gd mb gq gr fs) w w'
  nb : ∀ k ∈ dblocks gd mb fs', k ∈ dblocks gd mb fs ∨ w.heap.size ≤ k
  fm : From w gs E gs'
def DidX (w : World) (B gP gp gd mb gq gr : Nat) (fs gs : Fs) (E : Nat → Prop) (w' : World) : Prop := ∃ on' fuse' fs' gs', Did w w' B gP gp gd mb gq gr fs gs E on' fuse' fs' gs'
section
variable {w w1 w2 X w' : World} {B gP gp gd mb gq gr : Nat} {on on2 on' : Bool} {fuse fuse2 fuse' : Int} {fs gs fs' gs' : Fs} {E : Nat → Prop}
theorem DW.later (h : DW w B gP gp gd mb gq gr on fuse fs gs) (b : Below w.heap.size w w') : DW w' B gP gp gd mb gq gr on fuse fs gs := ⟨h.dh.later b, h.vw⟩
theorem DH.riseFs (h : DH w B gP gp gd mb gq gr on fuse fs on2 fuse2 gs) : riseF fs := FMap.rise h.dk.map
theorem DW.rise (h : DW w B gP gp gd mb gq gr on fuse fs gs) : riseF gs := rise_view h.vw h.dh.riseFs
theorem DW.len (h : DW w B gP gp gd mb gq gr on fuse fs gs) : fs.length = gs.length := by have := congrArg List.length h.vw; simpa using this
theorem DW.few (h : DW w B gP gp gd mb gq gr on fuse fs gs) : gs.length ≤ 64 := by rw [← h.len]; exact h.dh.dk.few
theorem DH.tidyF (h : DH w B gP gp gd mb gq gr on fuse fs on2 fuse2 gs) : ∀ p ∈ fs, tidy p := fun p hp => (owf_bs (h.dk.files.own p hp)).1
theorem DH.tidyG (h : DH w B gP gp gd mb gq gr on fuse fs on2 fuse2 gs) : ∀ p ∈ gs, tidy p := fun p hp => by
  obtain ⟨A, c, _, l⟩ := h.rd
  exact (l.bs p hp).1
theorem vF_at {l l' : Fs} (h : l.map vF = l'.map vF) {p : Nm × FV} (hp : p ∈ l') : ∃ q ∈ l, vF q = vF p := by
  have : vF p ∈ l'.map vF := List.mem_map_of_mem hp
  rw [← h] at this
  obtain ⟨q, hq, e⟩ := List.mem_map.1 this
  exact ⟨q, hq, e⟩
theorem DW.okG (h : DW w B gP gp gd mb gq gr on fuse fs gs) : ∀ p ∈ gs, p.2.ok ∧ p.2.n ≤ p.2.c := fun p hp => by
  obtain ⟨q, hq, e⟩ := vF_at h.vw hp
  obtain ⟨n, f⟩ := p
  obtain ⟨n', f'⟩ := q
  simp only [vF, Prod.mk.injEq] at e
  obtain ⟨rfl, hk, hx⟩ := e
  have hn : f'.n = f.n := by
    rw [← show f'.xs.length = f'.n from h.dh.tidyF _ hq, ← show f.xs.length = f.n from h.dh.tidyG _ hp]
    exact congrArg List.length hx
  obtain ⟨a, b, c⟩ := h.dh.dk.files.bd _ hq
  refine ⟨⟨?_, ?_, ?_⟩, (h.dh.ap _ hp).1⟩
  · show 0 ≤ f.kept; rw [← hk]; exact a
  · show f.kept ≤ f.n; rw [← hk, ← hn]; exact b
  · show f.n ≤ 1048576; rw [← hn]; exact c
/-- The program's call is done. -/
theorem DW.mid (h : DW w B gP gp gd mb gq gr on fuse fs gs) (b : Below w.heap.size w X) (hp : PlAt w' (ptr gp) on' fuse') (hd : DiskAt w' B gd (ptr gp) mb fs') (bu : Buts (plB (ptr gp) ++ dblocks gd mb fs) X w') (hn : ∀ k ∈ dblocks gd mb fs', k ∈ dblocks gd mb fs ∨ X.heap.size ≤ k) (hf : isI fuse') :
    Mid2 w w' B gP gp gd mb gq gr on fuse fs gs on' fuse' fs' :=
  ⟨(h.dh.later b).prog hp hd bu hn hf, (Buts.of b _).trans (bu.sub (fun k hk => by simp only [allB, List.mem_cons]; exact .inr (.inr hk))), fun k hk => (hn k hk).imp id fun q => Nat.le_trans b.size q⟩
/-- The document's call is done. -/
theorem Mid2.did (m : Mid2 w w1 B gP gp gd mb gq gr on fuse fs gs on' fuse' fs') (hp : RPw w2 gq (!on') (max fuse' (-1))) (hr : RFs w2 gr (ptr gq) gs') (bu : Buts [gq, gr] w1 w2) (hv : fs'.map vF = gs'.map vF)
    (hb : ∀ p ∈ gs', p.2.n ≤ p.2.c ∧ ∀ k ∈ p.2.bk, (∃ q ∈ gs, k ∈ q.2.bk) ∨ (w1.heap.size ≤ k ∧ k < w2.heap.size) ∨ (E k ∧ k < w.heap.size ∧ k ∉ dblocks gd mb fs)) : Did w w2 B gP gp gd mb gq gr fs gs E on' fuse' fs' gs' := by
  refine ⟨⟨m.dh.docs hp hr bu (fun p hp2 => ⟨(hb p hp2).1, fun k hk => ?_⟩), hv⟩, m.bu.trans (bu.sub (fun k hk => ?_)), m.nb, fun p hp2 k hk => ?_⟩
  · rcases (hb p hp2).2 k hk with ⟨q, hq, hkq⟩ | ⟨h1, h2⟩ | ⟨_, h1, h2⟩
    · exact ⟨Nat.lt_of_lt_of_le ((m.dh.ap q hq).2 k hkq).1 bu.size, ((m.dh.ap q hq).2 k hkq).2⟩
    · exact ⟨h2, fun hm => by have := (m.dh.dk.blo k hm).2; omega⟩
    · refine ⟨Nat.lt_of_lt_of_le h1 (Nat.le_trans m.bu.size bu.size), fun hm => ?_⟩
      rcases m.nb k hm with q | q
      · exact h2 q
      · omega
  · simp only [List.mem_cons, List.not_mem_nil, or_false] at hk
    simp only [allB, List.mem_cons]
    rcases hk with hk | hk
    · exact .inl hk
    · exact .inr (.inl hk)
  · rcases (hb p hp2).2 k hk with h | ⟨h1, _⟩ | ⟨h1, _⟩
    · exact .inl h
    · exact .inr (.inl (Nat.le_trans m.bu.size h1))
    · exact .inr (.inr h1)
/-- Bytes that stay where they were. -/
theorem Mid2.stay (m : Mid2 w w1 B gP gp gd mb gq gr on fuse fs gs on' fuse' fs') {p : Nm × FV} (hp : p ∈ gs) : p.2.n ≤ p.2.c ∧ ∀ k ∈ p.2.bk, (∃ q ∈ gs, k ∈ q.2.bk) ∨ (w1.heap.size ≤ k ∧ k < w2.heap.size) ∨ (E k ∧ k < w.heap.size ∧ k ∉ dblocks gd mb fs) :=
  ⟨(m.dh.ap p hp).1, fun k hk => .inl ⟨p, hp, hk⟩⟩
end
/-- What one call of each asks: the program's from anywhere behind, then the document's. -/
def Pair (w : World) (S : List Nat) (F G : FuncId) (xs ys : Array Value) (N : World → Prop) : Prop :=
  ∃ (er : Int) (M : World → Prop), (∀ X, M X → Buts S w X) ∧ (∀ X, Below w.heap.size w X → Calls Try.prog F xs X fun e w' => e = .returned (.int .i64 er) ∧ M w') ∧ (∀ X, M X → Calls Try.prog G ys X fun e w' => e = .returned (.int .i64 er) ∧ N w')
section
variable {w : World} {B gP gp gd mb gq gr : Nat} {on : Bool} {fuse : Int} {fs gs : Fs} {E : Nat → Prop}
/-- A call that leaves what Acted says, beside one that leaves what RActed says. -/
theorem pair_act (h : DW w B gP gp gd mb gq gr on fuse fs gs) (F G : FuncId) (xs ys : Array Value) (e0 : Int) (fs1 gs1 : Fs)
    (hp : ∀ X, Below w.heap.size w X → Calls Try.prog F xs X fun e w' => e = .returned (.int .i64 (dE e0 on fuse)) ∧ Acted X w' B gd (ptr gp) mb e0 on fuse fs fs1)
    (hr : ∀ X, DH X B gP gp gd mb gq gr (dOn e0 on fuse) (dFu e0 on fuse) (dFs e0 on fuse fs fs1) on fuse gs → Calls Try.prog G ys X fun e w' => e = .returned (.int .i64 (dE e0 on fuse)) ∧ RActed X w' gq gr e0 on fuse gs gs1)
    (hn : ∀ k ∈ dblocks gd mb fs1, k ∈ dblocks gd mb fs) (hv : e0 = 0 → fs1.map vF = gs1.map vF) (hb : e0 = 0 → ∀ p ∈ gs1, p.2.n ≤ p.2.c ∧ ∀ k ∈ p.2.bk, ∃ q ∈ gs, k ∈ q.2.bk) : Pair w (allB gp gd mb gq gr fs) F G xs ys (DidX w B gP gp gd mb gq gr fs gs E) := by
  refine ⟨dE e0 on fuse, fun w1 => Mid2 w w1 B gP gp gd mb gq gr on fuse fs gs (dOn e0 on fuse) (dFu e0 on fuse) (dFs e0 on fuse fs fs1), fun X m => m.bu, fun X b => ?_, fun X m => ?_⟩
  · refine (hp X b).mono fun e w' ⟨h1, h2, h3, h4⟩ => ⟨h1, h.mid b h3 h2 h4 (fun k hk => .inl ?_) (isI_dFu h.dh.fu)⟩
    unfold dFs at hk
    split at hk
    · split at hk
      · exact hn k hk
      · exact hk
    · exact hk
  · refine (hr X m.dh).mono fun e w' ⟨h1, h2, h3, h4⟩ => ⟨h1, _, _, _, _, m.did (E := E) h2 h3 h4 (dFs_view h.vw hv) (fun p hp2 => ?_)⟩
    unfold dFs at hp2
    split at hp2
    · split at hp2
      · rename_i he _
        exact ⟨(hb he p hp2).1, fun k hk => .inl ((hb he p hp2).2 k hk)⟩
      · exact m.stay hp2
    · exact m.stay hp2
theorem sub_put {gs : Fs} {n : Nm} {f : FV} (h1 : ∀ p ∈ gs, p.2.n ≤ p.2.c) (h2 : f.n ≤ f.c) (h3 : ∀ k ∈ f.bk, ∃ q ∈ gs, k ∈ q.2.bk) : ∀ p ∈ putF gs n f, p.2.n ≤ p.2.c ∧ ∀ k ∈ p.2.bk, ∃ q ∈ gs, k ∈ q.2.bk := by
  intro p hp
  rcases mem_put2 hp with rfl | hp
  · exact ⟨h2, h3⟩
  · exact ⟨h1 p hp, fun k hk => ⟨p, hp, hk⟩⟩
theorem bl_put {gd mb : Nat} {fs : Fs} {n : Nm} {f : FV} (h : ∀ k ∈ f.bk, k ∈ dblocks gd mb fs) : ∀ k ∈ dblocks gd mb (putF fs n f), k ∈ dblocks gd mb fs := by
  intro k hk
  rcases mem_dblocks.1 hk with e | e | ⟨p, hp, hkp⟩
  · exact mem_dblocks.2 (.inl e)
  · exact mem_dblocks.2 (.inr (.inl e))
  · rcases mem_put2 hp with rfl | hp
    · exact h k hkp
    · exact mem_dblocks.2 (.inr (.inr ⟨p, hp, hkp⟩))
theorem bl_del {gd mb : Nat} {fs : Fs} {n : Nm} : ∀ k ∈ dblocks gd mb (delF fs n), k ∈ dblocks gd mb fs := by
  intro k hk
  rcases mem_dblocks.1 hk with e | e | ⟨p, hp, hkp⟩
  · exact mem_dblocks.2 (.inl e)
  · exact mem_dblocks.2 (.inr (.inl e))
  · exact mem_dblocks.2 (.inr (.inr ⟨p, (List.mem_filter.1 hp).1, hkp⟩))
theorem pair_create (h : DW w B gP gp gd mb gq gr on fuse fs gs) (n : Nm) : Pair w (allB gp gd mb gq gr fs) 27 38 #[ptr gd, encStr n] #[ptr gr, encStr n] (DidX w B gP gp gd mb gq gr fs gs E) := by
  refine pair_act h _ _ _ _ (creE fs n on) (putF fs n zV) (putF gs n zV) (fun X b => ?_) (fun X m => ?_) ?_ (fun _ => putF_view n h.vw rfl) (fun _ => sub_put (fun p hp => (h.dh.ap p hp).1) (Nat.le_refl _) (fun k hk => by cases hk))
  · exact create_any X B gd mb (ptr gp) on fuse fs n (h.dh.dk.later b) (.inl ⟨gp, rfl, Row.later h.dh.pl b⟩) h.dh.fu
  · rw [cre_view n on h.vw]
    exact rcreate_any X gq gr on fuse gs n m.rp m.rd h.dh.fu h.few h.rise
  · exact bl_put fun k hk => by cases hk
theorem find_mem {fs : Fs} {n : Nm} {ns : List Nm} {on : Bool} (h : (findR fs n ns on).2 = 0) : (n, (findR fs n ns on).1) ∈ fs := by
  obtain ⟨ff, fe, hfr⟩ : ∃ ff fe, findR fs n ns on = (ff, fe) := ⟨_, _, rfl⟩
  rw [hfr] at h ⊢
  simp only at h
  subst h
  rcases find_split hfr with ⟨_, ha⟩ | h | h | h
  · exact atF_mem ha
  all_goals cases h
theorem find_bk {fs : Fs} (n : Nm) (ns : List Nm) (on : Bool) : ∀ k ∈ (findR fs n ns on).1.bk, ∃ q ∈ fs, k ∈ q.2.bk := by
  intro k hk
  obtain ⟨ff, fe, hfr⟩ : ∃ ff fe, findR fs n ns on = (ff, fe) := ⟨_, _, rfl⟩
  have hz := find_zero hfr
  have hs := find_split hfr
  rw [hfr] at hk
  rcases hs with ⟨_, ha⟩ | h | h | h
  · exact ⟨_, atF_mem ha, hk⟩
  all_goals
    subst h
    rw [hz (by decide)] at hk
    cases hk
theorem bl_find {gd mb : Nat} {fs : Fs} (n : Nm) (ns : List Nm) (on : Bool) : ∀ k ∈ (findR fs n ns on).1.bk, k ∈ dblocks gd mb fs := fun k hk => by
  obtain ⟨q, h1, h2⟩ := find_bk n ns on k hk
  exact mem_dblocks.2 (.inr (.inr ⟨q, h1, h2⟩))
theorem pair_sync (h : DW w B gP gp gd mb gq gr on fuse fs gs) (n : Nm) : Pair w (allB gp gd mb gq gr fs) 29 39 #[ptr gd, encStr n] #[ptr gr, encStr n] (DidX w B gP gp gd mb gq gr fs gs E) := by
  obtain ⟨v1, v2, v3⟩ := find_view n [] on h.vw
  refine pair_act h _ _ _ _ (findR fs n [] on).2 (putF fs n { (findR fs n [] on).1 with kept := ((findR fs n [] on).1.n : Int) }) (putF gs n { (findR gs n [] on).1 with kept := ((findR gs n [] on).1.n : Int) }) (fun X b => ?_) (fun X m => ?_) ?_ (fun _ => putF_view n h.vw ?_) (fun he => sub_put (fun p hp => (h.dh.ap p hp).1) ?_ (find_bk n [] on))
  · exact sync_any X B gd mb (ptr gp) on fuse fs n (h.dh.dk.later b) (.inl ⟨gp, rfl, Row.later h.dh.pl b⟩) h.dh.fu
  · rw [v1]
    exact rsync_any X gq gr on fuse gs n m.rp m.rd h.dh.fu h.few h.rise
  · exact bl_put (bl_find n [] on)
  · simp only [vF, v3, find_n n [] on h.vw h.dh.tidyF h.dh.tidyG]
  · exact (h.dh.ap _ (find_mem (by rw [← v1]; exact he))).1
theorem pair_remove (h : DW w B gP gp gd mb gq gr on fuse fs gs) (n : Nm) : Pair w (allB gp gd mb gq gr fs) 35 41 #[ptr gd, encStr n] #[ptr gr, encStr n] (DidX w B gP gp gd mb gq gr fs gs E) := by
  obtain ⟨v1, v2, v3⟩ := find_view n [] on h.vw
  refine pair_act h _ _ _ _ (findR fs n [] on).2 (delF fs n) (delF gs n) (fun X b => ?_) (fun X m => ?_) bl_del (fun _ => delF_view n h.vw) (fun he p hp => ?_)
  · exact remove_any X B gd mb (ptr gp) on fuse fs n (h.dh.dk.later b) (.inl ⟨gp, rfl, Row.later h.dh.pl b⟩) h.dh.fu
  · rw [v1]
    exact rremove_any X gq gr on fuse gs n m.rp m.rd h.dh.fu h.few
  · exact ⟨(h.dh.ap p (List.mem_filter.1 hp).1).1, fun k hk => ⟨p, (List.mem_filter.1 hp).1, hk⟩⟩
theorem pair_rename (h : DW w B gP gp gd mb gq gr on fuse fs gs) (n n2 : Nm) : Pair w (allB gp gd mb gq gr fs) 34 40 #[ptr gd, encStr n, encStr n2] #[ptr gr, encStr n, encStr n2] (DidX w B gP gp gd mb gq gr fs gs E) := by
  obtain ⟨v1, v2, v3⟩ := find_view n [n2] on h.vw
  refine pair_act h _ _ _ _ (findR fs n [n2] on).2 (putF (delF fs n) n2 (findR fs n [n2] on).1) (putF (delF gs n) n2 (findR gs n [n2] on).1) (fun X b => ?_) (fun X m => ?_) (fun k hk => ?_) (fun _ => putF_view n2 (delF_view n h.vw) ?_) (fun he p hp => ?_)
  · exact rename_any X B gd mb (ptr gp) on fuse fs n n2 (h.dh.dk.later b) (.inl ⟨gp, rfl, Row.later h.dh.pl b⟩) h.dh.fu
  · rw [v1]
    exact rrename_any X gq gr on fuse gs n n2 m.rp m.rd h.dh.fu h.few h.rise
  · rcases mem_dblocks.1 hk with e | e | ⟨p, hp, hkp⟩
    · exact mem_dblocks.2 (.inl e)
    · exact mem_dblocks.2 (.inr (.inl e))
    · rcases mem_put2 hp with rfl | hp
      · exact bl_find n [n2] on k hkp
      · exact mem_dblocks.2 (.inr (.inr ⟨p, (List.mem_filter.1 hp).1, hkp⟩))
  · simp only [vF, v2, v3]
  · rcases mem_put2 hp with rfl | hp
    · exact ⟨(h.dh.ap _ (find_mem (by rw [← v1]; exact he))).1, find_bk n [n2] on⟩
    · exact ⟨(h.dh.ap p (List.mem_filter.1 hp).1).1, fun k hk => ⟨p, (List.mem_filter.1 hp).1, hk⟩⟩
end
end Go.Proofs.Ytaflmiopaiigbaa

/-
  Both disks: Edit, Append, Crash, Fuse, Read. Own work.
-/
namespace Go.Proofs.Ytaflmiopaiigbaa
open Go.RowKit Go.Maps Go.ChangeMaps
section
variable {w w1 X : World} {B gP gp gd mb gq gr : Nat} {on on2 : Bool} {fuse fuse2 : Int} {fs gs : Fs} {E : Nat → Prop}
/-- Bytes of the law's own stay while both disks turn. -/
theorem bytes_stay (h : DH w B gP gp gd mb gq gr on fuse fs on2 fuse2 gs) {A : Option Addr} {m c : Nat} {ys : List Int} (hy : Bs w w.heap.size A m ys) (hA : ∀ k ∈ (Value.slice A m c).ownBlock.toList, k < w.heap.size ∧ k ∉ dblocks gd mb fs) (bu : Buts (allB gp gd mb gq gr fs) w X) : Bs X X.heap.size A m ys := by
  refine (bs_buts (c := c) hy bu (fun h0 k hk hm => ?_) (Nat.le_refl _)).up bu.size
  obtain ⟨AL, cl, r, _⟩ := h.rd
  simp only [allB, List.mem_cons, List.mem_append] at hm
  rcases hm with e | e | e | e
  · exact bs_not_row (c := c) hy h0 h.rp (by intro v hv x e; simp at hv; rcases hv with rfl | rfl <;> simp at e) k hk e
  · exact bs_not_row (c := c) hy h0 r (by intro v hv x e; simp at hv; rcases hv with rfl | rfl <;> simp at e) k hk e
  · simp [plB] at e
    exact bs_not_row (c := c) hy h0 h.pl (by intro v hv x e; simp at hv; rcases hv with rfl | rfl <;> simp at e) k hk e
  · exact (hA k hk).2 e
theorem edE_cases (fs : Fs) (n : Nm) (m : Nat) : (edE fs n m = 1 ∧ (okN n && decide (m ≤ 1048576)) = false) ∨ (edE fs n m = 10 ∧ okN n = true ∧ m ≤ 1048576 ∧ (atF fs n).isSome = false ∧ 64 ≤ fs.length) ∨ (edE fs n m = 0 ∧ okN n = true ∧ m ≤ 1048576 ∧ ((atF fs n).isSome = true ∨ fs.length < 64)) := by
  unfold edE
  cases h1 : (okN n && decide (m ≤ 1048576)) with
  | false => exact .inl ⟨by simp, rfl⟩
  | true =>
    obtain ⟨a, b⟩ : okN n = true ∧ m ≤ 1048576 := by simpa using h1
    cases h2 : (atF fs n).isSome with
    | true => exact .inr (.inr ⟨by simp, a, b, .inl rfl⟩)
    | false =>
      by_cases h3 : 64 ≤ fs.length
      · exact .inr (.inl ⟨by simp [h3], a, b, rfl, h3⟩)
      · exact .inr (.inr ⟨by simp [h3], a, b, .inr (by omega)⟩)
theorem pair_edit (h : DW w B gP gp gd mb gq gr on fuse fs gs) (n : Nm) {A : Option Addr} {m c : Nat} {ys : List Int} (hy : Bs w w.heap.size A m ys) (hmc : m ≤ c) (hA : ∀ k ∈ (Value.slice A m c).ownBlock.toList, k < w.heap.size ∧ k ∉ dblocks gd mb fs) :
    Pair w (allB gp gd mb gq gr fs) 33 43 #[ptr gd, encStr n, .slice A m c] #[ptr gr, encStr n, .slice A m c] (DidX w B gP gp gd mb gq gr fs gs (fun k => k ∈ (Value.slice A m c).ownBlock.toList)) := by
  refine ⟨edE gs n m, fun w1 => ∃ fs', Mid2 w w1 B gP gp gd mb gq gr on fuse fs gs on fuse fs' ∧ fs'.map vF = (edFs gs n ⟨A, m, c, ys, (m : Int)⟩).map vF, fun X ⟨_, m', _⟩ => m'.bu, fun X b => ?_, fun X ⟨fs', m', hv⟩ => ?_⟩
  · have hpX : PlAt X (ptr gp) on fuse := .inl ⟨gp, rfl, Row.later h.dh.pl b⟩
    have hed : edFs gs n ⟨A, m, c, ys, (m : Int)⟩ = if edE gs n m = 0 then putF gs n ⟨A, m, c, ys, (m : Int)⟩ else gs := rfl
    rcases edE_cases fs n m with ⟨he, hbad⟩ | ⟨he, h1, h2, h3, h4⟩ | ⟨he, h1, h2, h3⟩
    · rw [← edE_view n m h.vw, he]
      rw [← edE_view n m h.vw, he, if_neg (by decide)] at hed
      refine (edit_arg X gd mb (ptr gp) n A m c (h.dh.dk.later b).row hbad).mono fun e w' ⟨q1, q2⟩ => ⟨q1, fs, ?_, by rw [hed]; exact h.vw⟩
      subst q2
      exact h.mid b hpX (h.dh.dk.later b) (Buts.refl _ _) (fun k hk => .inl hk) h.dh.fu
    · rw [← edE_view n m h.vw, he]
      rw [← edE_view n m h.vw, he, if_neg (by decide)] at hed
      refine (edit_full X gd mb (ptr gp) fs n A m c (h.dh.dk.later b).row (h.dh.dk.later b).map h1 h2 h3 h4).mono fun e w' ⟨q1, q2⟩ => ⟨q1, fs, ?_, by rw [hed]; exact h.vw⟩
      exact h.mid b (hpX.later q2) ((h.dh.dk.later b).later q2) (Buts.of q2 _) (fun k hk => .inl hk) h.dh.fu
    · rw [← edE_view n m h.vw, he]
      rw [← edE_view n m h.vw, he, if_pos rfl] at hed
      refine (edit_ok2 X B gd mb (ptr gp) fs n A m c ys (Nat.le_trans h.dh.lo.2.2.2 b.size) (h.dh.dk.later b) ((hy.below b).up b.size) h1 h2 h3).mono fun e w' ⟨q1, A', c', q2, q3, q4⟩ => ⟨q1, putF fs n ⟨A', m, c', ys, (m : Int)⟩, ?_, by rw [hed]; exact putF_view n h.vw rfl⟩
      refine h.mid b (hpX.buts q3 (fun k hk hm => ?_)) q2 (q3.sub (fun k hk => ?_)) (fun k hk => ?_) h.dh.fu
      · have := pl_not hpX (h.dh.dk.later b) mb (mem_dblocks.2 (.inr (.inl rfl)))
        rw [List.mem_singleton.1 hm] at hk
        exact this hk
      · rw [List.mem_singleton.1 hk]
        exact List.mem_append.2 (.inr (mem_dblocks.2 (.inr (.inl rfl))))
      · rcases mem_dblocks.1 hk with e | e | ⟨p, hp, hkp⟩
        · exact .inl (mem_dblocks.2 (.inl e))
        · exact .inl (mem_dblocks.2 (.inr (.inl e)))
        · rcases mem_put2 hp with rfl | hp
          · exact .inr (q4 k hkp)
          · exact .inl (mem_dblocks.2 (.inr (.inr ⟨p, hp, hkp⟩)))
  · refine (redit_any X gq gr (!on) (max fuse (-1)) gs n A m c ys m'.dh.rp m'.dh.rd h.few h.rise (bytes_stay h.dh hy hA m'.bu)).mono fun e w' ⟨q1, q2, q3, q4⟩ => ⟨q1, _, _, _, _, m'.did q2 q3 q4 hv (fun p hp => ?_)⟩
    unfold edFs at hp
    split at hp
    · rcases mem_put2 hp with rfl | hp
      · exact ⟨hmc, fun k hk => .inr (.inr ⟨hk, hA k hk⟩)⟩
      · exact m'.stay hp
    · exact m'.stay hp
theorem pair_append (h : DW w B gP gp gd mb gq gr on fuse fs gs) (n : Nm) {A : Option Addr} {m c : Nat} {ys : List Int} (hy : Bs w w.heap.size A m ys) (hm : m ≤ 1000000) (hA : ∀ k ∈ (Value.slice A m c).ownBlock.toList, k < w.heap.size ∧ k ∉ dblocks gd mb fs) :
    Pair w (allB gp gd mb gq gr fs) 28 45 #[ptr gd, encStr n, .slice A m c] #[ptr gr, encStr n, .slice A m c] (DidX w B gP gp gd mb gq gr fs gs E) := by
  obtain ⟨v1, v2, v3⟩ := find_view n [] on h.vw
  have vn := find_n n [] on h.vw h.dh.tidyF h.dh.tidyG
  obtain ⟨e0, he0⟩ : ∃ e0, appE (findR fs n [] on).2 (findR fs n [] on).1.n m = e0 := ⟨_, rfl⟩
  refine ⟨dE e0 on fuse, fun w1 => ∃ fs', (if e0 = 0 ∧ actE on fuse = 0 then ∃ f' : FV, fs' = putF fs n f' ∧ f'.xs = (findR fs n [] on).1.xs ++ ys ∧ f'.kept = (findR fs n [] on).1.kept else fs' = fs) ∧ Mid2 w w1 B gP gp gd mb gq gr on fuse fs gs (dOn e0 on fuse) (dFu e0 on fuse) fs', fun X ⟨_, _, m'⟩ => m'.bu, fun X b => ?_, fun X ⟨fs', hc, m'⟩ => ?_⟩
  · have := append_any X B gd mb (ptr gp) on fuse fs n A m c ys (Nat.le_trans h.dh.lo.2.2.2 b.size) ((hy.below b).up b.size) (by omega) (h.dh.dk.later b) (.inl ⟨gp, rfl, Row.later h.dh.pl b⟩) h.dh.fu
    rw [he0] at this
    refine this.mono fun e w' ⟨q1, fs', q2, q3, q4, q5, q6⟩ => ⟨q1, fs', ?_, h.mid b q4 q3 q5 q6 (isI_dFu h.dh.fu)⟩
    split
    · rename_i hq
      rw [if_pos hq] at q2
      obtain ⟨f', z1, z2, z3, z4⟩ := q2
      exact ⟨f', z1, z3, z4⟩
    · rename_i hq
      rw [if_neg hq] at q2
      exact q2
  · have := rappend_any X gq gr on fuse gs n A m c ys m'.dh.rp m'.dh.rd h.dh.fu h.few h.rise (bytes_stay h.dh hy hA m'.bu) hm (fun p hp => (h.okG p hp).1.2.2)
    rw [← v1, ← vn, he0] at this
    refine this.mono fun e w' ⟨q1, f', ⟨q2, q3, q4⟩, q5⟩ => ⟨q1, _, _, _, _, m'.did q2 q3 q4 ?_ (fun p hp => ?_)⟩
    · by_cases hq : e0 = 0 ∧ actE on fuse = 0
      · rw [if_pos hq] at hc
        obtain ⟨f2, rfl, z1, z2⟩ := hc
        obtain ⟨y1, y2, y3, y4, y5⟩ := q5 hq.1 hq.2
        rw [show dFs e0 on fuse gs (putF gs n f') = putF gs n f' by unfold dFs; rw [if_pos hq.1, if_pos hq.2]]
        exact putF_view n h.vw (by simp only [vF, z1, z2, y2, y3, v2, v3])
      · rw [if_neg hq] at hc
        rw [hc, show dFs e0 on fuse gs (putF gs n f') = gs by
          unfold dFs
          split
          · rename_i h1
            split
            · rename_i h2; exact absurd ⟨h1, h2⟩ hq
            · rfl
          · rfl]
        exact h.vw
    · unfold dFs at hp
      split at hp
      · split at hp
        · rename_i h1 h2
          obtain ⟨y1, y2, y3, y4, y5⟩ := q5 h1 h2
          rcases mem_put2 hp with rfl | hp
          · exact ⟨y4, fun k hk => .inr (.inl (y5 k hk))⟩
          · exact m'.stay hp
        · exact m'.stay hp
      · exact m'.stay hp
theorem crash_bk {fs : Fs} {cs : List Int} {p : Nm × FV} (hp : p ∈ crashF fs cs) : ∃ q ∈ fs, p.2.bk = q.2.bk ∧ ∃ c, p = (q.1, tornV q.2 c) := by
  obtain ⟨i, hi⟩ := List.getElem?_of_mem hp
  unfold crashF crashTo at hi
  rw [List.getElem?_mapIdx] at hi
  cases hq : fs[i]? with
  | none => rw [hq] at hi; cases hi
  | some q =>
    rw [hq] at hi
    have h1 := (List.getElem?_eq_some_iff.1 hq).1
    simp [h1] at hi
    refine ⟨q, List.mem_of_getElem? hq, ?_, _, hi.symm⟩
    rw [← hi]
    exact tornV_bk _ _
theorem crash_bl {gd mb : Nat} {fs : Fs} {cs : List Int} : ∀ k ∈ dblocks gd mb (crashF fs cs), k ∈ dblocks gd mb fs := by
  intro k hk
  rcases mem_dblocks.1 hk with e | e | ⟨p, hp, hkp⟩
  · exact mem_dblocks.2 (.inl e)
  · exact mem_dblocks.2 (.inr (.inl e))
  · obtain ⟨q, hq, e, _⟩ := crash_bk hp
    exact mem_dblocks.2 (.inr (.inr ⟨q, hq, by rw [← e]; exact hkp⟩))
theorem crash_p (h : DW w B gP gp gd mb gq gr on fuse fs gs) {A : Option Addr} {m c : Nat} {cs : List Int} (hc : IsAt w B A m cs) : Calls Try.prog 30 #[ptr gd, .slice A m c] w fun e w' => e = .returned (.tuple #[]) ∧ Mid2 w w' B gP gp gd mb gq gr on fuse fs gs true (-1) (crashF fs cs) := by
  refine (crash_any2 w B gd mb gp on fuse fs A m c cs ⟨hc.1, fun h0 => ?_⟩ (fun h0 b o e hm => ?_) h.dh.dk h.dh.pl).mono fun e w' ⟨q1, q2, q3, q4⟩ => ⟨q1, h.mid (Below.refl _ _) (.inl ⟨gp, rfl, q3⟩) q2 (q4.sub (fun k hk => ?_)) (fun k hk => .inl (crash_bl k hk)) isI_m1⟩
  · obtain ⟨b0, o0, e, hb0, hcc⟩ := hc.2 h0
    exact ⟨b0, o0, e, Nat.lt_of_lt_of_le hb0 h.dh.lo.2.2.2, hcc⟩
  · obtain ⟨b0, o0, e0, hb0, hcc⟩ := hc.2 h0
    have := e.symm.trans e0
    injection this with e
    injection e with e1 e2
    subst e1
    have := (h.dh.dk.blo _ hm).1
    omega
  · rcases List.mem_cons.1 hk with e | hk
    · rw [e]; simp [plB]
    · exact List.mem_append.2 (.inr hk)
theorem crash_d {cs : List Int} (h : DW w B gP gp gd mb gq gr on fuse fs gs) (m' : Mid2 w X B gP gp gd mb gq gr on fuse fs gs true (-1) (crashF fs cs)) {A : Option Addr} {m c : Nat} (hc : IsAt w B A m cs) : Calls Try.prog 42 #[ptr gr, .slice A m c] X fun e w' => e = .returned (.tuple #[]) ∧ DidX w B gP gp gd mb gq gr fs gs E w' := by
  have hX : Below B w X := m'.bu.below (fun k hk => by
    simp only [allB, List.mem_cons, List.mem_append] at hk
    rcases hk with e | e | e | e
    · rw [e]; exact h.dh.lo.2.1
    · rw [e]; exact h.dh.lo.2.2.1
    · simp [plB] at e; rw [e]; exact h.dh.lo.1
    · exact (h.dh.dk.blo k e).1) h.dh.lo.2.2.2
  have hcX := hc.below hX
  have hcX2 : IsAt X X.heap.size A m cs := ⟨hcX.1, fun h0 => by
    obtain ⟨b, o, e, hb, hh⟩ := hcX.2 h0
    exact ⟨b, o, e, Nat.lt_of_lt_of_le hb m'.dh.lo.2.2.2, hh⟩⟩
  refine (rcrash_any X gq gr (!on) (max fuse (-1)) gs A m c cs hcX2 m'.dh.rp m'.dh.rd h.few h.okG).mono fun e w' ⟨q1, q2, q3, q4⟩ => ⟨q1, true, -1, _, _, m'.did q2 q3 q4 (crash_view cs h.vw h.dh.tidyF h.dh.tidyG) (fun p hp => ?_)⟩
  obtain ⟨q, hq, e1, c1, e2⟩ := crash_bk hp
  refine ⟨?_, fun k hk => .inl ⟨q, hq, by rw [← e1]; exact hk⟩⟩
  rw [e2]
  exact Nat.le_trans (tornN_le (h.okG q hq).1 c1) (h.okG q hq).2
theorem fuse_p (h : DW w B gP gp gd mb gq gr on fuse fs gs) (n : Int) (hn : isI n) : Calls Try.prog 20 #[ptr gP, .int .i64 n] w fun e w' => e = .returned (.tuple #[]) ∧ Mid2 w w' B gP gp gd mb gq gr on fuse fs gs on n fs :=
  (pFuse_any w gP gp on fuse n h.dh.pw h.dh.pl).mono fun e w' ⟨q1, q2, q3⟩ => ⟨q1, h.mid (Below.refl _ _) (.inl ⟨gp, rfl, q2⟩) (h.dh.dk.buts (Buts.only (S := [gp]) q3 (by simp)) (fun k hk hm => pl_not (.inl ⟨gp, rfl, h.dh.pl⟩) h.dh.dk k hk (by rw [List.mem_singleton.1 hm]; simp [plB]))) (Buts.only q3 (by simp [plB])) (fun k hk => .inl hk) hn⟩
theorem fuse_d (h : DW w B gP gp gd mb gq gr on fuse fs gs) (n : Int) (m' : Mid2 w X B gP gp gd mb gq gr on fuse fs gs on n fs) : Calls Try.prog 21 #[ptr gq, .int .i64 n] X fun e w' => e = .returned (.tuple #[]) ∧ DidX w B gP gp gd mb gq gr fs gs E w' :=
  (rFuse_any X gq (!on) (max fuse (-1)) n m'.dh.rp).mono fun e w' ⟨q1, q2, q3⟩ => ⟨q1, on, n, fs, gs, m'.did q2 (m'.dh.rd.gq m'.dh.rp q3) (Buts.only q3 (by simp)) h.vw (fun p hp => m'.stay hp)⟩
end
end Go.Proofs.Ytaflmiopaiigbaa

/-
  Both disks: an act on both. Own work.
-/
namespace Go.Proofs.Ytaflmiopaiigbaa
open Go.RowKit Go.Maps Go.ChangeMaps
section
variable {w w1 w' X : World} {B gP gp gd mb gq gr : Nat} {on on2 : Bool} {fuse fuse2 : Int} {fs gs : Fs} {E E' : Nat → Prop}
theorem DidX.mono (h : DidX w B gP gp gd mb gq gr fs gs E w') (hE : ∀ k, E k → E' k) : DidX w B gP gp gd mb gq gr fs gs E' w' := by
  obtain ⟨a, b, c, d, h⟩ := h
  exact ⟨a, b, c, d, h.dw, h.bu, h.nb, fun p hp k hk => (h.fm p hp k hk).imp id (fun q => q.imp id (hE k))⟩
theorem DidX.from (h : DidX w1 B gP gp gd mb gq gr fs gs E w') (b : Below w.heap.size w w1) : DidX w B gP gp gd mb gq gr fs gs E w' := by
  obtain ⟨a, b2, c, d, h⟩ := h
  exact ⟨a, b2, c, d, h.dw, (Buts.of b _).trans h.bu, fun k hk => (h.nb k hk).imp id (Nat.le_trans b.size), fun p hp k hk => (h.fm p hp k hk).imp id (fun q => q.imp (Nat.le_trans b.size) id)⟩
theorem DidX.to (h : DidX w B gP gp gd mb gq gr fs gs E w1) (b : Below w1.heap.size w1 w') : DidX w B gP gp gd mb gq gr fs gs E w' := by
  obtain ⟨a, b2, c, d, h⟩ := h
  exact ⟨a, b2, c, d, h.dw.later b, h.bu.trans (Buts.of b _), h.nb, h.fm⟩
theorem DidX.same (h : DW w B gP gp gd mb gq gr on fuse fs gs) (b : Below w.heap.size w w') : DidX w B gP gp gd mb gq gr fs gs E w' :=
  ⟨on, fuse, fs, gs, h.later b, Buts.of b _, fun k hk => .inl hk, fun p hp k hk => .inl ⟨p, hp, hk⟩⟩
theorem DidX.bu (h : DidX w B gP gp gd mb gq gr fs gs E w') : Buts (allB gp gd mb gq gr fs) w w' := by
  obtain ⟨_, _, _, _, h⟩ := h
  exact h.bu
/-- A row of another type stays. -/
theorem DH.keep (h : DH w B gP gp gd mb gq gr on fuse fs on2 fuse2 gs) {t g : Nat} {vs : List Value} (r : Row w t g vs) (h1 : t ≠ 72) (h2 : t ≠ 5) (h3 : t ≠ 77) (h4 : t ≠ 42) (h5 : t ≠ 34) (bu : Buts (allB gp gd mb gq gr fs) w w') : Row w' t g vs := by
  refine r.buts bu (fun hm => ?_)
  obtain ⟨AL, cl, rr, _⟩ := h.rd
  simp only [allB, List.mem_cons] at hm
  rcases hm with e | e | e
  · exact rne r h.rp h4 e
  · exact rne r rr h5 e
  · exact h.not_gp r h1 h2 h3 e
end
theorem Mid2.later {w w1 w2 : World} {B gP gp gd mb gq gr : Nat} {on on' : Bool} {fuse fuse' : Int} {fs gs fs' : Fs} (m : Mid2 w w1 B gP gp gd mb gq gr on fuse fs gs on' fuse' fs') (b : Below w1.heap.size w1 w2) : Mid2 w w2 B gP gp gd mb gq gr on fuse fs gs on' fuse' fs' := ⟨m.dh.later b, m.bu.trans (Buts.of b _), m.nb⟩
/-- What a region keeps whose one call turns memory. -/
def JOne (w0 : World) (N : World → Prop) (bs : List Bool) (vs : List Value) (w : World) : Prop := (bs.getD 0 false = false → Below w0.heap.size w0 w) ∧ (bs.getD 0 false = true → N w)
theorem JOne.start {w0 : World} (N : World → Prop) (vs : List Value) : JOne w0 N [false] vs w0.drew := ⟨fun _ => (Below.refl _ _).drew, fun h => absurd (show false = true from h) (by decide)⟩
/-- What a region keeps that calls the one disk, then the other. -/
def JDo (w0 : World) (T g : Nat) (cells : List Value) (M N : World → Prop) (bs : List Bool) (vs : List Value) (w : World) : Prop :=
  Row w T g cells ∧ (bs.getD 0 false = false → Below w0.heap.size w0 w) ∧ (bs.getD 0 false = true → bs.getD 1 false = false → M w) ∧ (bs.getD 1 false = true → N w)
theorem JDo.start {w0 : World} {T g : Nat} {cells : List Value} (M N : World → Prop) (vs : List Value) (h : Row w0 T g cells) : JDo w0 T g cells M N [false, false] vs w0.drew :=
  ⟨h.later (Below.refl _ _).drew, fun _ => (Below.refl _ _).drew, fun h => absurd (show false = true from h) (by decide), fun h => absurd (show false = true from h) (by decide)⟩
def SDo6 (gr gq g7 cl : Nat) (AL : Option Addr) (gs : Fs) (a : DAct) (opn : Nat) (v : Value) : Prop :=
  match opn with
  | 0 | 1 => v = ptr gr
  | 2 => v = .pointer (some ⟨gr, 0, none⟩)
  | 3 => v = ptr gq
  | 4 => v = .pointer (some ⟨g7, 4, none⟩)
  | 5 => v = .int .i64 a.q
  | _ => True

def SDo2 (gP gd gr g7 : Nat) (er : Int) (a : DAct) (opn : Nat) (v : Value) : Prop :=
  match opn with
  | 0 => v = ptr gd
  | 1 | 5 => v = .pointer (some ⟨g7, 1, none⟩)
  | 2 | 6 => v = encStr a.n
  | 3 | 7 => v = .int .i64 er
  | 4 => v = ptr gr
  | 8 | 9 => v = .bool true
  | _ => True
def SDo3 (gP gd gr g7 : Nat) (er : Int) (a : DAct) (opn : Nat) (v : Value) : Prop :=
  match opn with
  | 0 => v = ptr gd
  | 1 | 5 => v = .pointer (some ⟨g7, 1, none⟩)
  | 2 | 6 => v = encStr a.n
  | 3 | 7 => v = .int .i64 er
  | 4 => v = ptr gr
  | 8 | 9 => v = .bool true
  | _ => True
def SDo4 (gP gd gr g7 : Nat) (er : Int) (a : DAct) (opn : Nat) (v : Value) : Prop :=
  match opn with
  | 0 => v = ptr gd
  | 1 | 7 => v = .pointer (some ⟨g7, 1, none⟩)
  | 2 | 8 => v = encStr a.n
  | 3 | 9 => v = .pointer (some ⟨g7, 2, none⟩)
  | 4 | 10 => v = encStr a.t
  | 5 | 11 => v = .int .i64 er
  | 6 => v = ptr gr
  | 12 | 13 => v = .bool true
  | _ => True
def SDo5 (gP gd gr g7 : Nat) (er : Int) (a : DAct) (opn : Nat) (v : Value) : Prop :=
  match opn with
  | 0 => v = ptr gd
  | 1 | 5 => v = .pointer (some ⟨g7, 1, none⟩)
  | 2 | 6 => v = encStr a.n
  | 3 | 7 => v = .int .i64 er
  | 4 => v = ptr gr
  | 8 | 9 => v = .bool true
  | _ => True
def SDo8 (gP gd gr g7 : Nat) (er : Int) (a : DAct) (opn : Nat) (v : Value) : Prop :=
  match opn with
  | 0 => v = ptr gd
  | 1 | 7 => v = .pointer (some ⟨g7, 1, none⟩)
  | 2 | 8 => v = encStr a.n
  | 3 | 9 => v = .pointer (some ⟨g7, 3, none⟩)
  | 4 | 10 => v = .slice a.A a.m a.c
  | 5 | 11 => v = .int .i64 er
  | 6 => v = ptr gr
  | 12 | 13 => v = .bool true
  | _ => True
def SDo0 (gP gd gr g7 : Nat) (er : Int) (a : DAct) (opn : Nat) (v : Value) : Prop :=
  match opn with
  | 0 => v = ptr gd
  | 1 | 7 => v = .pointer (some ⟨g7, 1, none⟩)
  | 2 | 8 => v = encStr a.n
  | 3 | 9 => v = .pointer (some ⟨g7, 3, none⟩)
  | 4 | 10 => v = .slice a.A a.m a.c
  | 5 | 11 => v = .int .i64 er
  | 6 => v = ptr gr
  | 12 | 13 => v = .bool true
  | _ => True

set_option maxRecDepth 100000 in
set_option maxHeartbeats 16000000 in
theorem do_any (w : World) (B gP gp gd mb gq gr : Nat) (on : Bool) (fuse : Int) (fs gs : Fs) (a : DAct) (h : DW w B gP gp gd mb gq gr on fuse fs gs) (hy : Bs w w.heap.size a.A a.m a.xs) (hmc : a.m ≤ a.c) (hm : a.m ≤ 300) (hA : ∀ k ∈ (Value.slice a.A a.m a.c).ownBlock.toList, k < w.heap.size ∧ k ∉ dblocks gd mb fs) (hc : IsAt w B a.CA a.cm a.cs) (hk0 : 0 ≤ a.k ∧ a.k < 256) (hq : isI a.q) :
    Calls Try.prog 15 #[ptr gP, ptr gd, ptr gr, .agg a.cells.toArray] w fun e w' => e = .returned (.bool true) ∧ DidX w B gP gp gd mb gq gr fs gs (fun k => k ∈ (Value.slice a.A a.m a.c).ownBlock.toList ∧ a.k % 10 = 8) w' := by
  have HQ := hide hq
  have HM := hide hm
  obtain ⟨kz, kl⟩ := hk0
  have hcase : a.k % 10 = 2 ∨ a.k % 10 = 3 ∨ a.k % 10 = 4 ∨ a.k % 10 = 5 ∨ a.k % 10 = 6 ∨ a.k % 10 = 7 ∨ a.k % 10 = 8 ∨ a.k % 10 = 9 ∨ (a.k % 10 = 0 ∨ a.k % 10 = 1) := by omega
  rcases hcase with hk | hk | hk | hk | hk | hk | hk | hk | hk
  · go_enter Try.func15, Try.ntmps15
    go_wp2_with (first
      | ((with_reducible refine wl_box rfl 38 _ _ a.cells rfl rfl rfl ?_); intro g7 w1 r7 p7 l7 b7; have c70 : w1.cell? ⟨g7, 0, none⟩ = some (.int .u8 a.k) := r7.cell (j := 0) rfl; have c71 : w1.cell? ⟨g7, 1, none⟩ = some (encStr a.n) := r7.cell (j := 1) rfl; have c74 : w1.cell? ⟨g7, 4, none⟩ = some (.int .i64 a.q) := r7.cell (j := 4) rfl; have c75 : w1.cell? ⟨g7, 5, none⟩ = some (.slice a.CA a.cm a.cc) := r7.cell (j := 5) rfl))
    have B1 := b7
    have h1 := h.later b7
    have hy1 : Bs w1 w1.heap.size a.A a.m a.xs := (hy.below b7).up b7.size
    have hA1 : ∀ k ∈ (Value.slice a.A a.m a.c).ownBlock.toList, k < w1.heap.size ∧ k ∉ dblocks gd mb fs := fun k hk => ⟨Nat.lt_of_lt_of_le (hA k hk).1 b7.size, (hA k hk).2⟩
    have hc1 := hc.below (b7.mono h.dh.lo.2.2.2)
    clear h hy hA hc c70 b7 p7 l7
    clear c71 c74 c75
    obtain ⟨er, M, HMb, HP, HD⟩ := pair_create h1 a.n (E := fun k => k ∈ (Value.slice a.A a.m a.c).ownBlock.toList ∧ a.k % 10 = 8)
    have HKr : ∀ X, Buts (allB gp gd mb gq gr fs) w1 X → Row X 38 g7 [.int .u8 a.k, encStr a.n, encStr a.t, .slice a.A a.m a.c, .int .i64 a.q, .slice a.CA a.cm a.cc] := fun X bu => h1.dh.keep r7 (by decide) (by decide) (by decide) (by decide) (by decide) bu

    clear h1 hy1 hA1 hc1
    go_wp2_with fail
    rename_i K1 hK1
    refine wp_region_vals [3, 7] (SDo2 gP gd gr g7 er a) (JDo w1 38 g7 [.int .u8 a.k, encStr a.n, encStr a.t, .slice a.A a.m a.c, .int .i64 a.q, .slice a.CA a.cm a.cc] M (DidX w1 B gP gp gd mb gq gr fs gs (fun k => k ∈ (Value.slice a.A a.m a.c).ownBlock.toList ∧ a.k % 10 = 8))) (by kernel_rfl) (by kernel_rfl) (by kernel_rfl) (by kernel_rfl) (by kernel_rfl) (JDo.start _ _ _ r7) ?obs2 ?he2
    case obs2 =>
      refine ⟨?_, ?_, ?_, ?_, ?_, ?_, ?_, ?_, ?_, ?_, trivial⟩
      · exact .inl ⟨by kernel_rfl, fun L a1 w1 n' h => ⟨_, rfl, run_move (.tmp 1) rfl (h.var n' 1 (by kernel_rfl))⟩⟩
      · refine .inl ⟨by kernel_rfl, fun L a1 w1 n' h => ⟨.pointer (some ⟨g7, 1, none⟩), rfl, ?_⟩⟩
        have e0 : a1.eval (.tmp 7) = _ := h.var n' 7 (by kernel_rfl)
        unfold execOp
        simp only [e0]
        go_simp
      · exact .inl ⟨by kernel_rfl, fun L a1 w1 n' h => ⟨_, rfl, run_loadA 9 (.tmp 19) ⟨g7, 1, none⟩ rfl Try.isAgg9 (h.dep n' 1 19 (by kernel_rfl) rfl) ((h.inv.1).cell (j := 1) (v := encStr a.n) rfl)⟩⟩
      · refine .inr fun L a1 w1 n' h K hK => ?_
        have no3 : L.getD 3 false = false := n'.not_yet
        have no7 : L.getD 7 false = false := n'.later (by kernel_rfl)
        have b9 := h.inv.2.1 ((bits_at rfl).trans no3)
        have y0 : a1.eval (.tmp 18) = ptr gd := h.dep n' 0 18 (by kernel_rfl) rfl
        have y1 : a1.eval (.tmp 20) = encStr a.n := h.dep n' 2 20 (by kernel_rfl) rfl
        refine st_call 27 _ _ #[ptr gd, encStr a.n] rfl Try.call27 ?_ (HP w1 b9) ?_
        · simp only [List.map_toArray, List.map_cons, List.map_nil, y0, y1]
        · rintro e w3 ⟨rfl, hM⟩
          exact ⟨_, rfl, hK _ w3 rfl ⟨HKr w3 (HMb w3 hM), fun h0 => absurd (show true = false from h0) (by decide), fun _ _ => hM, fun h0 => absurd (no7.symm.trans h0) (by decide)⟩⟩
      · exact .inl ⟨by kernel_rfl, fun L a1 w1 n' h => ⟨_, rfl, run_move (.tmp 2) rfl (h.var n' 2 (by kernel_rfl))⟩⟩
      · refine .inl ⟨by kernel_rfl, fun L a1 w1 n' h => ⟨.pointer (some ⟨g7, 1, none⟩), rfl, ?_⟩⟩
        have e0 : a1.eval (.tmp 7) = _ := h.var n' 7 (by kernel_rfl)
        unfold execOp
        simp only [e0]
        go_simp
      · exact .inl ⟨by kernel_rfl, fun L a1 w1 n' h => ⟨_, rfl, run_loadA 9 (.tmp 23) ⟨g7, 1, none⟩ rfl Try.isAgg9 (h.dep n' 5 23 (by kernel_rfl) rfl) ((h.inv.1).cell (j := 1) (v := encStr a.n) rfl)⟩⟩
      · refine .inr fun L a1 w1 n' h K hK => ?_
        have yes3 : L.getD 3 false = true := n'.dep (by kernel_rfl)
        have no7 : L.getD 7 false = false := n'.not_yet
        have hM := h.inv.2.2.1 ((bits_at rfl).trans yes3) ((bits_at rfl).trans no7)
        have y0 : a1.eval (.tmp 22) = ptr gr := h.dep n' 4 22 (by kernel_rfl) rfl
        have y1 : a1.eval (.tmp 24) = encStr a.n := h.dep n' 6 24 (by kernel_rfl) rfl
        refine st_call 38 _ _ #[ptr gr, encStr a.n] rfl Try.call38 ?_ (HD w1 hM) ?_
        · simp only [List.map_toArray, List.map_cons, List.map_nil, y0, y1]
        · rintro e w3 ⟨rfl, hN⟩
          exact ⟨_, rfl, hK _ w3 rfl ⟨HKr w3 hN.bu, fun h0 => absurd (yes3.symm.trans h0) (by decide), fun _ h0 => absurd (show true = false from h0) (by decide), fun _ => hN⟩⟩
      · exact .inl ⟨by kernel_rfl, fun L a1 w1 n' h => ⟨_, rfl, run_eqlI (.tmp 21) (.tmp 25) rfl (h.dep n' 3 21 (by kernel_rfl) rfl) (h.dep n' 7 25 (by kernel_rfl) rfl) (by simp)⟩⟩
      · exact .inl ⟨by kernel_rfl, fun L a1 w1 n' h => ⟨_, rfl, run_assign (.tmp 26) rfl (h.dep n' 8 26 (by kernel_rfl) rfl)⟩⟩
    case he2 =>
      intro V w9 hV hJ
      have hv : V 9 = .bool true := hV 9 8 rfl
      have hN := hJ.2.2.2 rfl
      clear hV hJ HP HD HMb HKr
      simp only [putOps, List.setIfInBounds_toArray, List.set_cons_succ, List.set_cons_zero, Nat.reduceAdd]
      rw [hv]
      refine hK1 _ _ ?_
      go_wp2_with fail
      go_ret
      exact ⟨rfl, hN.from B1⟩
  · have x2 : ¬ a.k % 10 = 2 := by omega
    go_enter Try.func15, Try.ntmps15
    go_wp2_with (first
      | ((with_reducible refine wl_box rfl 38 _ _ a.cells rfl rfl rfl ?_); intro g7 w1 r7 p7 l7 b7; have c70 : w1.cell? ⟨g7, 0, none⟩ = some (.int .u8 a.k) := r7.cell (j := 0) rfl; have c71 : w1.cell? ⟨g7, 1, none⟩ = some (encStr a.n) := r7.cell (j := 1) rfl; have c74 : w1.cell? ⟨g7, 4, none⟩ = some (.int .i64 a.q) := r7.cell (j := 4) rfl; have c75 : w1.cell? ⟨g7, 5, none⟩ = some (.slice a.CA a.cm a.cc) := r7.cell (j := 5) rfl))
    have B1 := b7
    have h1 := h.later b7
    have hy1 : Bs w1 w1.heap.size a.A a.m a.xs := (hy.below b7).up b7.size
    have hA1 : ∀ k ∈ (Value.slice a.A a.m a.c).ownBlock.toList, k < w1.heap.size ∧ k ∉ dblocks gd mb fs := fun k hk => ⟨Nat.lt_of_lt_of_le (hA k hk).1 b7.size, (hA k hk).2⟩
    have hc1 := hc.below (b7.mono h.dh.lo.2.2.2)
    clear h hy hA hc c70 b7 p7 l7
    clear c71 c74 c75
    obtain ⟨er, M, HMb, HP, HD⟩ := pair_sync h1 a.n (E := fun k => k ∈ (Value.slice a.A a.m a.c).ownBlock.toList ∧ a.k % 10 = 8)
    have HKr : ∀ X, Buts (allB gp gd mb gq gr fs) w1 X → Row X 38 g7 [.int .u8 a.k, encStr a.n, encStr a.t, .slice a.A a.m a.c, .int .i64 a.q, .slice a.CA a.cm a.cc] := fun X bu => h1.dh.keep r7 (by decide) (by decide) (by decide) (by decide) (by decide) bu

    clear h1 hy1 hA1 hc1
    go_wp2_with fail
    rename_i K1 hK1
    refine wp_region_vals [3, 7] (SDo3 gP gd gr g7 er a) (JDo w1 38 g7 [.int .u8 a.k, encStr a.n, encStr a.t, .slice a.A a.m a.c, .int .i64 a.q, .slice a.CA a.cm a.cc] M (DidX w1 B gP gp gd mb gq gr fs gs (fun k => k ∈ (Value.slice a.A a.m a.c).ownBlock.toList ∧ a.k % 10 = 8))) (by kernel_rfl) (by kernel_rfl) (by kernel_rfl) (by kernel_rfl) (by kernel_rfl) (JDo.start _ _ _ r7) ?obs3 ?he3
    case obs3 =>
      refine ⟨?_, ?_, ?_, ?_, ?_, ?_, ?_, ?_, ?_, ?_, trivial⟩
      · exact .inl ⟨by kernel_rfl, fun L a1 w1 n' h => ⟨_, rfl, run_move (.tmp 1) rfl (h.var n' 1 (by kernel_rfl))⟩⟩
      · refine .inl ⟨by kernel_rfl, fun L a1 w1 n' h => ⟨.pointer (some ⟨g7, 1, none⟩), rfl, ?_⟩⟩
        have e0 : a1.eval (.tmp 7) = _ := h.var n' 7 (by kernel_rfl)
        unfold execOp
        simp only [e0]
        go_simp
      · exact .inl ⟨by kernel_rfl, fun L a1 w1 n' h => ⟨_, rfl, run_loadA 9 (.tmp 30) ⟨g7, 1, none⟩ rfl Try.isAgg9 (h.dep n' 1 30 (by kernel_rfl) rfl) ((h.inv.1).cell (j := 1) (v := encStr a.n) rfl)⟩⟩
      · refine .inr fun L a1 w1 n' h K hK => ?_
        have no3 : L.getD 3 false = false := n'.not_yet
        have no7 : L.getD 7 false = false := n'.later (by kernel_rfl)
        have b9 := h.inv.2.1 ((bits_at rfl).trans no3)
        have y0 : a1.eval (.tmp 29) = ptr gd := h.dep n' 0 29 (by kernel_rfl) rfl
        have y1 : a1.eval (.tmp 31) = encStr a.n := h.dep n' 2 31 (by kernel_rfl) rfl
        refine st_call 29 _ _ #[ptr gd, encStr a.n] rfl Try.call29 ?_ (HP w1 b9) ?_
        · simp only [List.map_toArray, List.map_cons, List.map_nil, y0, y1]
        · rintro e w3 ⟨rfl, hM⟩
          exact ⟨_, rfl, hK _ w3 rfl ⟨HKr w3 (HMb w3 hM), fun h0 => absurd (show true = false from h0) (by decide), fun _ _ => hM, fun h0 => absurd (no7.symm.trans h0) (by decide)⟩⟩
      · exact .inl ⟨by kernel_rfl, fun L a1 w1 n' h => ⟨_, rfl, run_move (.tmp 2) rfl (h.var n' 2 (by kernel_rfl))⟩⟩
      · refine .inl ⟨by kernel_rfl, fun L a1 w1 n' h => ⟨.pointer (some ⟨g7, 1, none⟩), rfl, ?_⟩⟩
        have e0 : a1.eval (.tmp 7) = _ := h.var n' 7 (by kernel_rfl)
        unfold execOp
        simp only [e0]
        go_simp
      · exact .inl ⟨by kernel_rfl, fun L a1 w1 n' h => ⟨_, rfl, run_loadA 9 (.tmp 34) ⟨g7, 1, none⟩ rfl Try.isAgg9 (h.dep n' 5 34 (by kernel_rfl) rfl) ((h.inv.1).cell (j := 1) (v := encStr a.n) rfl)⟩⟩
      · refine .inr fun L a1 w1 n' h K hK => ?_
        have yes3 : L.getD 3 false = true := n'.dep (by kernel_rfl)
        have no7 : L.getD 7 false = false := n'.not_yet
        have hM := h.inv.2.2.1 ((bits_at rfl).trans yes3) ((bits_at rfl).trans no7)
        have y0 : a1.eval (.tmp 33) = ptr gr := h.dep n' 4 33 (by kernel_rfl) rfl
        have y1 : a1.eval (.tmp 35) = encStr a.n := h.dep n' 6 35 (by kernel_rfl) rfl
        refine st_call 39 _ _ #[ptr gr, encStr a.n] rfl Try.call39 ?_ (HD w1 hM) ?_
        · simp only [List.map_toArray, List.map_cons, List.map_nil, y0, y1]
        · rintro e w3 ⟨rfl, hN⟩
          exact ⟨_, rfl, hK _ w3 rfl ⟨HKr w3 hN.bu, fun h0 => absurd (yes3.symm.trans h0) (by decide), fun _ h0 => absurd (show true = false from h0) (by decide), fun _ => hN⟩⟩
      · exact .inl ⟨by kernel_rfl, fun L a1 w1 n' h => ⟨_, rfl, run_eqlI (.tmp 32) (.tmp 36) rfl (h.dep n' 3 32 (by kernel_rfl) rfl) (h.dep n' 7 36 (by kernel_rfl) rfl) (by simp)⟩⟩
      · exact .inl ⟨by kernel_rfl, fun L a1 w1 n' h => ⟨_, rfl, run_assign (.tmp 37) rfl (h.dep n' 8 37 (by kernel_rfl) rfl)⟩⟩
    case he3 =>
      intro V w9 hV hJ
      have hv : V 9 = .bool true := hV 9 8 rfl
      have hN := hJ.2.2.2 rfl
      clear hV hJ HP HD HMb HKr
      simp only [putOps, List.setIfInBounds_toArray, List.set_cons_succ, List.set_cons_zero, Nat.reduceAdd]
      rw [hv]
      refine hK1 _ _ ?_
      go_wp2_with fail
      go_ret
      exact ⟨rfl, hN.from B1⟩
  · have x2 : ¬ a.k % 10 = 2 := by omega
    have x3 : ¬ a.k % 10 = 3 := by omega
    go_enter Try.func15, Try.ntmps15
    go_wp2_with (first
      | ((with_reducible refine wl_box rfl 38 _ _ a.cells rfl rfl rfl ?_); intro g7 w1 r7 p7 l7 b7; have c70 : w1.cell? ⟨g7, 0, none⟩ = some (.int .u8 a.k) := r7.cell (j := 0) rfl; have c71 : w1.cell? ⟨g7, 1, none⟩ = some (encStr a.n) := r7.cell (j := 1) rfl; have c74 : w1.cell? ⟨g7, 4, none⟩ = some (.int .i64 a.q) := r7.cell (j := 4) rfl; have c75 : w1.cell? ⟨g7, 5, none⟩ = some (.slice a.CA a.cm a.cc) := r7.cell (j := 5) rfl))
    have B1 := b7
    have h1 := h.later b7
    have hy1 : Bs w1 w1.heap.size a.A a.m a.xs := (hy.below b7).up b7.size
    have hA1 : ∀ k ∈ (Value.slice a.A a.m a.c).ownBlock.toList, k < w1.heap.size ∧ k ∉ dblocks gd mb fs := fun k hk => ⟨Nat.lt_of_lt_of_le (hA k hk).1 b7.size, (hA k hk).2⟩
    have hc1 := hc.below (b7.mono h.dh.lo.2.2.2)
    clear h hy hA hc c70 b7 p7 l7
    clear c71 c74 c75
    obtain ⟨er, M, HMb, HP, HD⟩ := pair_rename h1 a.n a.t (E := fun k => k ∈ (Value.slice a.A a.m a.c).ownBlock.toList ∧ a.k % 10 = 8)
    have HKr : ∀ X, Buts (allB gp gd mb gq gr fs) w1 X → Row X 38 g7 [.int .u8 a.k, encStr a.n, encStr a.t, .slice a.A a.m a.c, .int .i64 a.q, .slice a.CA a.cm a.cc] := fun X bu => h1.dh.keep r7 (by decide) (by decide) (by decide) (by decide) (by decide) bu

    clear h1 hy1 hA1 hc1
    go_wp2_with fail
    rename_i K1 hK1
    refine wp_region_vals [5, 11] (SDo4 gP gd gr g7 er a) (JDo w1 38 g7 [.int .u8 a.k, encStr a.n, encStr a.t, .slice a.A a.m a.c, .int .i64 a.q, .slice a.CA a.cm a.cc] M (DidX w1 B gP gp gd mb gq gr fs gs (fun k => k ∈ (Value.slice a.A a.m a.c).ownBlock.toList ∧ a.k % 10 = 8))) (by kernel_rfl) (by kernel_rfl) (by kernel_rfl) (by kernel_rfl) (by kernel_rfl) (JDo.start _ _ _ r7) ?obs4 ?he4
    case obs4 =>
      refine ⟨?_, ?_, ?_, ?_, ?_, ?_, ?_, ?_, ?_, ?_, ?_, ?_, ?_, ?_, trivial⟩
      · exact .inl ⟨by kernel_rfl, fun L a1 w1 n' h => ⟨_, rfl, run_move (.tmp 1) rfl (h.var n' 1 (by kernel_rfl))⟩⟩
      · refine .inl ⟨by kernel_rfl, fun L a1 w1 n' h => ⟨.pointer (some ⟨g7, 1, none⟩), rfl, ?_⟩⟩
        have e0 : a1.eval (.tmp 7) = _ := h.var n' 7 (by kernel_rfl)
        unfold execOp
        simp only [e0]
        go_simp
      · exact .inl ⟨by kernel_rfl, fun L a1 w1 n' h => ⟨_, rfl, run_loadA 9 (.tmp 41) ⟨g7, 1, none⟩ rfl Try.isAgg9 (h.dep n' 1 41 (by kernel_rfl) rfl) ((h.inv.1).cell (j := 1) (v := encStr a.n) rfl)⟩⟩
      · refine .inl ⟨by kernel_rfl, fun L a1 w1 n' h => ⟨.pointer (some ⟨g7, 2, none⟩), rfl, ?_⟩⟩
        have e0 : a1.eval (.tmp 7) = _ := h.var n' 7 (by kernel_rfl)
        unfold execOp
        simp only [e0]
        go_simp
      · exact .inl ⟨by kernel_rfl, fun L a1 w1 n' h => ⟨_, rfl, run_loadA 9 (.tmp 43) ⟨g7, 2, none⟩ rfl Try.isAgg9 (h.dep n' 3 43 (by kernel_rfl) rfl) ((h.inv.1).cell (j := 2) (v := encStr a.t) rfl)⟩⟩
      · refine .inr fun L a1 w1 n' h K hK => ?_
        have no3 : L.getD 5 false = false := n'.not_yet
        have no7 : L.getD 11 false = false := n'.later (by kernel_rfl)
        have b9 := h.inv.2.1 ((bits_at rfl).trans no3)
        have y0 : a1.eval (.tmp 40) = ptr gd := h.dep n' 0 40 (by kernel_rfl) rfl
        have y1 : a1.eval (.tmp 42) = encStr a.n := h.dep n' 2 42 (by kernel_rfl) rfl
        have y2 : a1.eval (.tmp 44) = encStr a.t := h.dep n' 4 44 (by kernel_rfl) rfl
        refine st_call 34 _ _ #[ptr gd, encStr a.n, encStr a.t] rfl Try.call34 ?_ (HP w1 b9) ?_
        · simp only [List.map_toArray, List.map_cons, List.map_nil, y0, y1, y2]
        · rintro e w3 ⟨rfl, hM⟩
          exact ⟨_, rfl, hK _ w3 rfl ⟨HKr w3 (HMb w3 hM), fun h0 => absurd (show true = false from h0) (by decide), fun _ _ => hM, fun h0 => absurd (no7.symm.trans h0) (by decide)⟩⟩
      · exact .inl ⟨by kernel_rfl, fun L a1 w1 n' h => ⟨_, rfl, run_move (.tmp 2) rfl (h.var n' 2 (by kernel_rfl))⟩⟩
      · refine .inl ⟨by kernel_rfl, fun L a1 w1 n' h => ⟨.pointer (some ⟨g7, 1, none⟩), rfl, ?_⟩⟩
        have e0 : a1.eval (.tmp 7) = _ := h.var n' 7 (by kernel_rfl)
        unfold execOp
        simp only [e0]
        go_simp
      · exact .inl ⟨by kernel_rfl, fun L a1 w1 n' h => ⟨_, rfl, run_loadA 9 (.tmp 47) ⟨g7, 1, none⟩ rfl Try.isAgg9 (h.dep n' 7 47 (by kernel_rfl) rfl) ((h.inv.1).cell (j := 1) (v := encStr a.n) rfl)⟩⟩
      · refine .inl ⟨by kernel_rfl, fun L a1 w1 n' h => ⟨.pointer (some ⟨g7, 2, none⟩), rfl, ?_⟩⟩
        have e0 : a1.eval (.tmp 7) = _ := h.var n' 7 (by kernel_rfl)
        unfold execOp
        simp only [e0]
        go_simp
      · exact .inl ⟨by kernel_rfl, fun L a1 w1 n' h => ⟨_, rfl, run_loadA 9 (.tmp 49) ⟨g7, 2, none⟩ rfl Try.isAgg9 (h.dep n' 9 49 (by kernel_rfl) rfl) ((h.inv.1).cell (j := 2) (v := encStr a.t) rfl)⟩⟩
      · refine .inr fun L a1 w1 n' h K hK => ?_
        have yes3 : L.getD 5 false = true := n'.dep (by kernel_rfl)
        have no7 : L.getD 11 false = false := n'.not_yet
        have hM := h.inv.2.2.1 ((bits_at rfl).trans yes3) ((bits_at rfl).trans no7)
        have y0 : a1.eval (.tmp 46) = ptr gr := h.dep n' 6 46 (by kernel_rfl) rfl
        have y1 : a1.eval (.tmp 48) = encStr a.n := h.dep n' 8 48 (by kernel_rfl) rfl
        have y2 : a1.eval (.tmp 50) = encStr a.t := h.dep n' 10 50 (by kernel_rfl) rfl
        refine st_call 40 _ _ #[ptr gr, encStr a.n, encStr a.t] rfl Try.call40 ?_ (HD w1 hM) ?_
        · simp only [List.map_toArray, List.map_cons, List.map_nil, y0, y1, y2]
        · rintro e w3 ⟨rfl, hN⟩
          exact ⟨_, rfl, hK _ w3 rfl ⟨HKr w3 hN.bu, fun h0 => absurd (yes3.symm.trans h0) (by decide), fun _ h0 => absurd (show true = false from h0) (by decide), fun _ => hN⟩⟩
      · exact .inl ⟨by kernel_rfl, fun L a1 w1 n' h => ⟨_, rfl, run_eqlI (.tmp 45) (.tmp 51) rfl (h.dep n' 5 45 (by kernel_rfl) rfl) (h.dep n' 11 51 (by kernel_rfl) rfl) (by simp)⟩⟩
      · exact .inl ⟨by kernel_rfl, fun L a1 w1 n' h => ⟨_, rfl, run_assign (.tmp 52) rfl (h.dep n' 12 52 (by kernel_rfl) rfl)⟩⟩
    case he4 =>
      intro V w9 hV hJ
      have hv : V 13 = .bool true := hV 13 8 rfl
      have hN := hJ.2.2.2 rfl
      clear hV hJ HP HD HMb HKr
      simp only [putOps, List.setIfInBounds_toArray, List.set_cons_succ, List.set_cons_zero, Nat.reduceAdd]
      rw [hv]
      refine hK1 _ _ ?_
      go_wp2_with fail
      go_ret
      exact ⟨rfl, hN.from B1⟩
  · have x2 : ¬ a.k % 10 = 2 := by omega
    have x3 : ¬ a.k % 10 = 3 := by omega
    have x4 : ¬ a.k % 10 = 4 := by omega
    go_enter Try.func15, Try.ntmps15
    go_wp2_with (first
      | ((with_reducible refine wl_box rfl 38 _ _ a.cells rfl rfl rfl ?_); intro g7 w1 r7 p7 l7 b7; have c70 : w1.cell? ⟨g7, 0, none⟩ = some (.int .u8 a.k) := r7.cell (j := 0) rfl; have c71 : w1.cell? ⟨g7, 1, none⟩ = some (encStr a.n) := r7.cell (j := 1) rfl; have c74 : w1.cell? ⟨g7, 4, none⟩ = some (.int .i64 a.q) := r7.cell (j := 4) rfl; have c75 : w1.cell? ⟨g7, 5, none⟩ = some (.slice a.CA a.cm a.cc) := r7.cell (j := 5) rfl))
    have B1 := b7
    have h1 := h.later b7
    have hy1 : Bs w1 w1.heap.size a.A a.m a.xs := (hy.below b7).up b7.size
    have hA1 : ∀ k ∈ (Value.slice a.A a.m a.c).ownBlock.toList, k < w1.heap.size ∧ k ∉ dblocks gd mb fs := fun k hk => ⟨Nat.lt_of_lt_of_le (hA k hk).1 b7.size, (hA k hk).2⟩
    have hc1 := hc.below (b7.mono h.dh.lo.2.2.2)
    clear h hy hA hc c70 b7 p7 l7
    clear c71 c74 c75
    obtain ⟨er, M, HMb, HP, HD⟩ := pair_remove h1 a.n (E := fun k => k ∈ (Value.slice a.A a.m a.c).ownBlock.toList ∧ a.k % 10 = 8)
    have HKr : ∀ X, Buts (allB gp gd mb gq gr fs) w1 X → Row X 38 g7 [.int .u8 a.k, encStr a.n, encStr a.t, .slice a.A a.m a.c, .int .i64 a.q, .slice a.CA a.cm a.cc] := fun X bu => h1.dh.keep r7 (by decide) (by decide) (by decide) (by decide) (by decide) bu

    clear h1 hy1 hA1 hc1
    go_wp2_with fail
    rename_i K1 hK1
    refine wp_region_vals [3, 7] (SDo5 gP gd gr g7 er a) (JDo w1 38 g7 [.int .u8 a.k, encStr a.n, encStr a.t, .slice a.A a.m a.c, .int .i64 a.q, .slice a.CA a.cm a.cc] M (DidX w1 B gP gp gd mb gq gr fs gs (fun k => k ∈ (Value.slice a.A a.m a.c).ownBlock.toList ∧ a.k % 10 = 8))) (by kernel_rfl) (by kernel_rfl) (by kernel_rfl) (by kernel_rfl) (by kernel_rfl) (JDo.start _ _ _ r7) ?obs5 ?he5
    case obs5 =>
      refine ⟨?_, ?_, ?_, ?_, ?_, ?_, ?_, ?_, ?_, ?_, trivial⟩
      · exact .inl ⟨by kernel_rfl, fun L a1 w1 n' h => ⟨_, rfl, run_move (.tmp 1) rfl (h.var n' 1 (by kernel_rfl))⟩⟩
      · refine .inl ⟨by kernel_rfl, fun L a1 w1 n' h => ⟨.pointer (some ⟨g7, 1, none⟩), rfl, ?_⟩⟩
        have e0 : a1.eval (.tmp 7) = _ := h.var n' 7 (by kernel_rfl)
        unfold execOp
        simp only [e0]
        go_simp
      · exact .inl ⟨by kernel_rfl, fun L a1 w1 n' h => ⟨_, rfl, run_loadA 9 (.tmp 56) ⟨g7, 1, none⟩ rfl Try.isAgg9 (h.dep n' 1 56 (by kernel_rfl) rfl) ((h.inv.1).cell (j := 1) (v := encStr a.n) rfl)⟩⟩
      · refine .inr fun L a1 w1 n' h K hK => ?_
        have no3 : L.getD 3 false = false := n'.not_yet
        have no7 : L.getD 7 false = false := n'.later (by kernel_rfl)
        have b9 := h.inv.2.1 ((bits_at rfl).trans no3)
        have y0 : a1.eval (.tmp 55) = ptr gd := h.dep n' 0 55 (by kernel_rfl) rfl
        have y1 : a1.eval (.tmp 57) = encStr a.n := h.dep n' 2 57 (by kernel_rfl) rfl
        refine st_call 35 _ _ #[ptr gd, encStr a.n] rfl Try.call35 ?_ (HP w1 b9) ?_
        · simp only [List.map_toArray, List.map_cons, List.map_nil, y0, y1]
        · rintro e w3 ⟨rfl, hM⟩
          exact ⟨_, rfl, hK _ w3 rfl ⟨HKr w3 (HMb w3 hM), fun h0 => absurd (show true = false from h0) (by decide), fun _ _ => hM, fun h0 => absurd (no7.symm.trans h0) (by decide)⟩⟩
      · exact .inl ⟨by kernel_rfl, fun L a1 w1 n' h => ⟨_, rfl, run_move (.tmp 2) rfl (h.var n' 2 (by kernel_rfl))⟩⟩
      · refine .inl ⟨by kernel_rfl, fun L a1 w1 n' h => ⟨.pointer (some ⟨g7, 1, none⟩), rfl, ?_⟩⟩
        have e0 : a1.eval (.tmp 7) = _ := h.var n' 7 (by kernel_rfl)
        unfold execOp
        simp only [e0]
        go_simp
      · exact .inl ⟨by kernel_rfl, fun L a1 w1 n' h => ⟨_, rfl, run_loadA 9 (.tmp 60) ⟨g7, 1, none⟩ rfl Try.isAgg9 (h.dep n' 5 60 (by kernel_rfl) rfl) ((h.inv.1).cell (j := 1) (v := encStr a.n) rfl)⟩⟩
      · refine .inr fun L a1 w1 n' h K hK => ?_
        have yes3 : L.getD 3 false = true := n'.dep (by kernel_rfl)
        have no7 : L.getD 7 false = false := n'.not_yet
        have hM := h.inv.2.2.1 ((bits_at rfl).trans yes3) ((bits_at rfl).trans no7)
        have y0 : a1.eval (.tmp 59) = ptr gr := h.dep n' 4 59 (by kernel_rfl) rfl
        have y1 : a1.eval (.tmp 61) = encStr a.n := h.dep n' 6 61 (by kernel_rfl) rfl
        refine st_call 41 _ _ #[ptr gr, encStr a.n] rfl Try.call41 ?_ (HD w1 hM) ?_
        · simp only [List.map_toArray, List.map_cons, List.map_nil, y0, y1]
        · rintro e w3 ⟨rfl, hN⟩
          exact ⟨_, rfl, hK _ w3 rfl ⟨HKr w3 hN.bu, fun h0 => absurd (yes3.symm.trans h0) (by decide), fun _ h0 => absurd (show true = false from h0) (by decide), fun _ => hN⟩⟩
      · exact .inl ⟨by kernel_rfl, fun L a1 w1 n' h => ⟨_, rfl, run_eqlI (.tmp 58) (.tmp 62) rfl (h.dep n' 3 58 (by kernel_rfl) rfl) (h.dep n' 7 62 (by kernel_rfl) rfl) (by simp)⟩⟩
      · exact .inl ⟨by kernel_rfl, fun L a1 w1 n' h => ⟨_, rfl, run_assign (.tmp 63) rfl (h.dep n' 8 63 (by kernel_rfl) rfl)⟩⟩
    case he5 =>
      intro V w9 hV hJ
      have hv : V 9 = .bool true := hV 9 8 rfl
      have hN := hJ.2.2.2 rfl
      clear hV hJ HP HD HMb HKr
      simp only [putOps, List.setIfInBounds_toArray, List.set_cons_succ, List.set_cons_zero, Nat.reduceAdd]
      rw [hv]
      refine hK1 _ _ ?_
      go_wp2_with fail
      go_ret
      exact ⟨rfl, hN.from B1⟩
  · have x2 : ¬ a.k % 10 = 2 := by omega
    have x3 : ¬ a.k % 10 = 3 := by omega
    have x4 : ¬ a.k % 10 = 4 := by omega
    have x5 : ¬ a.k % 10 = 5 := by omega
    go_enter Try.func15, Try.ntmps15
    go_wp2_with (first
      | ((with_reducible refine wl_box rfl 38 _ _ a.cells rfl rfl rfl ?_); intro g7 w1 r7 p7 l7 b7; have c70 : w1.cell? ⟨g7, 0, none⟩ = some (.int .u8 a.k) := r7.cell (j := 0) rfl; have c71 : w1.cell? ⟨g7, 1, none⟩ = some (encStr a.n) := r7.cell (j := 1) rfl; have c74 : w1.cell? ⟨g7, 4, none⟩ = some (.int .i64 a.q) := r7.cell (j := 4) rfl; have c75 : w1.cell? ⟨g7, 5, none⟩ = some (.slice a.CA a.cm a.cc) := r7.cell (j := 5) rfl))
    have B1 := b7
    have h1 := h.later b7
    have hy1 : Bs w1 w1.heap.size a.A a.m a.xs := (hy.below b7).up b7.size
    have hA1 : ∀ k ∈ (Value.slice a.A a.m a.c).ownBlock.toList, k < w1.heap.size ∧ k ∉ dblocks gd mb fs := fun k hk => ⟨Nat.lt_of_lt_of_le (hA k hk).1 b7.size, (hA k hk).2⟩
    have hc1 := hc.below (b7.mono h.dh.lo.2.2.2)
    clear h hy hA hc c70 b7 p7 l7
    refine (fuse_p h1 a.q HQ.out).mono ?_
    rintro e w2 ⟨rfl, m2⟩
    have r72 : Row w2 38 g7 [.int .u8 a.k, encStr a.n, encStr a.t, .slice a.A a.m a.c, .int .i64 a.q, .slice a.CA a.cm a.cc] := h1.dh.keep r7 (by decide) (by decide) (by decide) (by decide) (by decide) m2.bu
    obtain ⟨AL, cl, rr2, _⟩ := m2.dh.rd
    have HD : ∀ X, Below w2.heap.size w2 X → Calls Try.prog 21 #[ptr gq, .int .i64 a.q] X fun e w' => e = .returned (.tuple #[]) ∧ DidX w1 B gP gp gd mb gq gr fs gs (fun k => k ∈ (Value.slice a.A a.m a.c).ownBlock.toList ∧ a.k % 10 = 8) w' := fun X b => fuse_d h1 a.q (m2.later b)
    clear h1 hy1 hA1 hc1 c71 c74 c75 m2
    go_wp2_with fail
    rename_i K1 hK1
    refine wp_region_vals [6] (SDo6 gr gq g7 cl AL gs a) (JOne w2 (DidX w1 B gP gp gd mb gq gr fs gs (fun k => k ∈ (Value.slice a.A a.m a.c).ownBlock.toList ∧ a.k % 10 = 8))) (by kernel_rfl) (by kernel_rfl) (by kernel_rfl) (by kernel_rfl) (by kernel_rfl) (JOne.start _ _) ?obs6 ?he6
    case obs6 =>
      refine ⟨?_, ?_, ?_, ?_, ?_, ?_, ?_, trivial⟩
      · exact .inl ⟨by kernel_rfl, fun L a1 w1 n' h => ⟨_, rfl, run_move (.tmp 2) rfl (h.var n' 2 (by kernel_rfl))⟩⟩
      · refine .inl ⟨by kernel_rfl, fun L a1 w1 n' h => ⟨ptr gr, rfl, ?_⟩⟩
        have e0 : a1.eval (.tmp 70) = _ := h.dep n' 0 70 (by kernel_rfl) rfl
        unfold execOp
        simp only [e0]
        go_simp
      · refine .inl ⟨by kernel_rfl, fun L a1 w1 n' h => ⟨.pointer (some ⟨gr, 0, none⟩), rfl, ?_⟩⟩
        have e0 : a1.eval (.tmp 71) = _ := h.dep n' 1 71 (by kernel_rfl) rfl
        unfold execOp
        simp only [e0]
        go_simp
      · exact .inl ⟨by kernel_rfl, fun L a1 w1 n' h => ⟨_, rfl, run_loadA 30 (.tmp 72) ⟨gr, 0, none⟩ rfl Try.isAgg30 (h.dep n' 2 72 (by kernel_rfl) rfl) ((Row.later rr2 (h.inv.1 ((bits_at rfl).trans (n'.later (by kernel_rfl))))).cell (j := 0) (v := ptr gq) rfl)⟩⟩
      · refine .inl ⟨by kernel_rfl, fun L a1 w1 n' h => ⟨.pointer (some ⟨g7, 4, none⟩), rfl, ?_⟩⟩
        have e0 : a1.eval (.tmp 7) = _ := h.var n' 7 (by kernel_rfl)
        unfold execOp
        simp only [e0]
        go_simp
      · exact .inl ⟨by kernel_rfl, fun L a1 w1 n' h => ⟨_, rfl, run_loadA 3 (.tmp 74) ⟨g7, 4, none⟩ rfl Try.isAgg3 (h.dep n' 4 74 (by kernel_rfl) rfl) ((Row.later r72 (h.inv.1 ((bits_at rfl).trans (n'.later (by kernel_rfl))))).cell (j := 4) (v := .int .i64 a.q) rfl)⟩⟩
      · refine .inr fun L a1 w1 n' h K hK => ?_
        have no : L.getD 6 false = false := n'.not_yet
        have b9 := h.inv.1 ((bits_at rfl).trans no)
        have y0 : a1.eval (.tmp 73) = ptr gq := h.dep n' 3 73 (by kernel_rfl) rfl
        have y1 : a1.eval (.tmp 75) = .int .i64 a.q := h.dep n' 5 75 (by kernel_rfl) rfl
        refine st_call 21 _ _ #[ptr gq, .int .i64 a.q] rfl Try.call21 ?_ (HD w1 b9) ?_
        · simp only [List.map_toArray, List.map_cons, List.map_nil, y0, y1]
        · rintro e w3 ⟨rfl, hN⟩
          exact ⟨_, rfl, hK _ w3 trivial ⟨fun h0 => absurd (show true = false from h0) (by decide), fun _ => hN⟩⟩
    case he6 =>
      intro V w9 hV hJ
      have hN := hJ.2 rfl
      clear hV hJ HD
      simp only [putOps, List.setIfInBounds_toArray, List.set_cons_succ, List.set_cons_zero, Nat.reduceAdd]
      refine hK1 _ _ ?_
      go_wp2_with fail
      go_ret
      exact ⟨rfl, hN.from B1⟩
  · have x2 : ¬ a.k % 10 = 2 := by omega
    have x3 : ¬ a.k % 10 = 3 := by omega
    have x4 : ¬ a.k % 10 = 4 := by omega
    have x5 : ¬ a.k % 10 = 5 := by omega
    have x6 : ¬ a.k % 10 = 6 := by omega
    go_enter Try.func15, Try.ntmps15
    go_wp2_with (first
      | ((with_reducible refine wl_box rfl 38 _ _ a.cells rfl rfl rfl ?_); intro g7 w1 r7 p7 l7 b7; have c70 : w1.cell? ⟨g7, 0, none⟩ = some (.int .u8 a.k) := r7.cell (j := 0) rfl; have c71 : w1.cell? ⟨g7, 1, none⟩ = some (encStr a.n) := r7.cell (j := 1) rfl; have c74 : w1.cell? ⟨g7, 4, none⟩ = some (.int .i64 a.q) := r7.cell (j := 4) rfl; have c75 : w1.cell? ⟨g7, 5, none⟩ = some (.slice a.CA a.cm a.cc) := r7.cell (j := 5) rfl))
    have B1 := b7
    have h1 := h.later b7
    have hy1 : Bs w1 w1.heap.size a.A a.m a.xs := (hy.below b7).up b7.size
    have hA1 : ∀ k ∈ (Value.slice a.A a.m a.c).ownBlock.toList, k < w1.heap.size ∧ k ∉ dblocks gd mb fs := fun k hk => ⟨Nat.lt_of_lt_of_le (hA k hk).1 b7.size, (hA k hk).2⟩
    have hc1 := hc.below (b7.mono h.dh.lo.2.2.2)
    clear h hy hA hc c70 b7 p7 l7
    refine (crash_p h1 hc1).mono ?_
    rintro e w2 ⟨rfl, m2⟩
    have r72 : Row w2 38 g7 [.int .u8 a.k, encStr a.n, encStr a.t, .slice a.A a.m a.c, .int .i64 a.q, .slice a.CA a.cm a.cc] := h1.dh.keep r7 (by decide) (by decide) (by decide) (by decide) (by decide) m2.bu
    have c75 : w2.cell? ⟨g7, 5, none⟩ = some (.slice a.CA a.cm a.cc) := r72.cell (j := 5) rfl
    have HD := hide (crash_d (c := a.cc) (E := fun k => k ∈ (Value.slice a.A a.m a.c).ownBlock.toList ∧ a.k % 10 = 8) h1 m2 hc1)
    clear h1 hy1 hA1 hc1 c71 c74 m2
    go_wp2_with fail
    refine HD.out.mono ?_
    rintro e w3 ⟨rfl, hN⟩
    go_wp2_with fail
    go_ret
    exact ⟨rfl, hN.from B1⟩
  · have x2 : ¬ a.k % 10 = 2 := by omega
    have x3 : ¬ a.k % 10 = 3 := by omega
    have x4 : ¬ a.k % 10 = 4 := by omega
    have x5 : ¬ a.k % 10 = 5 := by omega
    have x6 : ¬ a.k % 10 = 6 := by omega
    have x7 : ¬ a.k % 10 = 7 := by omega
    go_enter Try.func15, Try.ntmps15
    go_wp2_with (first
      | ((with_reducible refine wl_box rfl 38 _ _ a.cells rfl rfl rfl ?_); intro g7 w1 r7 p7 l7 b7; have c70 : w1.cell? ⟨g7, 0, none⟩ = some (.int .u8 a.k) := r7.cell (j := 0) rfl; have c71 : w1.cell? ⟨g7, 1, none⟩ = some (encStr a.n) := r7.cell (j := 1) rfl; have c74 : w1.cell? ⟨g7, 4, none⟩ = some (.int .i64 a.q) := r7.cell (j := 4) rfl; have c75 : w1.cell? ⟨g7, 5, none⟩ = some (.slice a.CA a.cm a.cc) := r7.cell (j := 5) rfl))
    have B1 := b7
    have h1 := h.later b7
    have hy1 : Bs w1 w1.heap.size a.A a.m a.xs := (hy.below b7).up b7.size
    have hA1 : ∀ k ∈ (Value.slice a.A a.m a.c).ownBlock.toList, k < w1.heap.size ∧ k ∉ dblocks gd mb fs := fun k hk => ⟨Nat.lt_of_lt_of_le (hA k hk).1 b7.size, (hA k hk).2⟩
    have hc1 := hc.below (b7.mono h.dh.lo.2.2.2)
    clear h hy hA hc c70 b7 p7 l7
    clear c71 c74 c75
    obtain ⟨er, M, HMb, HP, HD⟩ := pair_edit h1 a.n hy1 hmc hA1
    have HKr : ∀ X, Buts (allB gp gd mb gq gr fs) w1 X → Row X 38 g7 [.int .u8 a.k, encStr a.n, encStr a.t, .slice a.A a.m a.c, .int .i64 a.q, .slice a.CA a.cm a.cc] := fun X bu => h1.dh.keep r7 (by decide) (by decide) (by decide) (by decide) (by decide) bu
    have hk8 := hide hk
    clear h1 hy1 hA1 hc1
    go_wp2_with fail
    rename_i K1 hK1
    refine wp_region_vals [5, 11] (SDo8 gP gd gr g7 er a) (JDo w1 38 g7 [.int .u8 a.k, encStr a.n, encStr a.t, .slice a.A a.m a.c, .int .i64 a.q, .slice a.CA a.cm a.cc] M (DidX w1 B gP gp gd mb gq gr fs gs (fun k => k ∈ (Value.slice a.A a.m a.c).ownBlock.toList))) (by kernel_rfl) (by kernel_rfl) (by kernel_rfl) (by kernel_rfl) (by kernel_rfl) (JDo.start _ _ _ r7) ?obs8 ?he8
    case obs8 =>
      refine ⟨?_, ?_, ?_, ?_, ?_, ?_, ?_, ?_, ?_, ?_, ?_, ?_, ?_, ?_, trivial⟩
      · exact .inl ⟨by kernel_rfl, fun L a1 w1 n' h => ⟨_, rfl, run_move (.tmp 1) rfl (h.var n' 1 (by kernel_rfl))⟩⟩
      · refine .inl ⟨by kernel_rfl, fun L a1 w1 n' h => ⟨.pointer (some ⟨g7, 1, none⟩), rfl, ?_⟩⟩
        have e0 : a1.eval (.tmp 7) = _ := h.var n' 7 (by kernel_rfl)
        unfold execOp
        simp only [e0]
        go_simp
      · exact .inl ⟨by kernel_rfl, fun L a1 w1 n' h => ⟨_, rfl, run_loadA 9 (.tmp 90) ⟨g7, 1, none⟩ rfl Try.isAgg9 (h.dep n' 1 90 (by kernel_rfl) rfl) ((h.inv.1).cell (j := 1) (v := encStr a.n) rfl)⟩⟩
      · refine .inl ⟨by kernel_rfl, fun L a1 w1 n' h => ⟨.pointer (some ⟨g7, 3, none⟩), rfl, ?_⟩⟩
        have e0 : a1.eval (.tmp 7) = _ := h.var n' 7 (by kernel_rfl)
        unfold execOp
        simp only [e0]
        go_simp
      · exact .inl ⟨by kernel_rfl, fun L a1 w1 n' h => ⟨_, rfl, run_loadA 35 (.tmp 92) ⟨g7, 3, none⟩ rfl Try.isAgg35 (h.dep n' 3 92 (by kernel_rfl) rfl) ((h.inv.1).cell (j := 3) (v := .slice a.A a.m a.c) rfl)⟩⟩
      · refine .inr fun L a1 w1 n' h K hK => ?_
        have no3 : L.getD 5 false = false := n'.not_yet
        have no7 : L.getD 11 false = false := n'.later (by kernel_rfl)
        have b9 := h.inv.2.1 ((bits_at rfl).trans no3)
        have y0 : a1.eval (.tmp 89) = ptr gd := h.dep n' 0 89 (by kernel_rfl) rfl
        have y1 : a1.eval (.tmp 91) = encStr a.n := h.dep n' 2 91 (by kernel_rfl) rfl
        have y2 : a1.eval (.tmp 93) = .slice a.A a.m a.c := h.dep n' 4 93 (by kernel_rfl) rfl
        refine st_call 33 _ _ #[ptr gd, encStr a.n, .slice a.A a.m a.c] rfl Try.call33 ?_ (HP w1 b9) ?_
        · simp only [List.map_toArray, List.map_cons, List.map_nil, y0, y1, y2]
        · rintro e w3 ⟨rfl, hM⟩
          exact ⟨_, rfl, hK _ w3 rfl ⟨HKr w3 (HMb w3 hM), fun h0 => absurd (show true = false from h0) (by decide), fun _ _ => hM, fun h0 => absurd (no7.symm.trans h0) (by decide)⟩⟩
      · exact .inl ⟨by kernel_rfl, fun L a1 w1 n' h => ⟨_, rfl, run_move (.tmp 2) rfl (h.var n' 2 (by kernel_rfl))⟩⟩
      · refine .inl ⟨by kernel_rfl, fun L a1 w1 n' h => ⟨.pointer (some ⟨g7, 1, none⟩), rfl, ?_⟩⟩
        have e0 : a1.eval (.tmp 7) = _ := h.var n' 7 (by kernel_rfl)
        unfold execOp
        simp only [e0]
        go_simp
      · exact .inl ⟨by kernel_rfl, fun L a1 w1 n' h => ⟨_, rfl, run_loadA 9 (.tmp 96) ⟨g7, 1, none⟩ rfl Try.isAgg9 (h.dep n' 7 96 (by kernel_rfl) rfl) ((h.inv.1).cell (j := 1) (v := encStr a.n) rfl)⟩⟩
      · refine .inl ⟨by kernel_rfl, fun L a1 w1 n' h => ⟨.pointer (some ⟨g7, 3, none⟩), rfl, ?_⟩⟩
        have e0 : a1.eval (.tmp 7) = _ := h.var n' 7 (by kernel_rfl)
        unfold execOp
        simp only [e0]
        go_simp
      · exact .inl ⟨by kernel_rfl, fun L a1 w1 n' h => ⟨_, rfl, run_loadA 35 (.tmp 98) ⟨g7, 3, none⟩ rfl Try.isAgg35 (h.dep n' 9 98 (by kernel_rfl) rfl) ((h.inv.1).cell (j := 3) (v := .slice a.A a.m a.c) rfl)⟩⟩
      · refine .inr fun L a1 w1 n' h K hK => ?_
        have yes3 : L.getD 5 false = true := n'.dep (by kernel_rfl)
        have no7 : L.getD 11 false = false := n'.not_yet
        have hM := h.inv.2.2.1 ((bits_at rfl).trans yes3) ((bits_at rfl).trans no7)
        have y0 : a1.eval (.tmp 95) = ptr gr := h.dep n' 6 95 (by kernel_rfl) rfl
        have y1 : a1.eval (.tmp 97) = encStr a.n := h.dep n' 8 97 (by kernel_rfl) rfl
        have y2 : a1.eval (.tmp 99) = .slice a.A a.m a.c := h.dep n' 10 99 (by kernel_rfl) rfl
        refine st_call 43 _ _ #[ptr gr, encStr a.n, .slice a.A a.m a.c] rfl Try.call43 ?_ (HD w1 hM) ?_
        · simp only [List.map_toArray, List.map_cons, List.map_nil, y0, y1, y2]
        · rintro e w3 ⟨rfl, hN⟩
          exact ⟨_, rfl, hK _ w3 rfl ⟨HKr w3 hN.bu, fun h0 => absurd (yes3.symm.trans h0) (by decide), fun _ h0 => absurd (show true = false from h0) (by decide), fun _ => hN⟩⟩
      · exact .inl ⟨by kernel_rfl, fun L a1 w1 n' h => ⟨_, rfl, run_eqlI (.tmp 94) (.tmp 100) rfl (h.dep n' 5 94 (by kernel_rfl) rfl) (h.dep n' 11 100 (by kernel_rfl) rfl) (by simp)⟩⟩
      · exact .inl ⟨by kernel_rfl, fun L a1 w1 n' h => ⟨_, rfl, run_assign (.tmp 101) rfl (h.dep n' 12 101 (by kernel_rfl) rfl)⟩⟩
    case he8 =>
      intro V w9 hV hJ
      have hv : V 13 = .bool true := hV 13 8 rfl
      have hN := hJ.2.2.2 rfl
      clear hV hJ HP HD HMb HKr
      simp only [putOps, List.setIfInBounds_toArray, List.set_cons_succ, List.set_cons_zero, Nat.reduceAdd]
      rw [hv]
      refine hK1 _ _ ?_
      go_wp2_with fail
      go_ret
      exact ⟨rfl, (hN.mono (fun k hk => ⟨hk, hk8.out⟩)).from B1⟩
  · have x2 : ¬ a.k % 10 = 2 := by omega
    have x3 : ¬ a.k % 10 = 3 := by omega
    have x4 : ¬ a.k % 10 = 4 := by omega
    have x5 : ¬ a.k % 10 = 5 := by omega
    have x6 : ¬ a.k % 10 = 6 := by omega
    have x7 : ¬ a.k % 10 = 7 := by omega
    have x8 : ¬ a.k % 10 = 8 := by omega
    go_enter Try.func15, Try.ntmps15
    go_wp2_with (first
      | ((with_reducible refine wl_box rfl 38 _ _ a.cells rfl rfl rfl ?_); intro g7 w1 r7 p7 l7 b7; have c70 : w1.cell? ⟨g7, 0, none⟩ = some (.int .u8 a.k) := r7.cell (j := 0) rfl; have c71 : w1.cell? ⟨g7, 1, none⟩ = some (encStr a.n) := r7.cell (j := 1) rfl; have c74 : w1.cell? ⟨g7, 4, none⟩ = some (.int .i64 a.q) := r7.cell (j := 4) rfl; have c75 : w1.cell? ⟨g7, 5, none⟩ = some (.slice a.CA a.cm a.cc) := r7.cell (j := 5) rfl))
    have B1 := b7
    have h1 := h.later b7
    have hy1 : Bs w1 w1.heap.size a.A a.m a.xs := (hy.below b7).up b7.size
    have hA1 : ∀ k ∈ (Value.slice a.A a.m a.c).ownBlock.toList, k < w1.heap.size ∧ k ∉ dblocks gd mb fs := fun k hk => ⟨Nat.lt_of_lt_of_le (hA k hk).1 b7.size, (hA k hk).2⟩
    have hc1 := hc.below (b7.mono h.dh.lo.2.2.2)
    clear h hy hA hc c70 b7 p7 l7
    have HRd := read_any w1 B gd mb (ptr gp) on fuse fs a.n h1.dh.dk (.inl ⟨gp, rfl, h1.dh.pl⟩)
    obtain ⟨v1, v2, v3⟩ := find_view a.n [] on h1.vw
    have vn := find_n a.n [] on h1.vw h1.dh.tidyF h1.dh.tidyG
    rw [v1, v3, vn] at HRd
    obtain ⟨ff, fe, hfr⟩ : ∃ ff fe, findR gs a.n [] on = (ff, fe) := ⟨_, _, rfl⟩
    rw [hfr] at HRd
    simp only at HRd
    have HRr : ∀ X, Below w1.heap.size w1 X → Calls Try.prog 44 #[ptr gr, encStr a.n] X fun e w' => ∃ A c, e = .returned (.tuple #[.slice A ff.n c, .int .i64 fe]) ∧ Bs w' w'.heap.size A ff.n ff.xs ∧ Below X.heap.size X w' := fun X b => by
      have := rread_any X gq gr on fuse gs a.n (h1.later b).dh.rp (h1.later b).dh.rd h1.few
      rw [hfr] at this
      exact this
    have HRd := hide HRd
    have HRr := hide HRr
    have H1 := hide h1
    clear h1 hy1 hA1 hc1 c74 c75 v1 v2 v3 vn hfr
    refine HRd.out.mono ?_
    rintro e w2 ⟨A2, c2, rfl, own2, b2⟩
    have r72 := r7.later b2
    have c71 : w2.cell? ⟨g7, 1, none⟩ = some (encStr a.n) := r72.cell (j := 1) rfl
    have HR2 := hide (HRr.out w2 b2)
    go_wp2_with fail
    refine HR2.out.mono ?_
    rintro e w3 ⟨A3, c3, rfl, hb3, b3⟩
    have hb2 := own_bsD (ownr_later own2 b3)
    have HB3 := hide (And.intro hb2 hb3)
    have B3 := hide (b2.trans (b3.mono b2.size))
    clear own2 hb2 hb3 HR2 HRr HRd b2 b3
    go_wp2_with fail
    refine (equal_bothD A2 A3 ff.n ff.n c2 c3 _ w3 HB3.out.1 HB3.out.2).mono ?_
    rintro e w4 ⟨rfl, rfl⟩
    go_wp2_with fail
    go_ret
    exact ⟨rfl, (DidX.same H1.out B3.out).from B1⟩
  · have x2 : ¬ a.k % 10 = 2 := by omega
    have x3 : ¬ a.k % 10 = 3 := by omega
    have x4 : ¬ a.k % 10 = 4 := by omega
    have x5 : ¬ a.k % 10 = 5 := by omega
    have x6 : ¬ a.k % 10 = 6 := by omega
    have x7 : ¬ a.k % 10 = 7 := by omega
    have x8 : ¬ a.k % 10 = 8 := by omega
    have x9 : ¬ a.k % 10 = 9 := by omega
    go_enter Try.func15, Try.ntmps15
    go_wp2_with (first
      | ((with_reducible refine wl_box rfl 38 _ _ a.cells rfl rfl rfl ?_); intro g7 w1 r7 p7 l7 b7; have c70 : w1.cell? ⟨g7, 0, none⟩ = some (.int .u8 a.k) := r7.cell (j := 0) rfl; have c71 : w1.cell? ⟨g7, 1, none⟩ = some (encStr a.n) := r7.cell (j := 1) rfl; have c74 : w1.cell? ⟨g7, 4, none⟩ = some (.int .i64 a.q) := r7.cell (j := 4) rfl; have c75 : w1.cell? ⟨g7, 5, none⟩ = some (.slice a.CA a.cm a.cc) := r7.cell (j := 5) rfl))
    have B1 := b7
    have h1 := h.later b7
    have hy1 : Bs w1 w1.heap.size a.A a.m a.xs := (hy.below b7).up b7.size
    have hA1 : ∀ k ∈ (Value.slice a.A a.m a.c).ownBlock.toList, k < w1.heap.size ∧ k ∉ dblocks gd mb fs := fun k hk => ⟨Nat.lt_of_lt_of_le (hA k hk).1 b7.size, (hA k hk).2⟩
    have hc1 := hc.below (b7.mono h.dh.lo.2.2.2)
    clear h hy hA hc c70 b7 p7 l7
    clear c71 c74 c75
    obtain ⟨er, M, HMb, HP, HD⟩ := pair_append h1 a.n hy1 (by omega) hA1 (E := fun k => k ∈ (Value.slice a.A a.m a.c).ownBlock.toList ∧ a.k % 10 = 8)
    have HKr : ∀ X, Buts (allB gp gd mb gq gr fs) w1 X → Row X 38 g7 [.int .u8 a.k, encStr a.n, encStr a.t, .slice a.A a.m a.c, .int .i64 a.q, .slice a.CA a.cm a.cc] := fun X bu => h1.dh.keep r7 (by decide) (by decide) (by decide) (by decide) (by decide) bu

    clear h1 hy1 hA1 hc1
    go_wp2_with fail
    rename_i K1 hK1
    refine wp_region_vals [5, 11] (SDo0 gP gd gr g7 er a) (JDo w1 38 g7 [.int .u8 a.k, encStr a.n, encStr a.t, .slice a.A a.m a.c, .int .i64 a.q, .slice a.CA a.cm a.cc] M (DidX w1 B gP gp gd mb gq gr fs gs (fun k => k ∈ (Value.slice a.A a.m a.c).ownBlock.toList ∧ a.k % 10 = 8))) (by kernel_rfl) (by kernel_rfl) (by kernel_rfl) (by kernel_rfl) (by kernel_rfl) (JDo.start _ _ _ r7) ?obs0 ?he0
    case obs0 =>
      refine ⟨?_, ?_, ?_, ?_, ?_, ?_, ?_, ?_, ?_, ?_, ?_, ?_, ?_, ?_, trivial⟩
      · exact .inl ⟨by kernel_rfl, fun L a1 w1 n' h => ⟨_, rfl, run_move (.tmp 1) rfl (h.var n' 1 (by kernel_rfl))⟩⟩
      · refine .inl ⟨by kernel_rfl, fun L a1 w1 n' h => ⟨.pointer (some ⟨g7, 1, none⟩), rfl, ?_⟩⟩
        have e0 : a1.eval (.tmp 7) = _ := h.var n' 7 (by kernel_rfl)
        unfold execOp
        simp only [e0]
        go_simp
      · exact .inl ⟨by kernel_rfl, fun L a1 w1 n' h => ⟨_, rfl, run_loadA 9 (.tmp 127) ⟨g7, 1, none⟩ rfl Try.isAgg9 (h.dep n' 1 127 (by kernel_rfl) rfl) ((h.inv.1).cell (j := 1) (v := encStr a.n) rfl)⟩⟩
      · refine .inl ⟨by kernel_rfl, fun L a1 w1 n' h => ⟨.pointer (some ⟨g7, 3, none⟩), rfl, ?_⟩⟩
        have e0 : a1.eval (.tmp 7) = _ := h.var n' 7 (by kernel_rfl)
        unfold execOp
        simp only [e0]
        go_simp
      · exact .inl ⟨by kernel_rfl, fun L a1 w1 n' h => ⟨_, rfl, run_loadA 35 (.tmp 129) ⟨g7, 3, none⟩ rfl Try.isAgg35 (h.dep n' 3 129 (by kernel_rfl) rfl) ((h.inv.1).cell (j := 3) (v := .slice a.A a.m a.c) rfl)⟩⟩
      · refine .inr fun L a1 w1 n' h K hK => ?_
        have no3 : L.getD 5 false = false := n'.not_yet
        have no7 : L.getD 11 false = false := n'.later (by kernel_rfl)
        have b9 := h.inv.2.1 ((bits_at rfl).trans no3)
        have y0 : a1.eval (.tmp 126) = ptr gd := h.dep n' 0 126 (by kernel_rfl) rfl
        have y1 : a1.eval (.tmp 128) = encStr a.n := h.dep n' 2 128 (by kernel_rfl) rfl
        have y2 : a1.eval (.tmp 130) = .slice a.A a.m a.c := h.dep n' 4 130 (by kernel_rfl) rfl
        refine st_call 28 _ _ #[ptr gd, encStr a.n, .slice a.A a.m a.c] rfl Try.call28 ?_ (HP w1 b9) ?_
        · simp only [List.map_toArray, List.map_cons, List.map_nil, y0, y1, y2]
        · rintro e w3 ⟨rfl, hM⟩
          exact ⟨_, rfl, hK _ w3 rfl ⟨HKr w3 (HMb w3 hM), fun h0 => absurd (show true = false from h0) (by decide), fun _ _ => hM, fun h0 => absurd (no7.symm.trans h0) (by decide)⟩⟩
      · exact .inl ⟨by kernel_rfl, fun L a1 w1 n' h => ⟨_, rfl, run_move (.tmp 2) rfl (h.var n' 2 (by kernel_rfl))⟩⟩
      · refine .inl ⟨by kernel_rfl, fun L a1 w1 n' h => ⟨.pointer (some ⟨g7, 1, none⟩), rfl, ?_⟩⟩
        have e0 : a1.eval (.tmp 7) = _ := h.var n' 7 (by kernel_rfl)
        unfold execOp
        simp only [e0]
        go_simp
      · exact .inl ⟨by kernel_rfl, fun L a1 w1 n' h => ⟨_, rfl, run_loadA 9 (.tmp 133) ⟨g7, 1, none⟩ rfl Try.isAgg9 (h.dep n' 7 133 (by kernel_rfl) rfl) ((h.inv.1).cell (j := 1) (v := encStr a.n) rfl)⟩⟩
      · refine .inl ⟨by kernel_rfl, fun L a1 w1 n' h => ⟨.pointer (some ⟨g7, 3, none⟩), rfl, ?_⟩⟩
        have e0 : a1.eval (.tmp 7) = _ := h.var n' 7 (by kernel_rfl)
        unfold execOp
        simp only [e0]
        go_simp
      · exact .inl ⟨by kernel_rfl, fun L a1 w1 n' h => ⟨_, rfl, run_loadA 35 (.tmp 135) ⟨g7, 3, none⟩ rfl Try.isAgg35 (h.dep n' 9 135 (by kernel_rfl) rfl) ((h.inv.1).cell (j := 3) (v := .slice a.A a.m a.c) rfl)⟩⟩
      · refine .inr fun L a1 w1 n' h K hK => ?_
        have yes3 : L.getD 5 false = true := n'.dep (by kernel_rfl)
        have no7 : L.getD 11 false = false := n'.not_yet
        have hM := h.inv.2.2.1 ((bits_at rfl).trans yes3) ((bits_at rfl).trans no7)
        have y0 : a1.eval (.tmp 132) = ptr gr := h.dep n' 6 132 (by kernel_rfl) rfl
        have y1 : a1.eval (.tmp 134) = encStr a.n := h.dep n' 8 134 (by kernel_rfl) rfl
        have y2 : a1.eval (.tmp 136) = .slice a.A a.m a.c := h.dep n' 10 136 (by kernel_rfl) rfl
        refine st_call 45 _ _ #[ptr gr, encStr a.n, .slice a.A a.m a.c] rfl Try.call45 ?_ (HD w1 hM) ?_
        · simp only [List.map_toArray, List.map_cons, List.map_nil, y0, y1, y2]
        · rintro e w3 ⟨rfl, hN⟩
          exact ⟨_, rfl, hK _ w3 rfl ⟨HKr w3 hN.bu, fun h0 => absurd (yes3.symm.trans h0) (by decide), fun _ h0 => absurd (show true = false from h0) (by decide), fun _ => hN⟩⟩
      · exact .inl ⟨by kernel_rfl, fun L a1 w1 n' h => ⟨_, rfl, run_eqlI (.tmp 131) (.tmp 137) rfl (h.dep n' 5 131 (by kernel_rfl) rfl) (h.dep n' 11 137 (by kernel_rfl) rfl) (by simp)⟩⟩
      · exact .inl ⟨by kernel_rfl, fun L a1 w1 n' h => ⟨_, rfl, run_assign (.tmp 138) rfl (h.dep n' 12 138 (by kernel_rfl) rfl)⟩⟩
    case he0 =>
      intro V w9 hV hJ
      have hv : V 13 = .bool true := hV 13 8 rfl
      have hN := hJ.2.2.2 rfl
      clear hV hJ HP HD HMb HKr
      simp only [putOps, List.setIfInBounds_toArray, List.set_cons_succ, List.set_cons_zero, Nat.reduceAdd]
      rw [hv]
      refine hK1 _ _ ?_
      go_wp2_with fail
      go_ret
      exact ⟨rfl, hN.from B1⟩
end Go.Proofs.Ytaflmiopaiigbaa

/-
  Both disks: what the law's rounds keep. Own work.
-/
namespace Go.Proofs.Ytaflmiopaiigbaa
open Go.RowKit Go.Maps Go.ChangeMaps
section
variable {w w' : World} {B gP gp gd mb gq gr : Nat} {on : Bool} {fuse : Int} {fs gs : Fs}
/-- Bytes that are neither's turn. -/
theorem DW.turn (h : DW w B gP gp gd mb gq gr on fuse fs gs) {g : Nat} {vs vs' : List Value} (r : Row w 5 g vs) (ho : Only g w w') (h1 : g ∉ dblocks gd mb fs) (h2 : ∀ p ∈ gs, g ∉ p.2.bk) : DW w' B gP gp gd mb gq gr on fuse fs gs := by
  have hb : Buts [g] w w' := Buts.only ho (by simp)
  refine ⟨⟨h.dh.pw.only ho (rne h.dh.pw r (by decide)), h.dh.pl.only ho (rne h.dh.pl r (by decide)), h.dh.dk.buts hb (fun k hk hm => h1 (by rw [← List.mem_singleton.1 hm]; exact hk)), fun p hp => ⟨(h.dh.ap p hp).1, fun k hk => ⟨Nat.lt_of_lt_of_le ((h.dh.ap p hp).2 k hk).1 hb.size, ((h.dh.ap p hp).2 k hk).2⟩⟩, h.dh.rp.only ho (rne h.dh.rp r (by decide)), h.dh.rd.buts hb ?_ (fun k vs r2 => by simp; exact rne r2 r (by decide)) (fun p hp h0 k hk hm => h2 p hp (by rw [← List.mem_singleton.1 hm]; exact hk)), ⟨h.dh.lo.1, h.dh.lo.2.1, h.dh.lo.2.2.1, Nat.le_trans h.dh.lo.2.2.2 hb.size⟩, h.dh.fu⟩, h.vw⟩
  obtain ⟨A, c, rr, _⟩ := h.dh.rd
  simp
  exact rne rr r (by decide)
/-- The document's power is where its disk says. -/
theorem DW.pcell (h : DW w B gP gp gd mb gq gr on fuse fs gs) : w.cell? ⟨gr, 0, none⟩ = some (ptr gq) := by
  obtain ⟨A, c, rr, _⟩ := h.dh.rd
  exact rr.cell (j := 0) rfl
theorem DW.ocell (h : DW w B gP gp gd mb gq gr on fuse fs gs) : w.cell? ⟨gq, 0, none⟩ = some (.bool (!on)) := h.dh.rp.cell (j := 0) rfl
end
/-- What the region keeps in which an act is done, and both powers are asked. -/
def JRd (w0 : World) (N : Bool → World → Prop) (bs : List Bool) (vs : List Value) (w : World) : Prop :=
  (bs.getD 0 false = false → Below w0.heap.size w0 w) ∧ (bs.getD 0 false = true → ∃ o, N o w ∧ (bs.getD 1 false = true → vs.getD 1 undef = .bool o) ∧ (bs.getD 2 false = true → vs.getD 2 undef = .bool (!o)))
theorem JRd.start {w0 : World} (N : Bool → World → Prop) (vs : List Value) : JRd w0 N [false, false, false] vs w0.drew := ⟨fun _ => (Below.refl _ _).drew, fun h => absurd (show false = true from h) (by decide)⟩
/-- What the region keeps in which both lists are held against each other. -/
def JIs (w0 : World) (gs : Fs) (bs : List Bool) (vs : List Value) (w : World) : Prop :=
  Below w0.heap.size w0 w ∧ (bs.getD 0 false = true → ∃ A c li, vs.getD 0 undef = .slice A li.length c ∧ FlAt w w.heap.size A li.length li ∧ li.map vF = gs.map vF)
theorem JIs.start {w0 : World} (gs : Fs) (vs : List Value) : JIs w0 gs [false, false] vs w0.drew := ⟨(Below.refl _ _).drew, fun h => absurd (show false = true from h) (by decide)⟩
theorem same_vF (w : World) (A A' : Option Addr) (c c' : Nat) (li gs : Fs) (h : FlAt w w.heap.size A li.length li) (hv : li.map vF = gs.map vF) (h' : FlAt w w.heap.size A' gs.length gs) (hm : gs.length ≤ 1000) :
    Calls Try.prog 18 #[.slice A li.length c, .slice A' gs.length c'] w fun e w' => e = .returned (.bool true) ∧ Below w.heap.size w w' := by
  have hl : li.length = gs.length := by have := congrArg List.length hv; simpa using this
  rw [hl] at h ⊢
  exact same_any w w.heap.size gs.length A A' c c' li gs (Nat.le_refl _) (by omega) h h' hv
/-- Bytes of one's own, as a row of whatever length. -/
theorem own_rowb {w : World} {T n c : Nat} {A : Option Addr} {xs : List Int} (h : w.ownsRow T 5 1 (.slice A n c) n (bv xs)) (h0 : 0 < n) : ∃ g vs, A = some ⟨g, 0, none⟩ ∧ T ≤ g ∧ Row w 5 g vs ∧ (∀ j, j < n → ∃ x, vs[j]? = some (.int .u8 x)) := by
  rcases h.2 with ⟨_, h1⟩ | ⟨g, cap, cur, e, hT, hg, q1, q2, q3, q4⟩
  · omega
  · injection e with e1 e2 e3
    refine ⟨g, cur.toList, e1, hT, by unfold Row; simpa using hg, fun j hj => ?_⟩
    have hx : j < xs.length := by
      have := h.1
      rw [bv_len] at this
      omega
    have : (cur.toList.take (n * 1))[j]? = (bv xs)[j]? := by rw [q4]
    rw [List.getElem?_take, if_pos (by omega)] at this
    rw [this]
    refine ⟨xs[j], ?_⟩
    unfold bv
    simp [hx]
theorem set_byte {vs : List Value} {n k : Nat} {y : Int} (h : ∀ j, j < n → ∃ x, vs[j]? = some (.int .u8 x)) (hk : k < n) : ∀ j, j < n → ∃ x, (vs.set k (.int .u8 y))[j]? = some (.int .u8 x) := by
  intro j hj
  by_cases e : k = j
  · subst e
    obtain ⟨x, hx⟩ := h k hk
    have := (List.getElem?_eq_some_iff.1 hx).1
    exact ⟨y, by rw [List.getElem?_set]; simp [this]⟩
  · obtain ⟨x, hx⟩ := h j hj
    exact ⟨x, by rw [List.getElem?_set, if_neg e]; exact hx⟩
end Go.Proofs.Ytaflmiopaiigbaa

/-
  Both disks: the law DiskPlays: contract. Own work.
-/
namespace Go.Proofs.Ytaflmiopaiigbaa
open Go.RowKit Go.Maps Go.ChangeMaps
theorem builtRD2 (g : Nat) : Try.prog.built 34 [(0, ptr g)] = some [ptr g, Value.slice none 0 0].toArray := by kernel_rfl
theorem szAct9 (a : DAct) : (Try.prog.info? 38).map (·.size) = some a.cells.length := by kernel_rfl
theorem zAct9 : (Try.prog.info? 38).map (fun i => i.zero) = some (some (.agg #[.int .u8 0, .string ByteArray.empty, .string ByteArray.empty, .slice none 0 0, .int .i64 0, .slice none 0 0])) := by kernel_rfl
theorem one_act9 (a : DAct) : ∀ u ∈ a.cells, u.oneCell' = true := by
  intro u hu
  simp [DAct.cells] at hu
  rcases hu with rfl | rfl | rfl | rfl | rfl | rfl <;> rfl
theorem szU8d : (Try.prog.info? 5).map (·.size) = some 1 := by kernel_rfl
theorem sizeAct9 : ∀ w, (sizeOf 38).run Try.prog w = .ok 6 w := fun w => by kernel_rfl
theorem set3d {w : World} {t g : Nat} {a b c d e f u : Value} (h : Row w t g ([a, b, c, d, e, f].set 3 u)) : Row w t g [a, b, c, u, e, f] := h
theorem lt6d (a b c d e f : Value) {j : Nat} (h : j < 6) : j < [a, b, c, d, e, f].length := h
/-- An act whose bytes are others. -/
abbrev DAct.with (a : DAct) (A : Option Addr) (c : Nat) : DAct := { a with A := A, c := c }
def SPd17 (gd gr gq nc cl : Nat) (NA AL : Option Addr) (gs : Fs) (opn : Nat) (v : Value) : Prop :=
  match opn with
  | 0 => v = .slice NA gs.length nc
  | 1 | 6 => v = .int .i64 (gs.length : Int)
  | 2 | 3 | 11 | 12 => v = ptr gr
  | 4 | 13 => v = .pointer (some ⟨gr, 1, none⟩)
  | 5 | 14 => v = .slice AL gs.length cl
  | 7 | 8 | 16 | 17 => v = .bool false
  | 9 => v = ptr gd
  | 15 => v = .bool true
  | _ => True

def SPd10 (gP gd gr gq g7 c5 : Nat) (A5 : Option Addr) (a : DAct) (opn : Nat) (v : Value) : Prop :=
  match opn with
  | 0 | 7 => v = ptr gP
  | 1 => v = ptr gd
  | 2 | 9 | 10 => v = ptr gr
  | 3 => v = .agg [.int .u8 a.k, encStr a.n, encStr a.t, .slice A5 a.m c5, .int .i64 a.q, .slice a.CA a.cm a.cc].toArray
  | 4 => v = .bool true
  | 5 | 6 | 16 | 17 => v = .bool false
  | 11 => v = .pointer (some ⟨gr, 0, none⟩)
  | 12 | 13 => v = ptr gq
  | 14 => v = .pointer (some ⟨gq, 0, none⟩)
  | _ => True

set_option maxRecDepth 100000 in
set_option maxHeartbeats 16000000 in
theorem diskPlays_any (A : Option Addr) (m c : Nat) (f : Nat → DAct) (w : World) (h : DActs w w.heap.size A m f) (hf : ∀ j, j < m → (0 ≤ (f j).k ∧ (f j).k < 256) ∧ isI (f j).q) :
    Calls Try.prog 3 #[.slice A m c] w fun e w' => e = .returned (.bool true) ∧ Below w.heap.size w w' := by
  have HH := hide h
  have HF := hide hf
  go_enter Try.func3, Try.ntmps3
  go_wp2_with fail
  refine (few9_any w A m c f w.heap.size 60 h (by decide)).mono ?_
  rintro e w0 ⟨⟨b, rfl, hb⟩, rfl⟩
  clear h hf
  cases b with
  | false =>
    go_wp2_with fail
    refine (awakeD_any w).mono ?_
    rintro e w2 ⟨rfl, b2⟩
    go_wp2_with fail
    go_ret
    exact ⟨rfl, b2⟩
  | true =>
    obtain ⟨hm60, hfew⟩ := hb rfl
    have hm60 : m ≤ 60 := by omega
    have HW := hide hfew
    clear hb hfew
    go_wp2_with fail
    refine (plug_any w).mono ?_
    rintro e w1 ⟨gP, gp, rfl, hPw, hPl, qP, qp, nP, b1⟩
    go_wp2_with fail
    refine (new_any w1 gP _ hPw).mono ?_
    rintro e w2 ⟨gd, mb, rfl, hD2, b2⟩
    go_wp2_with fail
    refine (rPlug_any w2).mono ?_
    rintro e w3 ⟨gq, rfl, hRP, qq, b3⟩
    have bRD := builtRD2 gq
    go_wp2_with (first
      | ((with_reducible refine wl_build rfl 34 [(0, .tmp 18)] rfl _ ?hv _ bRD ?hk); case hv => rfl)
      | (with_reducible refine wl_box rfl 34 (.tmp 19) _ [ptr gq, .slice none 0 0] rfl rfl rfl ?_; intro gr w4 r4 p4 l4 b4))
    have B2 := b1.trans (b2.mono b1.size)
    have B3 := B2.trans (b3.mono B2.size)
    have B4 := B3.trans (b4.mono B3.size)
    have hDW : DW w4 w.heap.size gP gp gd mb gq gr true (-1) [] [] := by
      have hD4 := (hD2.later b3).later b4
      refine ⟨⟨Row.later hPw (b2.trans ((b3.mono b2.size).trans (b4.mono (Nat.le_trans b2.size b3.size)))), Row.later hPl (b2.trans ((b3.mono b2.size).trans (b4.mono (Nat.le_trans b2.size b3.size)))), hD4.mono b1.size, (fun p hp => by cases hp), Row.later hRP b4, ⟨none, 0, r4, LstAt.nil _ _ _⟩, ⟨qp, Nat.le_trans B2.size qq, Nat.le_trans B3.size p4, B4.size⟩, isI_m1⟩, rfl⟩
    clear hPw hPl hD2 hRP r4 b1 b2 b3 b4 B2 B3 qP qp nP qq p4 l4 bRD
    obtain ⟨B, hBe⟩ : ∃ B, B = w.heap.size := ⟨_, rfl⟩
    rw [← hBe] at hDW
    have HHB := hide (show DActs w B A m f from hBe ▸ HH.out)
    go_loopw [6] (fun iv wr => ∃ (i : Nat) (on : Bool) (fuse : Int) (fs gs : Fs), i ≤ m ∧ iv = .int .i64 i ∧ DW wr B gP gp gd mb gq gr on fuse fs gs ∧ Below w.heap.size w wr) (fun iv _ => m - (intOf iv).toNat)
    case atStart => exact ⟨0, true, -1, [], [], Nat.zero_le _, rfl, hDW, B4⟩
    case round =>
      clear hDW B4
      obtain ⟨i, on, fuse, fs, gs, hi, rfl, hDW, BW⟩ := hrel
      by_cases hlt : i < m
      · obtain ⟨bb, oo, rfl, hbb, hcc⟩ := HHB.out (by omega)
        obtain ⟨hcells, hbs, his⟩ := hcc i hlt
        obtain ⟨⟨hk0, hk1⟩, hqi⟩ := HF.out i hlt
        obtain ⟨_, _, hm300, _⟩ := HW.out i hlt
        generalize f i = a at hcells hbs his hk0 hk1 hqi hm300
        have BWB : Below B w wr := hBe ▸ BW
        have hcw : ∀ X, Below wr.heap.size wr X → ∀ j v, a.cells[j]? = some v → X.cell? ⟨bb, oo + i * 6 + j, none⟩ = some v := fun X hX j v hv => ((hX.mono hDW.dh.lo.2.2.2).cell (p := ⟨bb, oo + i * 6 + j, none⟩) hbb).trans ((BWB.cell (p := ⟨bb, oo + i * 6 + j, none⟩) hbb).trans (hcells j v hv))
        have hc0 := hcw wr (Below.refl _ _)
        have HS := sizeAct9
        have hd1 : decide ((i : Int) < (m : Int)) = true := by simp; omega
        have hbsW : ∀ X, Below wr.heap.size wr X → Bs X X.heap.size a.A a.m a.xs := fun X hX => (hbs.below (BWB.trans (hX.mono hDW.dh.lo.2.2.2))).up (Nat.le_trans hDW.dh.lo.2.2.2 hX.size)
        have hisW : IsAt wr B a.CA a.cm a.cs := his.below BWB
        clear hcc hcells hbs his
        go_wp2_with (first
          | (with_reducible refine wl_load_cells (o := ⟨some 30, _, _, _, _, _⟩) rfl 38 (.tmp 29) bb (oo + i * 6) a.cells _ rfl rfl hc0 Try.underlying38 rfl (szAct9 a) ?_)
          | ((with_reducible refine wl_alloc rfl 38 _ [.int .u8 0, .string ByteArray.empty, .string ByteArray.empty, .slice none 0 0, .int .i64 0, .slice none 0 0] rfl zAct9 rfl ?_); intro g7 w5 r5 p5 l5 b5)
          | ((with_reducible refine wl_store_row rfl 38 (.tmp 7) (.tmp 30) g7 38 _ a.cells rfl rfl rfl r5 (szAct9 a) rfl (one_act9 a) ?_); intro w6 r6 o6; have b6 := b5.trans (o6.below p5); have c3 := hcw w6 b6 3 _ rfl))
        refine (cloneF a.A a.m a.c a.xs w6 (hbsW w6 b6) (by omega)).mono ?_
        rintro e w7 ⟨A5, c5, rfl, own5, b7⟩
        have r6' := Row.later r6 b7
        have hg7 := r6.lt
        go_wp2_with (first
          | (with_reducible refine wl_store rfl 35 (.tmp 37) (.tmp 36) g7 3 38 a.cells (.slice A5 a.m c5) rfl szBy rfl rfl r6' (lt6d _ _ _ _ _ _ (by decide)) rfl ?_; intro w8 r8 o8))
        have r7 : Row w8 38 g7 [.int .u8 a.k, encStr a.n, encStr a.t, .slice A5 a.m c5, .int .i64 a.q, .slice a.CA a.cm a.cc] := set3d r8
        have b8 : Below wr.heap.size wr w8 := (b6.trans (b7.mono b6.size)).trans (o8.below p5)
        have own8 := ownr_buts own5 (Buts.only (S := [g7]) o8 (by simp)) (fun k hk => by rw [List.mem_singleton.1 hk]; exact hg7)
        have hDW8 := hDW.later b8
        have hmc := own_cap own8
        have hT6 : wr.heap.size ≤ w6.heap.size := b6.size
        have hA8 : ∀ k ∈ (Value.slice A5 a.m c5).ownBlock.toList, wr.heap.size ≤ k ∧ k < w8.heap.size := fun k hk => by
          have := own8.lt k (by simpa using hk)
          exact ⟨Nat.le_trans hT6 this.1, this.2⟩
        have hBl : ∀ k ∈ dblocks gd mb fs, k < wr.heap.size := fun k hk => (hDW.dh.dk.blo k hk).2
        have hGl : ∀ p ∈ gs, ∀ k ∈ p.2.bk, k < wr.heap.size := fun p hp k hk => ((hDW.dh.ap p hp).2 k hk).1
        have his8 : IsAt w8 B a.CA a.cm a.cs := hisW.below (b8.mono hDW.dh.lo.2.2.2)
        have HDo : ∀ X, Below w8.heap.size w8 X → Calls Try.prog 15 #[ptr gP, ptr gd, ptr gr, .agg [.int .u8 a.k, encStr a.n, encStr a.t, .slice A5 a.m c5, .int .i64 a.q, .slice a.CA a.cm a.cc].toArray] X fun e w' => e = .returned (.bool true) ∧ ∃ o, (∃ fuse' fs' gs', Did w8 w' B gP gp gd mb gq gr fs gs (fun k => k ∈ (Value.slice A5 a.m c5).ownBlock.toList ∧ a.k % 10 = 8) o fuse' fs' gs') := fun X b => by
          refine (do_any X B gP gp gd mb gq gr on fuse fs gs (a.with A5 c5) (hDW8.later b) (own_bsD (ownr_later own8 b)) hmc hm300 (fun k hk => ⟨Nat.lt_of_lt_of_le (hA8 k hk).2 b.size, fun hm => by have := hBl k hm; have := (hA8 k hk).1; omega⟩) (his8.below (b.mono hDW8.dh.lo.2.2.2)) ⟨hk0, hk1⟩ hqi).mono fun e w' ⟨q1, q2⟩ => ⟨q1, ?_⟩
          obtain ⟨o, fuse', fs', gs', hd⟩ := q2.from b
          exact ⟨o, fuse', fs', gs', hd⟩
        have HOn : ∀ X o, (∃ fuse' fs' gs', Did w8 X B gP gp gd mb gq gr fs gs (fun k => k ∈ (Value.slice A5 a.m c5).ownBlock.toList ∧ a.k % 10 = 8) o fuse' fs' gs') → Calls Try.prog 16 #[ptr gP] X fun e w' => e = .returned (.bool o) ∧ X = w' := fun X o ⟨fuse', fs', gs', hd⟩ => pOn_any X gP gp o fuse' hd.dw.dh.pw hd.dw.dh.pl
        have HPc : ∀ X o, (∃ fuse' fs' gs', Did w8 X B gP gp gd mb gq gr fs gs (fun k => k ∈ (Value.slice A5 a.m c5).ownBlock.toList ∧ a.k % 10 = 8) o fuse' fs' gs') → X.cell? ⟨gr, 0, none⟩ = some (ptr gq) := fun X o ⟨fuse', fs', gs', hd⟩ => hd.dw.pcell
        have HOc : ∀ X o, (∃ fuse' fs' gs', Did w8 X B gP gp gd mb gq gr fs gs (fun k => k ∈ (Value.slice A5 a.m c5).ownBlock.toList ∧ a.k % 10 = 8) o fuse' fs' gs') → X.cell? ⟨gq, 0, none⟩ = some (.bool (!o)) := fun X o ⟨fuse', fs', gs', hd⟩ => hd.dw.ocell
        have HX := hide (And.intro hDW8 (And.intro own8 (And.intro hA8 (And.intro hBl hGl))))
        have hWr := BW.size
        have HBW := hide (BW.trans (b8.mono BW.size))
        clear r6 r6' r8 o8 own5 own8 b5 b6 b7 b8 hDW hDW8 r5 o6 c3 hc0 hcw hbsW hisW his8 hA8 hBl hGl BW BWB
        go_wp2_with fail
        rename_i K1 hK1
        refine wp_region_valsG [4, 8, 15] (SPd10 gP gd gr gq g7 c5 A5 a) (JRd w8 (fun o w' => ∃ fuse' fs' gs', Did w8 w' B gP gp gd mb gq gr fs gs (fun k => k ∈ (Value.slice A5 a.m c5).ownBlock.toList ∧ a.k % 10 = 8) o fuse' fs' gs')) (by kernel_rfl) (by kernel_rfl) (by kernel_rfl) (by kernel_rfl) (JRd.start _ _) ?obs10 ?he10
        case obs10 =>
          refine ⟨?_, ?_, ?_, ?_, ?_, ?_, ?_, ?_, ?_, ?_, ?_, ?_, ?_, ?_, ?_, ?_, ?_, ?_, trivial⟩
          · refine ⟨.inl rfl, ?_⟩
            exact .inl ⟨by kernel_rfl, fun L a1 w1 n' h => ⟨_, rfl, run_move (.tmp 3) rfl (h.var n' 3 (by kernel_rfl))⟩⟩
          · refine ⟨.inl rfl, ?_⟩
            exact .inl ⟨by kernel_rfl, fun L a1 w1 n' h => ⟨_, rfl, run_move (.tmp 4) rfl (h.var n' 4 (by kernel_rfl))⟩⟩
          · refine ⟨.inl rfl, ?_⟩
            exact .inl ⟨by kernel_rfl, fun L a1 w1 n' h => ⟨_, rfl, run_move (.tmp 5) rfl (h.var n' 5 (by kernel_rfl))⟩⟩
          · refine ⟨.inl rfl, ?_⟩
            exact .inl ⟨by kernel_rfl, fun L a1 w1 n' h => ⟨_, rfl, run_loadRow 38 (.tmp 7) g7 38 _ _ rfl (h.var n' 7 (by kernel_rfl)) (Row.later r7 (h.inv.1 ((bits_at rfl).trans (n'.later (by kernel_rfl))))) Try.underlying38 rfl (szAct9 (a.with A5 c5))⟩⟩
          · refine ⟨.inl rfl, ?_⟩
            refine .inr fun L a1 w1 n' h K hK => ?_
            have no4 : L.getD 4 false = false := n'.not_yet
            have no8 : L.getD 8 false = false := n'.later (by kernel_rfl)
            have no15 : L.getD 15 false = false := n'.later (by kernel_rfl)
            have b9 := h.inv.1 ((bits_at rfl).trans no4)
            have y0 : a1.eval (.tmp 38) = ptr gP := h.dep n' 0 38 (by kernel_rfl) rfl
            have y1 : a1.eval (.tmp 39) = ptr gd := h.dep n' 1 39 (by kernel_rfl) rfl
            have y2 : a1.eval (.tmp 40) = ptr gr := h.dep n' 2 40 (by kernel_rfl) rfl
            have y3 : a1.eval (.tmp 41) = .agg [.int .u8 a.k, encStr a.n, encStr a.t, .slice A5 a.m c5, .int .i64 a.q, .slice a.CA a.cm a.cc].toArray := h.dep n' 3 41 (by kernel_rfl) rfl
            have hz := HDo w1 b9
            obtain ⟨AG, hAG⟩ : ∃ v : Value, v = .agg [.int .u8 a.k, encStr a.n, encStr a.t, .slice A5 a.m c5, .int .i64 a.q, .slice a.CA a.cm a.cc].toArray := ⟨_, rfl⟩
            rw [← hAG] at y3 hz
            refine st_call 15 _ _ #[ptr gP, ptr gd, ptr gr, AG] rfl Try.call15 ?_ hz ?_
            · simp only [List.map_toArray, List.map_cons, List.map_nil, y0, y1, y2, y3]
            · rintro e w3 ⟨rfl, o, hN⟩
              exact ⟨_, rfl, hK _ w3 rfl ⟨fun h0 => absurd (show true = false from h0) (by decide), fun _ => ⟨o, hN, fun h0 => absurd (no8.symm.trans h0) (by decide), fun h0 => absurd (no15.symm.trans h0) (by decide)⟩⟩⟩
          · refine ⟨.inl rfl, ?_⟩
            exact .inl ⟨by kernel_rfl, fun L a1 w1 n' h => ⟨_, rfl, run_notB (.tmp 42) true rfl (h.dep n' 4 42 (by kernel_rfl) rfl) rfl⟩⟩
          · refine ⟨.inl rfl, ?_⟩
            exact .inl ⟨by kernel_rfl, fun L a1 w1 n' h => ⟨_, rfl, run_move (.tmp 43) rfl (h.dep n' 5 43 (by kernel_rfl) rfl)⟩⟩
          · refine ⟨.inr ⟨6, false, 44, rfl, by kernel_rfl, rfl, by simp, fun v h => h⟩, ?_⟩
            exact .inl ⟨by kernel_rfl, fun L a1 w1 n' h => ⟨_, rfl, run_move (.tmp 3) rfl (h.var n' 3 (by kernel_rfl))⟩⟩
          · refine ⟨.inr ⟨6, false, 44, rfl, by kernel_rfl, rfl, by simp, fun v h => h⟩, ?_⟩
            refine .inr fun L a1 w1 n' h K hK => ?_
            have yes4 : L.getD 4 false = true := n'.dep (by kernel_rfl)
            obtain ⟨o, hN, q1, q2⟩ := h.inv.2 ((bits_at rfl).trans yes4)
            have y0 : a1.eval (.tmp 45) = ptr gP := h.dep n' 7 45 (by kernel_rfl) rfl
            refine st_call 16 _ _ #[ptr gP] rfl Try.call16 ?_ (HOn w1 o hN) ?_
            · simp only [List.map_toArray, List.map_cons, List.map_nil, y0]
            · rintro e w3 ⟨rfl, rfl⟩
              exact ⟨_, rfl, hK _ w1 trivial ⟨fun h0 => absurd (yes4.symm.trans h0) (by decide), fun _ => ⟨o, hN, fun _ => rfl, q2⟩⟩⟩
          · refine ⟨.inr ⟨6, false, 44, rfl, by kernel_rfl, rfl, by simp, fun v h => h⟩, ?_⟩
            exact .inl ⟨by kernel_rfl, fun L a1 w1 n' h => ⟨_, rfl, run_move (.tmp 5) rfl (h.var n' 5 (by kernel_rfl))⟩⟩
          · refine ⟨.inr ⟨6, false, 44, rfl, by kernel_rfl, rfl, by simp, fun v h => h⟩, ?_⟩
            refine .inl ⟨by kernel_rfl, fun L a1 w1 n' h => ⟨ptr gr, rfl, ?_⟩⟩
            have e0 : a1.eval (.tmp 47) = _ := h.dep n' 9 47 (by kernel_rfl) rfl
            unfold execOp
            simp only [e0]
            go_simp
          · refine ⟨.inr ⟨6, false, 44, rfl, by kernel_rfl, rfl, by simp, fun v h => h⟩, ?_⟩
            refine .inl ⟨by kernel_rfl, fun L a1 w1 n' h => ⟨.pointer (some ⟨gr, 0, none⟩), rfl, ?_⟩⟩
            have e0 : a1.eval (.tmp 48) = _ := h.dep n' 10 48 (by kernel_rfl) rfl
            unfold execOp
            simp only [e0]
            go_simp
          · refine ⟨.inr ⟨6, false, 44, rfl, by kernel_rfl, rfl, by simp, fun v h => h⟩, ?_⟩
            exact .inl ⟨by kernel_rfl, fun L a1 w1 n' h => ⟨_, rfl, run_loadA 30 (.tmp 49) ⟨gr, 0, none⟩ rfl Try.isAgg30 (h.dep n' 11 49 (by kernel_rfl) rfl) (Exists.elim (h.inv.2 ((bits_at rfl).trans (n'.dep (by kernel_rfl)))) fun o q => HPc w1 o q.1)⟩⟩
          · refine ⟨.inr ⟨6, false, 44, rfl, by kernel_rfl, rfl, by simp, fun v h => h⟩, ?_⟩
            refine .inl ⟨by kernel_rfl, fun L a1 w1 n' h => ⟨ptr gq, rfl, ?_⟩⟩
            have e0 : a1.eval (.tmp 50) = _ := h.dep n' 12 50 (by kernel_rfl) rfl
            unfold execOp
            simp only [e0]
            go_simp
          · refine ⟨.inr ⟨6, false, 44, rfl, by kernel_rfl, rfl, by simp, fun v h => h⟩, ?_⟩
            refine .inl ⟨by kernel_rfl, fun L a1 w1 n' h => ⟨.pointer (some ⟨gq, 0, none⟩), rfl, ?_⟩⟩
            have e0 : a1.eval (.tmp 51) = _ := h.dep n' 13 51 (by kernel_rfl) rfl
            unfold execOp
            simp only [e0]
            go_simp
          · refine ⟨.inr ⟨6, false, 44, rfl, by kernel_rfl, rfl, by simp, fun v h => h⟩, ?_⟩
            refine .inr fun L a1 w1 n' h K hK => ?_
            have yes4 : L.getD 4 false = true := n'.dep (by kernel_rfl)
            obtain ⟨o, hN, q1, q2⟩ := h.inv.2 ((bits_at rfl).trans yes4)
            have y0 : a1.eval (.tmp 52) = .pointer (some ⟨gq, 0, none⟩) := h.dep n' 14 52 (by kernel_rfl) rfl
            have hrun := fun (o9 : Oper) (ho : o9.op = .load 4 (.tmp 52)) => run_loadA (P := Try.prog) (o := o9) (a := a1) (w := w1) 4 (.tmp 52) ⟨gq, 0, none⟩ ho Try.isAgg4 y0 (HOc w1 o hN)
            unfold Oper.wp
            rw [hrun _ rfl]
            exact hK _ w1 trivial ⟨fun h0 => absurd (yes4.symm.trans h0) (by decide), fun _ => ⟨o, hN, q1, fun _ => rfl⟩⟩
          · refine ⟨.inr ⟨6, false, 44, rfl, by kernel_rfl, rfl, by simp, fun v h => h⟩, ?_⟩
            refine .inl ⟨by kernel_rfl, fun L a1 w1 n' h => ⟨.bool false, rfl, ?_⟩⟩
            have yes4 : L.getD 4 false = true := n'.dep (by kernel_rfl)
            have yes8 : L.getD 8 false = true := n'.dep (by kernel_rfl)
            have yes15 : L.getD 15 false = true := n'.dep (by kernel_rfl)
            obtain ⟨o, hN, q1, q2⟩ := h.inv.2 ((bits_at rfl).trans yes4)
            have y0 : a1.eval (.tmp 46) = .bool o := q1 ((bits_at rfl).trans yes8)
            have y1 : a1.eval (.tmp 53) = .bool (!o) := q2 ((bits_at rfl).trans yes15)
            exact run_eqlB (.tmp 46) (.tmp 53) o (!o) rfl y0 y1 (fun w => eqB o w)
          · refine ⟨.inl rfl, ?_⟩
            exact .inl ⟨by kernel_rfl, fun L a1 w1 n' h => ⟨_, rfl, run_pickF (.tmp 44) _ _ rfl (h.dep n' 6 44 (by kernel_rfl) rfl) (h.dep n' 16 54 (by kernel_rfl) rfl)⟩⟩
        case he10 =>
          intro V w9 hV hJ
          have hv : V 17 = .bool false := hV 17 55 rfl
          obtain ⟨o9, ⟨fuse9, fs9, gs9, hd⟩, _, _⟩ := hJ.2 rfl
          clear hV hJ HDo HOn HPc HOc
          simp only [putOps, List.setIfInBounds_toArray, List.set_cons_succ, List.set_cons_zero, Nat.reduceAdd]
          rw [hv]
          refine hK1 _ _ ?_
          have r9 := HX.out.1.dh.keep r7 (by decide) (by decide) (by decide) (by decide) (by decide) hd.bu
          have hBI : w.heap.size ≤ w8.heap.size := HBW.out.size
          have B9 : Below w.heap.size w w9 := HBW.out.trans (hd.bu.below (fun k hk => by
            rw [← hBe]
            simp only [allB, List.mem_cons, List.mem_append] at hk
            rcases hk with e | e | e | e
            · rw [e]; exact HX.out.1.dh.lo.2.1
            · rw [e]; exact HX.out.1.dh.lo.2.2.1
            · simp [plB] at e; rw [e]; exact HX.out.1.dh.lo.1
            · exact (HX.out.1.dh.dk.blo k e).1) hBI)
          have hown : ¬ a.k % 10 = 8 → 0 < a.m → ∃ gB, A5 = some ⟨gB, 0, none⟩ ∧ gB ∉ dblocks gd mb fs9 ∧ (∀ p ∈ gs9, gB ∉ p.2.bk) ∧ w.heap.size ≤ gB ∧ ∃ vs, Row w9 5 gB vs ∧ ∀ j, j < a.m → ∃ x, vs[j]? = some (.int .u8 x) := fun h8 h0 => by
            obtain ⟨gB, vs, e, _, rB, hx⟩ := own_rowb HX.out.2.1 h0
            obtain ⟨hge, hlt8⟩ := HX.out.2.2.1 gB (by rw [e]; simp [Value.ownBlock])
            refine ⟨gB, e, fun hm => ?_, fun p hp hk => ?_, Nat.le_trans hWr hge, vs, rB.buts hd.bu (fun hm => ?_), hx⟩
            · rcases hd.nb gB hm with q | q
              · have := HX.out.2.2.2.1 gB q
                omega
              · omega
            · rcases hd.fm p hp gB hk with ⟨q, hq, hkq⟩ | q | q
              · have := HX.out.2.2.2.2 q hq gB hkq
                omega
              · omega
              · exact h8 q.2
            · simp only [allB, List.mem_cons, List.mem_append] at hm
              obtain ⟨AL, cl, rr, _⟩ := HX.out.1.dh.rd
              rcases hm with q | q | q | q
              · exact rne rB HX.out.1.dh.rp (by decide) q
              · exact rne rB rr (by decide) q
              · simp [plB] at q
                exact rne rB HX.out.1.dh.pl (by decide) q
              · have := HX.out.2.2.2.1 gB q
                omega
          have hDW9 := hd.dw
          have kz := hk0
          have kl := hk1
          clear hd HX HBW r7 hT6 hmc hk0 hk1 hBI hv
          generalize V 0 = v0
          generalize V 1 = v1
          generalize V 2 = v2
          generalize V 3 = v3
          generalize V 4 = v4
          generalize V 5 = v5
          generalize V 6 = v6
          generalize V 7 = v7
          generalize V 8 = v8
          generalize V 9 = v9
          generalize V 10 = v10
          generalize V 11 = v11
          generalize V 12 = v12
          generalize V 13 = v13
          generalize V 14 = v14
          generalize V 15 = v15
          generalize V 16 = v16
          go_wp2_with fail
          go_loopw [8] (fun kv wi => ∃ k : Nat, k ≤ a.m ∧ kv = .int .i64 k ∧ DW wi B gP gp gd mb gq gr o9 fuse9 fs9 gs9 ∧ Row wi 38 g7 [.int .u8 a.k, encStr a.n, encStr a.t, .slice A5 a.m c5, .int .i64 a.q, .slice a.CA a.cm a.cc] ∧ (¬ a.k % 10 = 8 → 0 < a.m → ∃ gB, A5 = some ⟨gB, 0, none⟩ ∧ gB ∉ dblocks gd mb fs9 ∧ (∀ p ∈ gs9, gB ∉ p.2.bk) ∧ w.heap.size ≤ gB ∧ ∃ vs, Row wi 5 gB vs ∧ ∀ j, j < a.m → ∃ x, vs[j]? = some (.int .u8 x)) ∧ Below w.heap.size w wi) (fun kv _ => a.m - (intOf kv).toNat)
          case atStart => exact ⟨0, Nat.zero_le _, rfl, hDW9, r9, hown, B9⟩
          case round =>
            clear hDW9 r9 hown B9
            obtain ⟨k, hkm, rfl, hDWi, r7i, howni, BI⟩ := hrel
            have c70 := r7i.cell (j := 0) rfl
            have c73 := r7i.cell (j := 3) rfl
            by_cases hkl : k < a.m
            · have hd3 : decide ((k : Int) < (a.m : Int)) = true := by simp; omega
              by_cases h8 : a.k % 10 = 8
              · clear howni
                go_wp2_with fail
                go_roundw
                case rel => exact ⟨i + 1, o9, fuse9, fs9, gs9, by omega, by go_num, hDWi, BI⟩
                case measure => simp [intOf]; omega
              · obtain ⟨gB, e, hb1, hb2, hge, vs, rB, hx⟩ := howni h8 (by omega)
                subst e
                obtain ⟨x, hxk⟩ := hx k hkl
                have hcB := rB.cell (j := k) hxk
                have hlen := (List.getElem?_eq_some_iff.1 hxk).1
                clear howni hxk
                go_wp2_with (first
                  | (with_reducible refine wl_store rfl 5 (.tmp 75) (.tmp 74) gB k 5 vs (.int .u8 (bits .xor .u8 x 255)) rfl szU8d rfl rfl rB hlen rfl ?_; intro wj rj oj))
                go_roundw
                case rel => exact ⟨k + 1, by omega, by go_num, hDWi.turn (vs' := []) rB oj hb1 hb2, r7i.only oj (rne r7i rB (by decide)), fun _ _ => ⟨gB, rfl, hb1, hb2, hge, _, rj, set_byte hx hkl⟩, BI.trans (oj.below hge)⟩
                case measure => simp [intOf]; omega
            · obtain rfl : k = a.m := by omega
              have hd3 : decide ((a.m : Int) < (a.m : Int)) = false := by simp
              clear howni
              go_wp2_with fail
              go_roundw
              case rel => exact ⟨i + 1, o9, fuse9, fs9, gs9, by omega, by go_num, hDWi, BI⟩
              case measure => simp [intOf]; omega
      · obtain rfl : i = m := by omega
        have hd1 : decide ((i : Int) < (i : Int)) = false := by simp
        have hln : fs.length = gs.length := hDW.len
        have hle : gs.length ≤ 1000 := Nat.le_trans hDW.few (by decide)
        have HNm := names_ent wr gd mb (ptr gp) (ents fs) hDW.dh.dk.row hDW.dh.dk.map (by rw [ents_len]; exact hDW.dh.dk.few)
        rw [ents_len, show (ents fs).map (·.1) = gs.map (·.1) by
          have h1 : fs.map (·.1) = gs.map (·.1) := by
            have := congrArg (List.map (fun v : Nm × Int × List Int => v.1)) hDW.vw
            rw [List.map_map, List.map_map] at this
            exact this
          rw [← h1]
          simp [ents], hln] at HNm
        have HNm := hide HNm
        clear HHB HF HW hi hlt hln
        go_wp2_with fail
        refine HNm.out.mono ?_
        rintro e w2 ⟨nv, rfl, hN, b2⟩
        obtain ⟨NA, nc, rfl⟩ := own_sl hN
        have hD2 := hDW.later b2
        obtain ⟨AL, cl, rr, ll⟩ := hD2.dh.rd
        obtain ⟨A', c', e', hFl, _⟩ := ll.fl (Nat.le_refl _)
        injection e' with q1 q2 q3
        subst q1
        have HIm : ∀ X, Below w2.heap.size w2 X → Calls Try.prog 19 #[ptr gd] X fun e w' => ∃ A c li, e = .returned (.slice A li.length c) ∧ FlAt w' w'.heap.size A li.length li ∧ li.map vF = gs.map vF ∧ Below X.heap.size X w' := fun X b => by
          refine (image_any X B gd mb (ptr gp) fs (hD2.dh.dk.later b)).mono ?_
          rintro e w' ⟨v, l, rfl, hv, hO, b3⟩
          obtain ⟨A9, c9, ev, hF9⟩ := hO.fl
          rw [ev]
          exact ⟨A9, c9, l, rfl, hF9, hv.trans hD2.vw, b3⟩
        have HFl : ∀ X, Below w2.heap.size w2 X → FlAt X X.heap.size AL gs.length gs := fun X b => (hFl.below b).up b.size
        have HN := hide hN
        have HB2 := hide (BW.trans (b2.mono BW.size))
        clear HNm hN b2 hDW hD2 ll hFl BW
        go_wp2_with fail
        rename_i K1 hK1
        refine wp_region_valsG [10, 15] (SPd17 gd gr gq nc cl NA AL gs) (JIs w2 gs) (by kernel_rfl) (by kernel_rfl) (by kernel_rfl) (by kernel_rfl) (JIs.start _ _) ?obs17 ?he17
        case obs17 =>
          refine ⟨?_, ?_, ?_, ?_, ?_, ?_, ?_, ?_, ?_, ?_, ?_, ?_, ?_, ?_, ?_, ?_, ?_, ?_, trivial⟩
          · refine ⟨.inl rfl, ?_⟩
            exact .inl ⟨by kernel_rfl, fun L a1 w1 n' h => ⟨_, rfl, run_move (.tmp 9) rfl (h.var n' 9 (by kernel_rfl))⟩⟩
          · refine ⟨.inl rfl, ?_⟩
            exact .inl ⟨by kernel_rfl, fun L a1 w1 n' h => ⟨_, rfl, run_len3 43 9 Try.underlying43 (.tmp 78) rfl (h.dep n' 0 78 (by kernel_rfl) rfl)⟩⟩
          · refine ⟨.inl rfl, ?_⟩
            exact .inl ⟨by kernel_rfl, fun L a1 w1 n' h => ⟨_, rfl, run_move (.tmp 5) rfl (h.var n' 5 (by kernel_rfl))⟩⟩
          · refine ⟨.inl rfl, ?_⟩
            refine .inl ⟨by kernel_rfl, fun L a1 w1 n' h => ⟨ptr gr, rfl, ?_⟩⟩
            have e0 : a1.eval (.tmp 80) = _ := h.dep n' 2 80 (by kernel_rfl) rfl
            unfold execOp
            simp only [e0]
            go_simp
          · refine ⟨.inl rfl, ?_⟩
            refine .inl ⟨by kernel_rfl, fun L a1 w1 n' h => ⟨.pointer (some ⟨gr, 1, none⟩), rfl, ?_⟩⟩
            have e0 : a1.eval (.tmp 81) = _ := h.dep n' 3 81 (by kernel_rfl) rfl
            unfold execOp
            simp only [e0]
            go_simp
          · refine ⟨.inl rfl, ?_⟩
            exact .inl ⟨by kernel_rfl, fun L a1 w1 n' h => ⟨_, rfl, run_loadA 32 (.tmp 82) ⟨gr, 1, none⟩ rfl Try.isAgg32 (h.dep n' 4 82 (by kernel_rfl) rfl) ((Row.later rr h.inv.1).cell (j := 1) (v := .slice AL gs.length cl) rfl)⟩⟩
          · refine ⟨.inl rfl, ?_⟩
            exact .inl ⟨by kernel_rfl, fun L a1 w1 n' h => ⟨_, rfl, run_len3 32 48 Try.underlying32 (.tmp 83) rfl (h.dep n' 5 83 (by kernel_rfl) rfl)⟩⟩
          · refine ⟨.inl rfl, ?_⟩
            exact .inl ⟨by kernel_rfl, fun L a1 w1 n' h => ⟨_, rfl, run_neqI (.tmp 79) (.tmp 84) rfl (h.dep n' 1 79 (by kernel_rfl) rfl) (h.dep n' 6 84 (by kernel_rfl) rfl) (by simp)⟩⟩
          · refine ⟨.inl rfl, ?_⟩
            exact .inl ⟨by kernel_rfl, fun L a1 w1 n' h => ⟨_, rfl, run_move (.tmp 85) rfl (h.dep n' 7 85 (by kernel_rfl) rfl)⟩⟩
          · refine ⟨.inr ⟨8, false, 86, rfl, by kernel_rfl, rfl, by simp, fun v h => h⟩, ?_⟩
            exact .inl ⟨by kernel_rfl, fun L a1 w1 n' h => ⟨_, rfl, run_move (.tmp 4) rfl (h.var n' 4 (by kernel_rfl))⟩⟩
          · refine ⟨.inr ⟨8, false, 86, rfl, by kernel_rfl, rfl, by simp, fun v h => h⟩, ?_⟩
            refine .inr fun L a1 w1 n' h K hK => ?_
            have b9 := h.inv.1
            have y0 : a1.eval (.tmp 87) = ptr gd := h.dep n' 9 87 (by kernel_rfl) rfl
            refine st_call 19 _ _ #[ptr gd] rfl Try.call19 ?_ (HIm w1 b9) ?_
            · simp only [List.map_toArray, List.map_cons, List.map_nil, y0]
            · rintro e w3 ⟨A9, c9, li, rfl, hF, hv, b3⟩
              exact ⟨_, rfl, hK _ w3 trivial ⟨b9.trans (b3.mono b9.size), fun _ => ⟨A9, c9, li, rfl, hF, hv⟩⟩⟩
          · refine ⟨.inr ⟨8, false, 86, rfl, by kernel_rfl, rfl, by simp, fun v h => h⟩, ?_⟩
            exact .inl ⟨by kernel_rfl, fun L a1 w1 n' h => ⟨_, rfl, run_move (.tmp 5) rfl (h.var n' 5 (by kernel_rfl))⟩⟩
          · refine ⟨.inr ⟨8, false, 86, rfl, by kernel_rfl, rfl, by simp, fun v h => h⟩, ?_⟩
            refine .inl ⟨by kernel_rfl, fun L a1 w1 n' h => ⟨ptr gr, rfl, ?_⟩⟩
            have e0 : a1.eval (.tmp 89) = _ := h.dep n' 11 89 (by kernel_rfl) rfl
            unfold execOp
            simp only [e0]
            go_simp
          · refine ⟨.inr ⟨8, false, 86, rfl, by kernel_rfl, rfl, by simp, fun v h => h⟩, ?_⟩
            refine .inl ⟨by kernel_rfl, fun L a1 w1 n' h => ⟨.pointer (some ⟨gr, 1, none⟩), rfl, ?_⟩⟩
            have e0 : a1.eval (.tmp 90) = _ := h.dep n' 12 90 (by kernel_rfl) rfl
            unfold execOp
            simp only [e0]
            go_simp
          · refine ⟨.inr ⟨8, false, 86, rfl, by kernel_rfl, rfl, by simp, fun v h => h⟩, ?_⟩
            exact .inl ⟨by kernel_rfl, fun L a1 w1 n' h => ⟨_, rfl, run_loadA 32 (.tmp 91) ⟨gr, 1, none⟩ rfl Try.isAgg32 (h.dep n' 13 91 (by kernel_rfl) rfl) ((Row.later rr h.inv.1).cell (j := 1) (v := .slice AL gs.length cl) rfl)⟩⟩
          · refine ⟨.inr ⟨8, false, 86, rfl, by kernel_rfl, rfl, by simp, fun v h => h⟩, ?_⟩
            refine .inr fun L a1 w1 n' h K hK => ?_
            have yes10 : L.getD 10 false = true := n'.dep (by kernel_rfl)
            obtain ⟨A9, c9, li, v9, hF, hv⟩ := h.inv.2 ((bits_at rfl).trans yes10)
            have y0 : a1.eval (.tmp 88) = .slice A9 li.length c9 := v9
            have y1 : a1.eval (.tmp 92) = .slice AL gs.length cl := h.dep n' 14 92 (by kernel_rfl) rfl
            refine st_call 18 _ _ #[.slice A9 li.length c9, .slice AL gs.length cl] rfl Try.call18 ?_ (same_vF w1 A9 AL c9 cl li gs hF hv (HFl w1 h.inv.1) hle) ?_
            · simp only [List.map_toArray, List.map_cons, List.map_nil, y0, y1]
            · rintro e w3 ⟨rfl, b3⟩
              exact ⟨_, rfl, hK _ w3 rfl ⟨h.inv.1.trans (b3.mono h.inv.1.size), fun _ => ⟨A9, c9, li, v9, (hF.below b3).up b3.size, hv⟩⟩⟩
          · refine ⟨.inr ⟨8, false, 86, rfl, by kernel_rfl, rfl, by simp, fun v h => h⟩, ?_⟩
            exact .inl ⟨by kernel_rfl, fun L a1 w1 n' h => ⟨_, rfl, run_notB (.tmp 93) true rfl (h.dep n' 15 93 (by kernel_rfl) rfl) rfl⟩⟩
          · refine ⟨.inl rfl, ?_⟩
            exact .inl ⟨by kernel_rfl, fun L a1 w1 n' h => ⟨_, rfl, run_pickF (.tmp 86) _ _ rfl (h.dep n' 8 86 (by kernel_rfl) rfl) (h.dep n' 16 94 (by kernel_rfl) rfl)⟩⟩
        case he17 =>
          intro V w9 hV hJ
          have hv : V 17 = .bool false := hV 17 95 rfl
          have b9 : Below w2.heap.size w2 w9 := hJ.1
          clear hV hJ HIm
          simp only [putOps, List.setIfInBounds_toArray, List.set_cons_succ, List.set_cons_zero, Nat.reduceAdd]
          rw [hv]
          refine hK1 _ _ ?_
          clear hv
          generalize V 0 = v0
          generalize V 1 = v1
          generalize V 2 = v2
          generalize V 3 = v3
          generalize V 4 = v4
          generalize V 5 = v5
          generalize V 6 = v6
          generalize V 7 = v7
          generalize V 8 = v8
          generalize V 9 = v9
          generalize V 10 = v10
          generalize V 11 = v11
          generalize V 12 = v12
          generalize V 13 = v13
          generalize V 14 = v14
          generalize V 15 = v15
          generalize V 16 = v16
          have HB9 := hide b9
          clear b9
          go_wp2_with fail
          go_loopw [10] (fun jv wi => ∃ j : Nat, j ≤ gs.length ∧ jv = .int .i64 j ∧ Below w2.heap.size w2 wi) (fun jv _ => gs.length - (intOf jv).toNat)
          case atStart => exact ⟨0, Nat.zero_le _, rfl, HB9.out⟩
          case round =>
            obtain ⟨j, hj, rfl, bi⟩ := hrel
            by_cases hjl : j < gs.length
            · have hd3 : decide ((j : Int) < (gs.length : Int)) = true := by simp; omega
              obtain ⟨p, hp⟩ : ∃ p, gs[j]? = some p := ⟨_, List.getElem?_eq_getElem (by omega)⟩
              obtain ⟨n, f2⟩ := p
              obtain ⟨ng, ncap, en, cn⟩ := names_cell HN.out hjl (n := n) (by rw [List.getElem?_map, hp]; rfl)
              injection en with en1 en2 en3
              subst en1
              have hng : ng < w2.heap.size := block_lt_of_cell cn
              have cn2 : wr.cell? ⟨ng, j, none⟩ = some (encStr n) := (bi.cell (p := ⟨ng, j, none⟩) hng).trans cn
              obtain ⟨bb, oo, rfl, hbb, hcc⟩ := (HFl wr bi).2.1 (by omega)
              have cf := hcc j _ hp 0 _ rfl
              rw [Nat.add_zero] at cf
              simp only at cf
              have k1 := (Row.later rr bi).cell (j := 1) rfl
              have HS := sizeFile
              have HNE := fun w => neq_nm w n
              clear hcc hp en3 en2 cn hng hbb
              go_wp2_with fail
              go_quiet (fail)
              go_wp2_with fail
              go_roundw
              case rel => exact ⟨j + 1, by omega, by go_num, below_drewn bi nq⟩
              case measure => simp [intOf]; omega
            · obtain rfl : j = gs.length := by omega
              have hd3 : decide ((gs.length : Int) < (gs.length : Int)) = false := by simp
              have HE := hide (HB2.out.trans (bi.mono HB2.out.size))
              clear HFl rr
              go_wp2_with fail
              refine (awakeD_any wr).mono ?_
              rintro e wz ⟨rfl, bz⟩
              go_wp2_with fail
              go_ret
              exact ⟨rfl, HE.out.trans (bz.mono HE.out.size)⟩
end Go.Proofs.Ytaflmiopaiigbaa

/- Proved: the law DiskPlays (P9.1 to P9.4) answers true and leaves its argument as it read before. For every list of acts; no condition. -/
namespace Go.Proofs.Ytaflmiopaiigbaa.diskPlays
open Go.ChangeShapes Go.WideShapes Go.ChangeAt Go.RowKit

theorem own : ownKnob Try.prog.godebug = none := by kernel_rfl
theorem laidOut : laidOutB Try.prog = true := by kernel_rfl

set_option maxRecDepth 100000 in
theorem lifted (os : Os) (started : os.Started) (H : Type) (enc : TypeId × Value → H) :
    ReturnsInHanded {} Try.checked os 3 .any (Rows.diskPlaysSpec.pre6 enc Try.prog Try.f3 Rows.diskPlaysRow.domain false) (Rows.diskPlaysSpec.post enc Try.prog Try.f3 false true false false) := by
  refine returnsInHanded_of_change (C := Try.checked) own started (by kernel_rfl) Try.func3
    (ChangeSpec.witness6 (enc := enc) (C := Try.checked) false ⟨#[], #[.slice none 0 0], []⟩ 8 (by kernel_rfl) (by kernel_rfl) (by kernel_rfl) (by kernel_rfl)) ?_
  intro W base args ds gs before hval0 hW hcnd _
  have hval : ∀ (j : Nat) t v, Try.f3.params[j]? = some t → args[j]? = some v → Value.okWide Try.prog W .any base t v := hval0
  have hW' := hW
  obtain ⟨p, q, hA0, hV, rfl, hfz, hnd⟩ := hW
  have hA : DataW.TrodAll enc Try.prog W 0 (fun _ => true) true Try.f3.params.toList args.toList ds p := hA0
  rw [Try.params3] at hA hval
  obtain ⟨v0, vs0, d0, ds0, p0, q0, hargs, rfl, rfl, h0, r0⟩ := trodAll_cons hA
  obtain ⟨rfl, rfl, rfl⟩ := trodAll_nil r0
  obtain rfl : args = #[v0] := by cases args; simp_all
  obtain ⟨rfl, rfl⟩ := trodVars_none hV
  obtain ⟨a0, len0, cap0, rfl⟩ := okWide_slice Try.underlying22 (hval 0 22 v0 rfl rfl)
  have k0 := h0
  have lt0 : ∀ x ∈ p0, x.block < W.heap.size := by obtain ⟨m, hm⟩ := k0; exact DataW.trod_lt m _ _ _ hm
  clear hA0 hval0
  obtain ⟨f0, q1, q2⟩ := trod_dacts k0
  refine (diskPlays_any a0 len0 cap0 f0 W q1 q2).mono fun e W' ⟨he, bel⟩ => ?_
  subst he
  exact ⟨_, rfl, _, _, _, [], _, [], hW', trodAll_mk1 (shut_bool Try.underlying4 _), (trodAll_cons_mk (Below.trod laidOut (by kernel_rfl) (of_decide_eq_true (by kernel_rfl)) k0 bel lt0) trodAll_mk0), rfl, bel.frame _, fun h => by cases h⟩

theorem over : Rows.diskPlaysRow.holds Try.pinned (OpenSpec.ofChange Rows.diskPlaysSpec) :=
  OpenClaim.holds_of_wide 3 Try.f3 rfl rfl rfl rfl rfl rfl rfl ⟨rfl, rfl, rfl, rfl, rfl⟩ rfl rfl rfl rfl rfl (by kernel_rfl) Try.func3 (by kernel_rfl)
    (of_decide_eq_true (by kernel_rfl)) (by unfold Func.isWrapper; first | (rw [if_pos (by decide +kernel)]; kernel_rfl) | (rw [if_neg (by decide +kernel)]; exact ⟨rfl, rfl⟩))
    (fun os started H enc _ => lifted os started H enc)

/-- The given statement. -/
theorem proved : Rows.DiskPlaysSaid := over
#print axioms proved
end Go.Proofs.Ytaflmiopaiigbaa.diskPlays

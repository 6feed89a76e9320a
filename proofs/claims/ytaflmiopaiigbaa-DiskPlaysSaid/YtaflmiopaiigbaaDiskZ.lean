/-
  The disk: Edit. Own work.
-/
import Derived.Test.YtaflmiopaiigbaaDiskY
namespace Go.Proofs.Ytaflmiopaiigbaa
open Go.RowKit Go.Maps Go.ChangeMaps
set_option linter.unusedVariables false
set_option linter.unusedSimpArgs false
/-- What Edit tells. -/
def edE (fs : Fs) (n : Nm) (m : Nat) : Int := if okN n && decide (m ≤ 1048576) then (if (!(atF fs n).isSome && decide (64 ≤ fs.length)) then 10 else 0) else 1
def JEd (w0 : World) (m : Nat) (xs : List Int) (N : World → Prop) (bs : List Bool) (vs : List Value) (w : World) : Prop :=
  (bs.getD 2 false = false → Below w0.heap.size w0 w) ∧ (bs.getD 0 false = true → bs.getD 2 false = false → ∃ A c, vs.getD 0 undef = .slice A m c ∧ w.ownsRow w0.heap.size 5 1 (.slice A m c) m (bv xs)) ∧
    (bs.getD 1 false = true → ∃ A c, vs.getD 0 undef = .slice A m c ∧ vs.getD 1 undef = .agg #[.slice A m c, .int .i64 (m : Int)]) ∧ (bs.getD 2 false = true → N w)
theorem JEd.start (w0 : World) (m : Nat) (xs : List Int) (N : World → Prop) (vs : List Value) : JEd w0 m xs N [false, false, false] vs w0.drew :=
  ⟨fun _ => (Below.refl _ _).drew, fun h => absurd (show false = true from h) (by decide), fun h => absurd (show false = true from h) (by decide), fun h => absurd (show false = true from h) (by decide)⟩
theorem own_lo {w : World} {T T' e m : Nat} {v : Value} {xs : List Value} (h : w.ownsRow T e 1 v m xs) (hT : T' ≤ T) : w.ownsRow T' e 1 v m xs :=
  ⟨h.1, h.2.imp id fun ⟨g, cap, cur, e1, h1, hg, h2⟩ => ⟨g, cap, cur, e1, Nat.le_trans hT h1, hg, h2⟩⟩
def SEd (gd mb : Nat) (pl : Value) (n : Nm) (A : Option Addr) (m c : Nat) (opn : Nat) (v : Value) : Prop :=
  match opn with
  | 0 | 1 => v = ptr gd
  | 2 => v = .pointer (some ⟨gd, 1, none⟩)
  | 3 => v = .map (some mb)
  | 4 => v = encStr n
  | 5 => v = .slice A m c
  | _ => True

set_option maxRecDepth 100000 in
set_option maxHeartbeats 1000000 in
theorem edit_ok (w : World) (B gd mb : Nat) (pl : Value) (fs : Fs) (n : Nm) (A : Option Addr) (m c : Nat) (xs : List Int) (hB : B ≤ w.heap.size) (hD : DiskAt w B gd pl mb fs) (hy : Bs w w.heap.size A m xs) (hok : okN n = true) (hmax : m ≤ 1048576) (hroom : (atF fs n).isSome = true ∨ fs.length < 64) :
    Calls Try.prog 33 #[ptr gd, encStr n, .slice A m c] w fun e w' => e = .returned (.int .i64 0) ∧ ∃ A' c', DiskAt w' B gd pl mb (putF fs n ⟨A', m, c', xs, m⟩) ∧ Buts [mb] w w' := by
  have hn := okN_le hok
  have hm : m ≤ 140737488355328 := Nat.le_trans hmax (by decide)
  have hd : decide ((1048576 : Int) < (m : Int)) = false := by simp; omega
  have hq : (!(atF fs n).isSome && decide (64 ≤ fs.length)) = false := by
    rcases hroom with h | h
    · rw [h]; rfl
    · have : decide (64 ≤ fs.length) = false := by simp; omega
      rw [this]; simp
  have HU := full_any w gd mb pl fs n hn hD.row hD.map
  rw [hq] at HU
  have HU := hide HU
  go_enter Try.func33, Try.ntmps33
  go_wp2_with fail
  refine (made_yes w gd mb pl hD.row).mono ?_
  rintro e w1 ⟨rfl, rfl⟩
  go_wp2_with fail
  refine (named_any n w).mono ?_
  rintro e w1 ⟨rfl, rfl⟩
  rw [hok]
  go_wp2_with fail
  refine HU.out.mono ?_
  rintro e w1 ⟨rfl, b1⟩
  have hD := hD.later b1
  have hy := hy.later b1
  have hB := Nat.le_trans hB b1.size
  have b01 := b1
  clear HU b1
  go_wp2_with fail
  rename_i K0 hK0
  refine wp_region_vals [6, 7, 8] (SEd gd mb pl n A m c) (JEd w1 m xs (fun w' => ∃ A' c', DiskAt w' B gd pl mb (putF fs n ⟨A', m, c', xs, m⟩) ∧ Buts [mb] w1 w')) (by kernel_rfl) (by kernel_rfl) (by kernel_rfl) (by kernel_rfl) (by kernel_rfl) (JEd.start _ _ _ _ _) ?obsE ?heE
  case obsE =>
    refine ⟨?_, ?_, ?_, ?_, ?_, ?_, ?_, ?_, ?_, trivial⟩
    · exact .inl ⟨by kernel_rfl, fun L a1 w1 n' h => ⟨_, rfl, run_move (.tmp 0) rfl (h.var n' 0 (by kernel_rfl))⟩⟩
    · refine .inl ⟨by kernel_rfl, fun L a1 w1 n' h => ⟨ptr gd, rfl, ?_⟩⟩
      have e0 : a1.eval (.tmp 21) = _ := h.dep n' 0 21 (by kernel_rfl) rfl
      unfold execOp
      simp only [e0]
      go_simp
    · refine .inl ⟨by kernel_rfl, fun L a1 w1 n' h => ⟨.pointer (some ⟨gd, 1, none⟩), rfl, ?_⟩⟩
      have e0 : a1.eval (.tmp 22) = _ := h.dep n' 1 22 (by kernel_rfl) rfl
      unfold execOp
      simp only [e0]
      go_simp
    · exact .inl ⟨by kernel_rfl, fun L a1 w1 n' h => ⟨_, rfl, run_loadA 70 (.tmp 23) ⟨gd, 1, none⟩ rfl Try.isAgg70 (h.dep n' 2 23 (by kernel_rfl) rfl) ((Row.later hD.row (h.inv.1 ((bits_at rfl).trans (n'.later (by kernel_rfl))))).cell (j := 1) (v := .map (some mb)) rfl)⟩⟩
    · exact .inl ⟨by kernel_rfl, fun L a1 w1 n' h => ⟨_, rfl, run_move (.tmp 1) rfl (h.var n' 1 (by kernel_rfl))⟩⟩
    · exact .inl ⟨by kernel_rfl, fun L a1 w1 n' h => ⟨_, rfl, run_move (.tmp 2) rfl (h.var n' 2 (by kernel_rfl))⟩⟩
    · refine .inr fun L a1 w1 n' h K hK => ?_
      have no6 : L.getD 6 false = false := n'.not_yet
      have no7 : L.getD 7 false = false := n'.later (by kernel_rfl)
      have no8 : L.getD 8 false = false := n'.later (by kernel_rfl)
      have b9 := h.inv.1 ((bits_at rfl).trans no8)
      have y0 : a1.eval (.tmp 26) = .slice A m c := h.dep n' 5 26 (by kernel_rfl) rfl
      refine st_call 14 _ _ #[.slice A m c] rfl Try.call14 ?_ (cloneF A m c xs w1 (hy.later b9) hm) ?_
      · simp only [List.map_toArray, List.map_cons, List.map_nil, y0]
      · rintro e w3 ⟨A3, c3, rfl, own3, b3⟩
        exact ⟨_, rfl, hK _ w3 trivial ⟨fun _ => b9.trans (b3.mono b9.size), fun _ _ => ⟨A3, c3, rfl, own_lo own3 b9.size⟩, fun h0 => absurd (no7.symm.trans h0) (by decide), fun h0 => absurd (no8.symm.trans h0) (by decide)⟩⟩
    · refine .inr fun L a1 w1 n' h K hK => ?_
      have yes6 : L.getD 6 false = true := n'.dep (by kernel_rfl)
      have no8 : L.getD 8 false = false := n'.later (by kernel_rfl)
      have b9 := h.inv.1 ((bits_at rfl).trans no8)
      obtain ⟨A3, c3, ev, own3⟩ := h.inv.2.1 ((bits_at rfl).trans yes6) ((bits_at rfl).trans no8)
      have y0 : a1.eval (.tmp 27) = .slice A3 m c3 := ev
      refine st_call 61 _ _ #[.slice A3 m c3] rfl Try.call61 ?_ (whole_any w1 A3 m c3) ?_
      · simp only [List.map_toArray, List.map_cons, List.map_nil, y0]
      · rintro e w3 ⟨rfl, b3⟩
        exact ⟨_, rfl, hK _ w3 trivial ⟨fun _ => b9.trans (b3.mono b9.size), fun _ _ => ⟨A3, c3, ev, ownr_later own3 b3⟩, fun _ => ⟨A3, c3, ev, rfl⟩, fun h0 => absurd (no8.symm.trans h0) (by decide)⟩⟩
    · refine .inr fun L a1 w1 n' h K hK => ?_
      have yes6 : L.getD 6 false = true := n'.dep (by kernel_rfl)
      have yes7 : L.getD 7 false = true := n'.dep (by kernel_rfl)
      have no8 : L.getD 8 false = false := n'.not_yet
      have b9 := h.inv.1 ((bits_at rfl).trans no8)
      obtain ⟨A3, c3, ev, own3⟩ := h.inv.2.1 ((bits_at rfl).trans yes6) ((bits_at rfl).trans no8)
      obtain ⟨A4, c4, ev4, eu4⟩ := h.inv.2.2.1 ((bits_at rfl).trans yes7)
      have e9 := ev.symm.trans ev4
      injection e9 with q1 q2 q3
      have y2 : a1.eval (.tmp 28) = (FV.mk A3 m c3 xs (m : Int)).val := by
        refine Eq.trans (show a1.eval (.tmp 28) = _ from eu4) ?_
        rw [← q1, ← q3]
      refine st_put (.tmp 24) (.tmp 25) (.tmp 28) (FV.mk A3 m c3 xs (m : Int)).val rfl (h.dep n' 3 24 (by kernel_rfl) rfl) (h.dep n' 4 25 (by kernel_rfl) rfl) y2 (hD.map.later b9) hn (lenE hD.few) ?_
      intro w3 m3 o3
      have hD3 := (hD.later b9).stored (n := n) (f := FV.mk A3 m c3 xs (m : Int)) m3 (Buts.only o3 (List.mem_singleton.2 rfl)) (own_lo own3 hB) ⟨by show (0 : Int) ≤ (m : Int); omega, Int.le_refl _, hmax⟩ (fun p hp _ k hk hk2 => by
        have := (hD.blo k (mem_dblocks.2 (.inr (.inr ⟨p, hp, hk⟩)))).2
        have := (owf_lo (f := FV.mk A3 m c3 xs (m : Int)) own3 k hk2).1
        omega) hroom
      exact hK undef w3 trivial ⟨fun h0 => absurd (show true = false from h0) (by decide), fun _ h0 => absurd (show true = false from h0) (by decide), fun _ => ⟨A4, c4, ev4, eu4⟩, fun _ => ⟨A3, c3, hD3, (Buts.of b9 _).trans (Buts.only o3 (List.mem_singleton.2 rfl))⟩⟩
  case heE =>
    intro V w9 hV hJ
    obtain ⟨A', c', h1, h2⟩ := hJ.2.2.2 rfl
    clear hV hJ
    simp only [putOps, List.setIfInBounds_toArray, List.set_cons_succ, List.set_cons_zero, Nat.reduceAdd]
    refine hK0 _ _ ?_
    go_wp2_with fail
    go_ret
    exact ⟨rfl, A', c', h1, (Buts.of b01 _).trans h2⟩
set_option maxRecDepth 100000 in
theorem edit_full (w : World) (gd mb : Nat) (pl : Value) (fs : Fs) (n : Nm) (A : Option Addr) (m c : Nat) (hr : DRow w gd pl (.map (some mb))) (hM : FMap w mb fs) (hok : okN n = true) (hmax : m ≤ 1048576) (hno : (atF fs n).isSome = false) (hfull : 64 ≤ fs.length) :
    Calls Try.prog 33 #[ptr gd, encStr n, .slice A m c] w fun e w' => e = .returned (.int .i64 10) ∧ Below w.heap.size w w' := by
  have hn := okN_le hok
  have hd : decide ((1048576 : Int) < (m : Int)) = false := by simp; omega
  have hq : (!(atF fs n).isSome && decide (64 ≤ fs.length)) = true := by
    rw [hno]
    simp [hfull]
  have HU := full_any w gd mb pl fs n hn hr hM
  rw [hq] at HU
  have HU := hide HU
  go_enter Try.func33, Try.ntmps33
  go_wp2_with fail
  refine (made_yes w gd mb pl hr).mono ?_
  rintro e w1 ⟨rfl, rfl⟩
  go_wp2_with fail
  refine (named_any n w).mono ?_
  rintro e w1 ⟨rfl, rfl⟩
  rw [hok]
  go_wp2_with fail
  refine HU.out.mono ?_
  rintro e w1 ⟨rfl, b1⟩
  clear HU
  go_wp2_with fail
  go_ret
  exact ⟨rfl, b1⟩
end Go.Proofs.Ytaflmiopaiigbaa

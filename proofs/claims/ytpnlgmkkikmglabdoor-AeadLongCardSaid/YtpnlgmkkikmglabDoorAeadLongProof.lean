/- Proved: the law AeadLong (P4.1) answers true and leaves its arguments as they read before. For every key, nonce, list of bytes beside and byte; no condition but the tie of the two tables of chacha to the program's text. -/
import Derived.Lib.AppendZerosOnto
import Derived.Test.YtpnlgmkkikmglabDoorRows
import Derived.Test.YtpnlgmkkikmglabDoorCards
import Derived.Test.YtpnlgmkkikmglabDoorTie
import Derived.WalkKit
import Derived.ProofKit
import Derived.OpenShut
import Derived.ShutString
import Derived.ChangeOld
import Derived.Below
import Derived.LaidMore
import Derived.Stop.Joined
import Derived.SevenTiedAt
import Derived.Test.YtpnlgmkkikmglabDoorGE
import Derived.Test.YtpnlgmkkikmglabDoorGB
import Derived.Test.YtpnlgmkkikmglabDoorGA
set_option linter.unusedVariables false
set_option linter.unusedSimpArgs false
/-
  Aead: the laws AeadSeals, AeadOpens, AeadBack: contracts. Own work.
-/
namespace Go.Proofs.YtpnlgmkkikmglabDoor
open Go.RowKit
/-- A key, a nonce and what goes beside a text, in cells. -/
def withL (ks ns : List Int) (A : Option Addr) (m c : Nat) : List Value := bv ks ++ (bv ns ++ [.slice A m c])
theorem withRowK {w : World} {T g : Nat} {ks ns : List Int} {A : Option Addr} {m c : Nat} (r : Row w T g (withL ks ns A m c)) : Row w T g ([] ++ (bv ks ++ (bv ns ++ [Value.slice A m c]))) := r
theorem withRowN {w : World} {T g : Nat} {ks ns : List Int} {A : Option Addr} {m c : Nat} (r : Row w T g (withL ks ns A m c)) : Row w T g (bv ks ++ (bv ns ++ [Value.slice A m c])) := r
theorem withAd {ks ns : List Int} {A : Option Addr} {m c : Nat} (hk : ks.length = 32) (hn : ns.length = 12) : (withL ks ns A m c)[44]? = some (.slice A m c) := by
  unfold withL
  rw [List.getElem?_append_right (by rw [bv_len]; omega), bv_len, hk, List.getElem?_append_right (by rw [bv_len]; omega), bv_len, hn]
  rfl
theorem equal_same (A B : Option Addr) (n m c d : Nat) (xs : List Int) (w : World) (h1 : Bs w w.heap.size A n xs) (h2 : Bs w w.heap.size B m xs) :
    Calls Tryd.prog 13 #[.slice A n c, .slice B m d] w fun e w' => e = .returned (.bool true) ∧ Below w.heap.size w w' := by
  refine (equal_any A B n m c d xs xs w h1 h2).mono ?_
  rintro e w' ⟨rfl, rfl⟩
  exact ⟨by rw [equal_self], Below.refl _ _⟩
set_option maxRecDepth 100000 in
set_option maxHeartbeats 2000000 in
theorem aeadSeals_any (ks ns ad xs : List Int) (A D : Option Addr) (m c n d : Nat) (w : World) (hT : Tabs w) (hk : ks.length = 32) (hn : ns.length = 12) (hk' : IsBy ks) (hn' : IsBy ns)
    (ha : Bs w w.heap.size A m ad) (hab : IsBy ad) (hac : m ≤ c) (hx : Bs w w.heap.size D n xs) (hxb : IsBy xs) (hxc : n ≤ d) (hmM : m ≤ maxLen) (hnM : n ≤ maxLen) :
    Calls Tryd.prog 3 #[.agg (withL ks ns A m c).toArray, .slice D n d] w fun e w' => e = .returned (.bool true) ∧ Below w.heap.size w w' := by
  have zk := hide (size_b (P := Tryd.prog) (T := 22) (by kernel_rfl) hk)
  have zn := hide (size_b (P := Tryd.prog) (T := 23) (by kernel_rfl) hn)
  have h32 := hide (show (bv ks).length = 32 by rw [bv_len, hk])
  have hAd := hide (withAd (A := A) (m := m) (c := c) hk hn)
  have Hk := hide hk
  have Hn := hide hn
  unfold maxLen at hmM hnM
  clear hk hn
  by_cases hl1 : 700 < n
  · have hd : decide ((700 : Int) < (n : Int)) = true := by simp; omega
    go_enter Tryd.func3, Tryd.ntmps3
    go_wp2_with (first
      | (with_reducible refine wl_box rfl 26 (.tmp 0) _ (withL ks ns A m c) rfl rfl rfl ?_; intro g2 w2 r2 a2 l2 b2))
    refine (awake_any _ (hT.later b2)).mono ?_
    rintro e w3 ⟨rfl, b3⟩
    go_wp2_with fail
    go_ret
    exact ⟨rfl, b2.trans (b3.mono b2.size)⟩
  have hd : decide ((700 : Int) < (n : Int)) = false := by simp; omega
  by_cases hl2 : 700 < m
  · have hd2 : decide ((700 : Int) < (m : Int)) = true := by simp; omega
    go_enter Tryd.func3, Tryd.ntmps3
    go_wp2_with (first
      | (with_reducible refine wl_box rfl 26 (.tmp 0) _ (withL ks ns A m c) rfl rfl rfl ?_; intro g2 w2 r2 a2 l2 b2)
      | (with_reducible refine wg_load 3 false 13 rfl rfl rfl 24 (.tmp 14) g2 44 26 _ (.slice A m c) rfl Tryd.isAgg24 rfl r2 hAd.out ?_))
    refine (awake_any _ (hT.later b2)).mono ?_
    rintro e w3 ⟨rfl, b3⟩
    go_wp2_with fail
    go_ret
    exact ⟨rfl, b2.trans (b3.mono b2.size)⟩
  have hd2 : decide ((700 : Int) < (m : Int)) = false := by simp; omega
  go_enter Tryd.func3, Tryd.ntmps3
  go_wp2_with (first
    | (with_reducible refine wl_box rfl 26 (.tmp 0) _ (withL ks ns A m c) rfl rfl rfl ?_; intro g2 w2 r2 a2 l2 b2)
    | (with_reducible refine wg_load 3 false 13 rfl rfl rfl 24 (.tmp 14) g2 44 26 _ (.slice A m c) rfl Tryd.isAgg24 rfl r2 hAd.out ?_))
  have hx2 := hx.later b2
  refine (clone_any D n d xs w2 hx2 (by omega)).mono ?_
  rintro e w3 ⟨A3, n3, c3, rfl, h3, hc3, hM3, b3⟩
  obtain rfl : n3 = n := by rw [← h3.1, hx.1]
  have B3 := b2.trans (b3.mono b2.size)
  have r3 := r2.later b3
  have hx3 := hx2.later b3
  clear r2 hx2 b3
  go_wp2_with (first
    | (with_reducible refine wl_load_part rfl 22 (.tmp 23) g2 0 26 _ (bv ks) _ _ rfl rfl (withRowK r3) rfl Tryd.underlying22 rfl zk.out ?_)
    | (with_reducible refine wl_load_part rfl 23 (.tmp 25) g2 32 26 _ (bv ns) _ _ rfl rfl (withRowN r3) h32.out Tryd.underlying23 rfl zn.out ?_)
    | (with_reducible refine wl_load rfl 24 (.tmp 27) g2 44 26 _ (.slice A m c) rfl Tryd.isAgg24 rfl r3 hAd.out ?_))
  refine (seal_any ks ns ad xs A D m c n3 d w3 (hT.later B3) Hk.out Hn.out hk' hn' (ha.later B3) hab hac hx3 hxb hxc (by omega) (by omega)).mono ?_
  rintro e w4 ⟨A4, c4, rfl, h4, b4, l4, m4⟩
  have B4 := B3.trans (b4.mono B3.size)
  have r4 := r3.later b4
  have h3' := h3.later b4
  clear r3 h3
  go_wp2_with (first
    | (with_reducible refine wl_load_part rfl 22 (.tmp 34) g2 0 26 _ (bv ks) _ _ rfl rfl (withRowK r4) rfl Tryd.underlying22 rfl zk.out ?_)
    | (with_reducible refine wl_load_part rfl 23 (.tmp 36) g2 32 26 _ (bv ns) _ _ rfl rfl (withRowN r4) h32.out Tryd.underlying23 rfl zn.out ?_)
    | (with_reducible refine wl_load rfl 24 (.tmp 38) g2 44 26 _ (.slice A m c) rfl Tryd.isAgg24 rfl r4 hAd.out ?_))
  refine (refSeal_any ks ns ad xs A A3 m c n3 c3 w4 Hk.out Hn.out hk' hn' (ha.later B4) hab h3' hxb (by omega) (by omega)).mono ?_
  rintro e w5 ⟨A5, c5, rfl, h5, b5, l5, m5⟩
  have B5 := B4.trans (b5.mono B4.size)
  have h4' := h4.later b5
  have h3a := h3'.later b5
  have hx5 := hx.later B5
  clear r4 h3' h4 hx3
  go_wp2_with fail
  refine (equal_same A4 A5 _ _ c4 c5 (sealL ks ns ad xs) w5 h4' h5).mono ?_
  rintro e w6 ⟨rfl, b6⟩
  have B6 := B5.trans (b6.mono B5.size)
  have h3b := h3a.later b6
  have hx6 := hx5.later b6
  go_wp2_with fail
  refine (equal_same D A3 n3 n3 d c3 xs w6 hx6 h3b).mono ?_
  rintro e w7 ⟨rfl, b7⟩
  have B7 := B6.trans (b7.mono B6.size)
  go_wp2_with fail
  refine (awake_any w7 (hT.later B7)).mono ?_
  rintro e w8 ⟨rfl, b8⟩
  go_wp2_with fail
  go_ret
  exact ⟨rfl, B7.trans (b8.mono B7.size)⟩
end Go.Proofs.YtpnlgmkkikmglabDoor

/-
  From a reading of a key, a nonce and what goes beside a text to its cells. Own work.
-/
namespace Go.Proofs.YtpnlgmkkikmglabDoor
open Go.RowKit Go.ChangeShapes Go.WideShapes
set_option maxRecDepth 100000 in
theorem open_with {H : Type} {enc : TypeId × Value → H} {w : World} {spare : Nat → Bool} {held : Bool} {fuel : Nat} {cs : List Value} {x : DataW H × List MemPlace}
    (h : DataW.trod enc Tryd.prog w 0 spare held fuel 26 cs = some x) : ∃ (ks ns ad : List Int) (A : Option Addr) (m c : Nat), cs = withL ks ns A m c ∧ ks.length = 32 ∧ ns.length = 12 ∧ IsBy ks ∧ IsBy ns ∧ Bs w w.heap.size A m ad ∧ IsBy ad ∧ m ≤ c ∧ m ≤ maxLen := by
  have ce : Tryd.prog.cellsOf 5 = 1 := by kernel_rfl
  have c32 : Tryd.prog.cellsOf 22 = 32 := by kernel_rfl
  have c12 : Tryd.prog.cellsOf 23 = 12 := by kernel_rfl
  have cs1 : Tryd.prog.cellsOf 24 = 1 := by kernel_rfl
  have cT : Tryd.prog.cellsOf 26 = 45 := by kernel_rfl
  obtain ⟨y0, y1, y2, n, _, hl, h0, h1, h2⟩ := Go.Deep.trod_struct3 Tryd.underlying26 h
  rw [cT] at hl
  obtain ⟨ks, e0, lk, bk⟩ := trod_bytes Tryd.underlying22 Tryd.underlying5 ce c32 h0
  obtain ⟨ns, e1, ln, bn⟩ := trod_bytes Tryd.underlying23 Tryd.underlying5 ce c12 h1
  simp only [c32, c12] at e0 e1
  have t1 : (cs.drop 44).take 1 = cs.drop 44 := List.take_of_length_le (by simp; omega)
  obtain ⟨u, hu⟩ : ∃ u, cs.drop 44 = [u] := by
    have : (cs.drop 44).length = 1 := by simp; omega
    exact List.length_eq_one_iff.1 this
  have h2' : DataW.trod enc Tryd.prog w 0 spare held n 24 [u] = some y2 := by
    rw [← hu, ← t1, ← cs1]
    exact h2
  obtain ⟨A, m, c, ad, e2, hb, hby, h3, h4⟩ := trod_bs Tryd.underlying24 Tryd.underlying5 ce h2'
  rw [e2] at hu
  refine ⟨ks, ns, ad, A, m, c, ?_, lk, ln, bk, bn, hb, hby, h3, Nat.le_trans h3 h4⟩
  unfold withL
  rw [← e0, ← e1, ← hu]
  simp only [List.drop_zero]
  have s1 : (cs.drop 32).take 12 ++ cs.drop 44 = cs.drop 32 := by rw [show 44 = 32 + 12 from rfl, ← List.drop_drop, List.take_append_drop]
  rw [s1, List.take_append_drop]
end Go.Proofs.YtpnlgmkkikmglabDoor

/-
  Aead: the law AeadLong: contract. Own work.
-/
namespace Go.Proofs.YtpnlgmkkikmglabDoor
open Go.RowKit
theorem wf_u8 {x : Int} (h : (Lit.int .u8 x).wf = true) : 0 ≤ x ∧ x < 256 := by
  simp only [Lit.wf, Bool.and_eq_true, decide_eq_true_eq] at h
  have hmin : IntKind.u8.min = 0 := rfl
  have hmax : IntKind.u8.max = 255 := rfl
  rw [hmin, hmax] at h
  omega
/-- A slice of so many, wherever it lies. -/
def LnF (n : Nat) (v : Value) (w : World) : Prop := ∃ A c, v = .slice A n c
theorem LnF.later {n : Nat} {v : Value} {w w' : World} (h : LnF n v w) (hb : Below w.heap.size w w') : LnF n v w' := h
def SL4 (ks ns : List Int) (g2 g5 N q : Nat) (opn : Nat) (v : Value) : Prop :=
  match opn with
  | 0 => v = .pointer (some ⟨g2, 0, none⟩)
  | 1 => v = .agg (bv ks).toArray
  | 2 => v = .pointer (some ⟨g2, 32, none⟩)
  | 3 => v = .agg (bv ns).toArray
  | 4 => v = .slice (some ⟨g5, 0, none⟩) N N
  | 6 | 7 => v = .tuple #[.slice none 0 0, .int .i64 5]
  | 8 | 10 => v = .slice none 0 0
  | 9 | 11 => v = .int .i64 5
  | _ => True

def FL4 (N : Nat) (opn : Nat) (v : Value) (w : World) : Prop :=
  match opn with
  | 5 => LnF (N + 16) v w
  | _ => True
theorem FL4_mono (N : Nat) : ∀ j v w w', FL4 N j v w → Below w.heap.size w w' → FL4 N j v w' := by
  intro j v w w' h hb
  unfold FL4 at h ⊢
  split at h
  · exact h.later hb
  · trivial

def SL5 (ks ns : List Int) (g2 g5 N q : Nat) (opn : Nat) (v : Value) : Prop :=
  match opn with
  | 0 => v = .pointer (some ⟨g2, 0, none⟩)
  | 1 => v = .agg (bv ks).toArray
  | 2 => v = .pointer (some ⟨g2, 32, none⟩)
  | 3 => v = .agg (bv ns).toArray
  | 4 => v = .slice (some ⟨g5, 0, none⟩) N N
  | 6 | 7 => v = .tuple #[.slice none 0 0, .int .i64 5]
  | 8 | 10 => v = .slice none 0 0
  | 9 | 11 => v = .int .i64 5
  | _ => True

def FL5  (opn : Nat) (v : Value) (w : World) : Prop :=
  match opn with
  | 5 => LnF (16) v w
  | _ => True
theorem FL5_mono  : ∀ j v w w', FL5  j v w → Below w.heap.size w w' → FL5  j v w' := by
  intro j v w w' h hb
  unfold FL5 at h ⊢
  split at h
  · exact h.later hb
  · trivial

def SL6 (ks ns : List Int) (g2 g5 N q : Nat) (opn : Nat) (v : Value) : Prop :=
  match opn with
  | 0 => v = .pointer (some ⟨g2, 0, none⟩)
  | 1 => v = .agg (bv ks).toArray
  | 2 => v = .pointer (some ⟨g2, 32, none⟩)
  | 3 => v = .agg (bv ns).toArray
  | 4 => v = .slice (some ⟨g5, 0, none⟩) N N
  | 5 => v = .int .u8 (q : Int)
  | 6 => v = .int .u8 ((q % 16 : Nat) : Int)
  | 8 | 9 => v = .tuple #[.slice none 0 0, .int .i64 4]
  | 10 | 12 => v = .slice none 0 0
  | 11 | 13 => v = .int .i64 4
  | _ => True

def FL6 (q : Nat) (opn : Nat) (v : Value) (w : World) : Prop :=
  match opn with
  | 7 => LnF (q % 16) v w
  | _ => True
theorem FL6_mono (q : Nat) : ∀ j v w w', FL6 q j v w → Below w.heap.size w w' → FL6 q j v w' := by
  intro j v w w' h hb
  unfold FL6 at h ⊢
  split at h
  · exact h.later hb
  · trivial

set_option maxRecDepth 100000 in
set_option maxHeartbeats 4000000 in
theorem aeadLong_any (ks ns ad : List Int) (A : Option Addr) (m c q : Nat) (w : World) (hT : Tabs w) (hk : ks.length = 32) (hn : ns.length = 12) (hq : q < 256) :
    Calls Tryd.prog 8 #[.agg (withL ks ns A m c).toArray, .int .u8 (q : Int)] w fun e w' => e = .returned (.bool true) ∧ Below w.heap.size w w' := by
  have zk := hide (size_b (P := Tryd.prog) (T := 22) (by kernel_rfl) hk)
  have zn := hide (size_b (P := Tryd.prog) (T := 23) (by kernel_rfl) hn)
  have h32 := hide (show (bv ks).length = 32 by rw [bv_len, hk])
  obtain ⟨i0, hi, hz, hsz, hby⟩ := u8_info
  clear hk hn
  obtain ⟨N, hN1, hN2, hN3⟩ : ∃ N : Nat, Hid (65537 + (q : Int) = (N : Int)) ∧ 65537 ≤ N ∧ N ≤ 65800 := ⟨65537 + q, by show _ = _; omega, by omega, by omega⟩
  go_enter Tryd.func8, Tryd.ntmps8
  go_wp2_with (first
    | (with_reducible refine wl_box rfl 26 (.tmp 0) _ (withL ks ns A m c) rfl rfl rfl ?_; intro g2 w2 r2 a2 l2 b2)
    | (with_reducible refine wl_make rfl 24 (.tmp 18) (.tmp 18) rfl 5 i0 (.int .u8 0) Tryd.underlying24 hi hz hsz rfl .i64 .i64 N N _ _ rfl rfl hN1.out hN1.out (Nat.le_refl _) (by rw [hby]; omega) (by omega) ?_; intro g5 w5 RL a5 l5 b5; have RW := r2.later b5)
    | (with_reducible refine wl_load_part rfl 22 (.tmp 21) g2 0 26 _ (bv ks) _ _ rfl rfl (withRowK RW) rfl Tryd.underlying22 rfl zk.out ?_)
    | (with_reducible refine wl_load_part rfl 23 (.tmp 23) g2 32 26 _ (bv ns) _ _ rfl rfl (withRowN RW) h32.out Tryd.underlying23 rfl zn.out ?_))
  have BB := b2.trans (b5.mono b2.size)
  clear r2 b2 b5
  refine (seal_long ks ns none (some ⟨g5, 0, none⟩) 0 0 N N w5 (by decide) (by unfold maxLen; omega) (by omega)).mono ?_
  rintro e w6 ⟨rfl, b6⟩
  replace RW := RW.later b6
  replace RL := RL.later b6
  replace BB := BB.trans (b6.mono BB.size)
  clear b6
  go_wp2_with (first
    | (with_reducible refine wl_load_part rfl 22 (.tmp 30) g2 0 26 _ (bv ks) _ _ rfl rfl (withRowK RW) rfl Tryd.underlying22 rfl zk.out ?_)
    | (with_reducible refine wl_load_part rfl 23 (.tmp 32) g2 32 26 _ (bv ns) _ _ rfl rfl (withRowN RW) h32.out Tryd.underlying23 rfl zn.out ?_))
  refine (seal_long ks ns (some ⟨g5, 0, none⟩) none N N 0 0 w6 (by unfold maxLen; omega) (by decide) (by omega)).mono ?_
  rintro e w7 ⟨rfl, b7⟩
  replace RW := RW.later b7
  replace RL := RL.later b7
  replace BB := BB.trans (b7.mono BB.size)
  clear b7
  go_wp2_with fail
  rename_i K4 hK4
  refine wp_region_vals [5, 6] (SL4 ks ns g2 g5 N q) (JF w7 [5, 6] (FL4 N)) (by kernel_rfl) (by kernel_rfl) (by kernel_rfl) (by kernel_rfl) (by kernel_rfl) (JF.start _) ?obs4 ?he4
  case obs4 =>
    refine ⟨?_, ?_, ?_, ?_, ?_, ?_, ?_, ?_, ?_, ?_, ?_, ?_, trivial⟩
    · refine .inl ⟨by kernel_rfl, fun L a1 w1 n h => ⟨.pointer (some ⟨g2, 0, none⟩), rfl, ?_⟩⟩
      have e0 : a1.eval (.tmp 2) = _ := h.var n 2 (by kernel_rfl)
      unfold execOp
      simp only [e0]
      go_simp
    · exact .inl ⟨by kernel_rfl, fun L a1 w1 n h => ⟨_, rfl, run_loadP 22 (.tmp 39) g2 0 26 _ (bv ks) _ _ rfl (h.dep n 0 39 (by kernel_rfl) rfl) (withRowK (RW.later h.inv.1)) rfl Tryd.underlying22 rfl zk.out⟩⟩
    · refine .inl ⟨by kernel_rfl, fun L a1 w1 n h => ⟨.pointer (some ⟨g2, 32, none⟩), rfl, ?_⟩⟩
      have e0 : a1.eval (.tmp 2) = _ := h.var n 2 (by kernel_rfl)
      unfold execOp
      simp only [e0]
      go_simp
    · exact .inl ⟨by kernel_rfl, fun L a1 w1 n h => ⟨_, rfl, run_loadP 23 (.tmp 41) g2 32 26 _ (bv ns) _ _ rfl (h.dep n 2 41 (by kernel_rfl) rfl) (withRowN (RW.later h.inv.1)) h32.out Tryd.underlying23 rfl zn.out⟩⟩
    · exact .inl ⟨by kernel_rfl, fun L a1 w1 n h => ⟨_, rfl, run_move (.tmp 5) rfl (h.var n 5 (by kernel_rfl))⟩⟩
    · refine .inr fun L a1 w1 n h K hK => ?_
      have e0 : a1.eval (.tmp 43) = .slice (some ⟨g5, 0, none⟩) N N := h.dep n 4 43 (by kernel_rfl) rfl
      have rl := RL.later h.inv.1
      refine Lib.wp_append_run w1 (.tmp 43) (.const (.int .i64 16)) _ _ rfl _ _ e0 rfl _ _ (Lib.run_append_grow_zeros w1 _ _ _ 5 i0 (.int .u8 0) .i64 .i64 Tryd.underlying24 Tryd.underlying3 hi hz (some ⟨g5, 0, none⟩) N N (List.replicate N (.int .u8 0)) (run_firstCells_some _ _ _ _ _ _ _ (by rw [hsz, Nat.mul_one, List.length_replicate]) (fun j v hv => by rw [addr_plain, Nat.zero_add]; exact rl.cell hv)) 16 (by omega) (by rw [hsz]; omega) (by omega) (by omega) (by rw [hby]; omega) (by rw [hby]; have := nextslicecap_le (need := N + 16) (old := N) (by omega); omega)) ?_
      exact JF.few (FL4_mono N) h hK 44 rfl _ trivial ⟨_, _, rfl⟩ (((Below.refl _ _).drew).alloc (Nat.le_refl _) _)
    · refine .inr fun L a1 w1 n h K hK => ?_
      obtain ⟨A9, c9, v9⟩ := JF.get h n 5 44 (by kernel_rfl) (by kernel_rfl) rfl
      have e0 : a1.eval (.tmp 40) = .agg (bv ks).toArray := h.dep n 1 40 (by kernel_rfl) rfl
      have e1 : a1.eval (.tmp 42) = .agg (bv ns).toArray := h.dep n 3 42 (by kernel_rfl) rfl
      have e3 : a1.eval (.tmp 44) = .slice A9 (N + 16) c9 := v9
      refine JF.call (FL4_mono N) h hK 45 rfl 14 _ _ #[.agg (bv ks).toArray, .agg (bv ns).toArray, .slice none 0 0, .slice A9 (N + 16) c9] rfl Tryd.call14 ?_ (open_long ks ns none A9 0 0 (N + 16) c9 w1 (by decide) (by unfold maxLen; omega) (by omega) (by omega)) ?_
      · simp only [List.map_toArray, List.map_cons, List.map_nil, e0, e1, e3]; rfl
      · rintro e w3 ⟨rfl, b9⟩
        exact ⟨_, rfl, rfl, trivial, b9⟩
    · exact .inl ⟨by kernel_rfl, fun L a1 w1 n h => ⟨_, rfl, run_move (.tmp 45) rfl (h.dep n 6 45 (by kernel_rfl) rfl)⟩⟩
    · exact .inl ⟨by kernel_rfl, fun L a1 w1 n h => ⟨_, rfl, run_extractA (.tmp 38) 0 _ rfl (h.dep n 7 38 (by kernel_rfl) rfl) rfl⟩⟩
    · exact .inl ⟨by kernel_rfl, fun L a1 w1 n h => ⟨_, rfl, run_extractA (.tmp 38) 1 _ rfl (h.dep n 7 38 (by kernel_rfl) rfl) rfl⟩⟩
    · exact .inl ⟨by kernel_rfl, fun L a1 w1 n h => ⟨_, rfl, run_assign (.tmp 46) rfl (h.dep n 8 46 (by kernel_rfl) rfl)⟩⟩
    · exact .inl ⟨by kernel_rfl, fun L a1 w1 n h => ⟨_, rfl, run_assign (.tmp 47) rfl (h.dep n 9 47 (by kernel_rfl) rfl)⟩⟩
  case he4 =>
  intro V w8 hV hJ
  have h11 : V 11 = .int .i64 5 := hV 11 11 rfl
  have hb := hJ.1
  clear hV hJ
  simp only [putOps, List.setIfInBounds_toArray, List.set_cons_succ, List.set_cons_zero]
  rw [h11]
  refine hK4 _ _ ?_
  clear hK4 h11
  replace RW := RW.later hb
  replace RL := RL.later hb
  replace BB := BB.trans (hb.mono BB.size)
  clear hb
  go_wp2_with fail
  rename_i K5 hK5
  refine wp_region_vals [5, 6] (SL5 ks ns g2 g5 N q) (JF w8 [5, 6] (FL5)) (by kernel_rfl) (by kernel_rfl) (by kernel_rfl) (by kernel_rfl) (by kernel_rfl) (JF.start _) ?obs5 ?he5
  case obs5 =>
    refine ⟨?_, ?_, ?_, ?_, ?_, ?_, ?_, ?_, ?_, ?_, ?_, ?_, trivial⟩
    · refine .inl ⟨by kernel_rfl, fun L a1 w1 n h => ⟨.pointer (some ⟨g2, 0, none⟩), rfl, ?_⟩⟩
      have e0 : a1.eval (.tmp 2) = _ := h.var n 2 (by kernel_rfl)
      unfold execOp
      simp only [e0]
      go_simp
    · exact .inl ⟨by kernel_rfl, fun L a1 w1 n h => ⟨_, rfl, run_loadP 22 (.tmp 49) g2 0 26 _ (bv ks) _ _ rfl (h.dep n 0 49 (by kernel_rfl) rfl) (withRowK (RW.later h.inv.1)) rfl Tryd.underlying22 rfl zk.out⟩⟩
    · refine .inl ⟨by kernel_rfl, fun L a1 w1 n h => ⟨.pointer (some ⟨g2, 32, none⟩), rfl, ?_⟩⟩
      have e0 : a1.eval (.tmp 2) = _ := h.var n 2 (by kernel_rfl)
      unfold execOp
      simp only [e0]
      go_simp
    · exact .inl ⟨by kernel_rfl, fun L a1 w1 n h => ⟨_, rfl, run_loadP 23 (.tmp 51) g2 32 26 _ (bv ns) _ _ rfl (h.dep n 2 51 (by kernel_rfl) rfl) (withRowN (RW.later h.inv.1)) h32.out Tryd.underlying23 rfl zn.out⟩⟩
    · exact .inl ⟨by kernel_rfl, fun L a1 w1 n h => ⟨_, rfl, run_move (.tmp 5) rfl (h.var n 5 (by kernel_rfl))⟩⟩
    · refine .inr fun L a1 w1 n h K hK => ?_
      refine st_make 24 (.const (.int .i64 16)) (.const (.int .i64 16)) rfl 5 i0 (.int .u8 0) Tryd.underlying24 hi hz hsz rfl .i64 .i64 16 16 16 16 rfl rfl rfl rfl (Nat.le_refl _) (by rw [hby]; omega) (by omega) ?_
      intro g7 w3 r7 a7 l7 b7
      exact JF.few (FL5_mono ) h hK 54 rfl _ trivial ⟨_, _, rfl⟩ b7
    · refine .inr fun L a1 w1 n h K hK => ?_
      obtain ⟨A9, c9, v9⟩ := JF.get h n 5 54 (by kernel_rfl) (by kernel_rfl) rfl
      have e0 : a1.eval (.tmp 50) = .agg (bv ks).toArray := h.dep n 1 50 (by kernel_rfl) rfl
      have e1 : a1.eval (.tmp 52) = .agg (bv ns).toArray := h.dep n 3 52 (by kernel_rfl) rfl
      have e2 : a1.eval (.tmp 53) = .slice (some ⟨g5, 0, none⟩) N N := h.dep n 4 53 (by kernel_rfl) rfl
      have e3 : a1.eval (.tmp 54) = .slice A9 (16) c9 := v9
      refine JF.call (FL5_mono ) h hK 55 rfl 14 _ _ #[.agg (bv ks).toArray, .agg (bv ns).toArray, .slice (some ⟨g5, 0, none⟩) N N, .slice A9 (16) c9] rfl Tryd.call14 ?_ (open_long ks ns (some ⟨g5, 0, none⟩) A9 N N 16 c9 w1 (by unfold maxLen; omega) (by decide) (by omega) (by omega)) ?_
      · simp only [List.map_toArray, List.map_cons, List.map_nil, e0, e1, e2, e3]
      · rintro e w3 ⟨rfl, b9⟩
        exact ⟨_, rfl, rfl, trivial, b9⟩
    · exact .inl ⟨by kernel_rfl, fun L a1 w1 n h => ⟨_, rfl, run_move (.tmp 55) rfl (h.dep n 6 55 (by kernel_rfl) rfl)⟩⟩
    · exact .inl ⟨by kernel_rfl, fun L a1 w1 n h => ⟨_, rfl, run_extractA (.tmp 48) 0 _ rfl (h.dep n 7 48 (by kernel_rfl) rfl) rfl⟩⟩
    · exact .inl ⟨by kernel_rfl, fun L a1 w1 n h => ⟨_, rfl, run_extractA (.tmp 48) 1 _ rfl (h.dep n 7 48 (by kernel_rfl) rfl) rfl⟩⟩
    · exact .inl ⟨by kernel_rfl, fun L a1 w1 n h => ⟨_, rfl, run_assign (.tmp 56) rfl (h.dep n 8 56 (by kernel_rfl) rfl)⟩⟩
    · exact .inl ⟨by kernel_rfl, fun L a1 w1 n h => ⟨_, rfl, run_assign (.tmp 57) rfl (h.dep n 9 57 (by kernel_rfl) rfl)⟩⟩
  case he5 =>
  intro V w9 hV hJ
  have h11 : V 11 = .int .i64 5 := hV 11 13 rfl
  have hb := hJ.1
  clear hV hJ
  simp only [putOps, List.setIfInBounds_toArray, List.set_cons_succ, List.set_cons_zero]
  rw [h11]
  refine hK5 _ _ ?_
  clear hK5 h11
  replace RW := RW.later hb
  replace RL := RL.later hb
  replace BB := BB.trans (hb.mono BB.size)
  clear hb
  go_wp2_with fail
  rename_i K6 hK6
  refine wp_region_vals [7, 8] (SL6 ks ns g2 g5 N q) (JF w9 [7, 8] (FL6 q)) (by kernel_rfl) (by kernel_rfl) (by kernel_rfl) (by kernel_rfl) (by kernel_rfl) (JF.start _) ?obs6 ?he6
  case obs6 =>
    refine ⟨?_, ?_, ?_, ?_, ?_, ?_, ?_, ?_, ?_, ?_, ?_, ?_, ?_, ?_, trivial⟩
    · refine .inl ⟨by kernel_rfl, fun L a1 w1 n h => ⟨.pointer (some ⟨g2, 0, none⟩), rfl, ?_⟩⟩
      have e0 : a1.eval (.tmp 2) = _ := h.var n 2 (by kernel_rfl)
      unfold execOp
      simp only [e0]
      go_simp
    · exact .inl ⟨by kernel_rfl, fun L a1 w1 n h => ⟨_, rfl, run_loadP 22 (.tmp 59) g2 0 26 _ (bv ks) _ _ rfl (h.dep n 0 59 (by kernel_rfl) rfl) (withRowK (RW.later h.inv.1)) rfl Tryd.underlying22 rfl zk.out⟩⟩
    · refine .inl ⟨by kernel_rfl, fun L a1 w1 n h => ⟨.pointer (some ⟨g2, 32, none⟩), rfl, ?_⟩⟩
      have e0 : a1.eval (.tmp 2) = _ := h.var n 2 (by kernel_rfl)
      unfold execOp
      simp only [e0]
      go_simp
    · exact .inl ⟨by kernel_rfl, fun L a1 w1 n h => ⟨_, rfl, run_loadP 23 (.tmp 61) g2 32 26 _ (bv ns) _ _ rfl (h.dep n 2 61 (by kernel_rfl) rfl) (withRowN (RW.later h.inv.1)) h32.out Tryd.underlying23 rfl zn.out⟩⟩
    · exact .inl ⟨by kernel_rfl, fun L a1 w1 n h => ⟨_, rfl, run_move (.tmp 5) rfl (h.var n 5 (by kernel_rfl))⟩⟩
    · exact .inl ⟨by kernel_rfl, fun L a1 w1 n h => ⟨_, rfl, run_move (.tmp 1) rfl (h.var n 1 (by kernel_rfl))⟩⟩
    · refine .inl ⟨by kernel_rfl, fun L a1 w1 n h => ⟨.int .u8 ((q % 16 : Nat) : Int), rfl, ?_⟩⟩
      have e0 : a1.eval (.tmp 64) = _ := h.dep n 5 64 (by kernel_rfl) rfl
      unfold execOp
      simp only [e0]
      go_simp
      exact Int.tmod_eq_emod_of_nonneg (by omega)
    · refine .inr fun L a1 w1 n h K hK => ?_
      have e0 : a1.eval (.tmp 65) = .int .u8 ((q % 16 : Nat) : Int) := h.dep n 6 65 (by kernel_rfl) rfl
      refine st_make 24 (.tmp 65) (.tmp 65) rfl 5 i0 (.int .u8 0) Tryd.underlying24 hi hz hsz rfl .u8 .u8 (q % 16) (q % 16) _ _ e0 e0 rfl rfl (Nat.le_refl _) (by rw [hby]; omega) (by omega) ?_
      intro g7 w3 r7 a7 l7 b7
      exact JF.few (FL6_mono q) h hK 66 rfl _ trivial ⟨_, _, rfl⟩ b7
    · refine .inr fun L a1 w1 n h K hK => ?_
      obtain ⟨A9, c9, v9⟩ := JF.get h n 7 66 (by kernel_rfl) (by kernel_rfl) rfl
      have e0 : a1.eval (.tmp 60) = .agg (bv ks).toArray := h.dep n 1 60 (by kernel_rfl) rfl
      have e1 : a1.eval (.tmp 62) = .agg (bv ns).toArray := h.dep n 3 62 (by kernel_rfl) rfl
      have e2 : a1.eval (.tmp 63) = .slice (some ⟨g5, 0, none⟩) N N := h.dep n 4 63 (by kernel_rfl) rfl
      have e3 : a1.eval (.tmp 66) = .slice A9 (q % 16) c9 := v9
      refine JF.call (FL6_mono q) h hK 67 rfl 14 _ _ #[.agg (bv ks).toArray, .agg (bv ns).toArray, .slice (some ⟨g5, 0, none⟩) N N, .slice A9 (q % 16) c9] rfl Tryd.call14 ?_ (open_short ks ns (some ⟨g5, 0, none⟩) A9 N N (q % 16) c9 w1 (by omega)) ?_
      · simp only [List.map_toArray, List.map_cons, List.map_nil, e0, e1, e2, e3]
      · rintro e w3 ⟨rfl, b9⟩
        exact ⟨_, rfl, rfl, trivial, b9⟩
    · exact .inl ⟨by kernel_rfl, fun L a1 w1 n h => ⟨_, rfl, run_move (.tmp 67) rfl (h.dep n 8 67 (by kernel_rfl) rfl)⟩⟩
    · exact .inl ⟨by kernel_rfl, fun L a1 w1 n h => ⟨_, rfl, run_extractA (.tmp 58) 0 _ rfl (h.dep n 9 58 (by kernel_rfl) rfl) rfl⟩⟩
    · exact .inl ⟨by kernel_rfl, fun L a1 w1 n h => ⟨_, rfl, run_extractA (.tmp 58) 1 _ rfl (h.dep n 9 58 (by kernel_rfl) rfl) rfl⟩⟩
    · exact .inl ⟨by kernel_rfl, fun L a1 w1 n h => ⟨_, rfl, run_assign (.tmp 68) rfl (h.dep n 10 68 (by kernel_rfl) rfl)⟩⟩
    · exact .inl ⟨by kernel_rfl, fun L a1 w1 n h => ⟨_, rfl, run_assign (.tmp 69) rfl (h.dep n 11 69 (by kernel_rfl) rfl)⟩⟩
  case he6 =>
  intro V w10 hV hJ
  have h13 : V 13 = .int .i64 4 := hV 13 15 rfl
  have hb := hJ.1
  clear hV hJ
  simp only [putOps, List.setIfInBounds_toArray, List.set_cons_succ, List.set_cons_zero]
  rw [h13]
  refine hK6 _ _ ?_
  clear hK6 h13
  replace RW := RW.later hb
  replace RL := RL.later hb
  replace BB := BB.trans (hb.mono BB.size)
  clear hb
  go_wp2_with fail

  refine (awake_any w10 (hT.later BB)).mono ?_
  rintro e w11 ⟨rfl, b11⟩
  go_wp2_with fail
  go_ret
  exact ⟨rfl, BB.trans (b11.mono BB.size)⟩
end Go.Proofs.YtpnlgmkkikmglabDoor

/- Proved: the law AeadLong (P4.1) answers true and leaves its arguments as they read before. For every key, nonce, list of bytes beside and byte; no condition but the tie of the two tables of chacha to the program's text. -/
namespace Go.Proofs.YtpnlgmkkikmglabDoor.aeadLong
open Go.ChangeShapes Go.WideShapes Go.ChangeAt Go.WideMaps Go.WideElems Go.RowKit

theorem own : ownKnob Tryd.prog.godebug = none := by kernel_rfl
theorem laidOut : laidOutB Tryd.prog = true := by kernel_rfl
theorem door_met (os : Os) (args : Array Value) : laidMetH Tryd.prog laid2 ((World.doorLaid Tryd.prog 400 os).forCall (fun _ _ => 0) ⟨#[], args, []⟩).memory :=
  laidMetH_of_parts3 (fuel := 8) (laidMet_of_run' 8 (by kernel_rfl) (by kernel_rfl)) (by kernel_rfl) (by kernel_rfl)

set_option maxRecDepth 100000 in
theorem lifted (os : Os) (started : os.Started) (H : Type) (enc : TypeId × Value → H) :
    ReturnsInHanded {} Tryd.checked os 8 .any (fun w args => (Rows.aeadLongSpec.pre enc Tryd.prog Tryd.f8 [] false w args ∧ laidMetH Tryd.prog laid2 w) ∧ sizedMet enc Tryd.prog Tryd.f8 (OpenSpec.ofChange Rows.aeadLongSpec) false w args)
      (Rows.aeadLongSpec.post enc Tryd.prog Tryd.f8 false true false false) := by
  refine returnsInHanded_of_change_and (C := Tryd.checked) (X := fun w _ => laidMetH Tryd.prog laid2 w) (fun _ _ _ hh h => h.of_heap hh) own started (by kernel_rfl) Tryd.func8
    (ChangeSpec.witness_shaped (enc := enc) (C := Tryd.checked) (os := os) (X := fun w _ => laidMetH Tryd.prog laid2 w) false (World.doorLaid Tryd.prog 400 os) #[.agg (withL (List.replicate 32 0) (List.replicate 12 0) none 0 0).toArray, .int .u8 0] 8 rfl (World.shaped_of_RefB (by kernel_rfl) (by kernel_rfl)) (by kernel_rfl) (by kernel_rfl) (by kernel_rfl) (door_met os _)) ?_
  intro W base args ds gs before hval0 hW _ _ hL _
  have hval : ∀ (j : Nat) t v, Tryd.f8.params[j]? = some t → args[j]? = some v → Value.okWide Tryd.prog W .any base t v := hval0
  have hW' := hW
  obtain ⟨p, q, hA0, hV, rfl, hfz, hnd⟩ := hW
  have hA : DataW.TrodAll enc Tryd.prog W 0 (fun _ => true) true Tryd.f8.params.toList args.toList ds p := hA0
  rw [Tryd.params8] at hA hval
  obtain ⟨v0, vs0, d0, ds0, p0, q0, hargs, rfl, rfl, h0, r0⟩ := trodAll_cons hA
  obtain ⟨v1, vs1, d1, ds1, p1, q1, rfl, rfl, rfl, h1, r1⟩ := trodAll_cons r0
  obtain ⟨rfl, rfl, rfl⟩ := trodAll_nil r1
  obtain rfl : args = #[v0, v1] := by cases args; simp_all
  obtain ⟨rfl, rfl⟩ := trodVars_none hV
  have k0 := h0
  have lt0 : ∀ x ∈ p0, x.block < W.heap.size := by obtain ⟨m, hm⟩ := k0; exact DataW.trod_lt m _ _ _ hm
  obtain ⟨a1, rfl, rfl, rfl, w1⟩ := open_int Tryd.underlying5 (hval 1 5 v1 rfl rfl) h1
  clear hA0 hval0
  have hT : Tabs W := tabs_of_laid hL
  obtain ⟨cs, rfl⟩ : ∃ cs : List Value, v0 = .agg cs.toArray := by
    have := hval 0 26 v0 rfl rfl
    obtain ⟨cs, rfl, _⟩ : ∃ cs, v0 = .agg cs ∧ cs.size = Tryd.prog.cellsOf 26 ∧ Row.okWide Tryd.prog W .any base 26 cs := by
      simpa [Value.okWide, Tryd.underlying26] using this
    exact ⟨cs.toList, by simp⟩
  have kk := k0
  obtain ⟨fuel, hf⟩ := kk
  obtain ⟨ks, ns, ad, A, m, c, hcs, lk, ln, bk, bn, ba, bya, mc, mM⟩ := open_with hf
  obtain rfl : cs = withL ks ns A m c := hcs
  clear hf
  obtain ⟨q, rfl, hq⟩ : ∃ q : Nat, a1 = (q : Int) ∧ q < 256 := by
    obtain ⟨h0, h1⟩ := wf_u8 w1
    exact ⟨a1.toNat, by omega, by omega⟩
  refine (aeadLong_any ks ns ad A m c q W hT lk ln hq).mono fun e W' ⟨he, bel⟩ => ?_
  subst he
  exact ⟨_, rfl, _, _, _, [], _, [], hW', trodAll_mk1 (shut_bool Tryd.underlying4 _), (trodAll_cons_mk (Below.trod laidOut (by kernel_rfl) (of_decide_eq_true (by kernel_rfl)) k0 bel lt0) (trodAll_cons_mk (shut_int Tryd.underlying5 w1) trodAll_mk0)), rfl, bel.frame _, fun h => by cases h⟩

theorem over : Rows.AeadLongSaid :=
  OpenClaim.holds_of_wide 8 Tryd.f8 rfl rfl rfl rfl rfl rfl rfl ⟨rfl, rfl, rfl, rfl, rfl⟩ rfl rfl rfl rfl rfl (by kernel_rfl) Tryd.func8 (by kernel_rfl)
    (of_decide_eq_true (by kernel_rfl)) (by unfold Func.isWrapper; first | (rw [if_pos (by decide +kernel)]; kernel_rfl) | (rw [if_neg (by decide +kernel)]; exact ⟨rfl, rfl⟩))
    (fun os started H enc _ => lifted os started H enc)

/-- The given statement. -/
theorem proved : Rows.AeadLongCardSaid :=
  Claim7.holds_tied_plain_at .later [] [.data, .data] true (true, "929ffb9c86c2c5e32c173f4681830d65d2b47886d3ac046a8cbbff80cf308d93") false
    over (fun _ h => by cases h) (by kernel_rfl) (fun _ h => by cases h) aeadLong_row_tie rfl ⟨rfl, rfl⟩ (by kernel_rfl) rfl
    (fun f fn hf hfn => by
      obtain rfl : f = 8 := Option.some.inj ((show Tryd.prog.funcNamed "intaglio/intagliolaw04.AeadLong" = some 8 by kernel_rfl).symm.trans hf) |>.symm
      obtain rfl : fn = Tryd.f8 := (Option.some.inj (Tryd.func8.symm.trans hfn)).symm
      exact ⟨by kernel_rfl, fun j t ht => by
        rw [Tryd.params8] at ht
        have hm : t ∈ [26, 5] := by simpa using Array.mem_of_getElem? ht
        have hall : ([26, 5].all fun u => !Tryd.prog.wantsStandIn u) = true := by kernel_rfl
        exact (show Tryd.prog.wantsStandIn t = false by simpa using List.all_eq_true.1 hall t hm)⟩)
    (by kernel_rfl)
#print axioms proved
end Go.Proofs.YtpnlgmkkikmglabDoor.aeadLong

/- Proved: the law AeadBack (P4.3) answers true and leaves its arguments as they read before. For every key, nonce, list of bytes beside and text; no condition but the tie of the two tables of chacha to the program's text. -/
import Derived.Test.YtpnlgmkkikmglabDoorRows
import Derived.Test.YtpnlgmkkikmglabDoorCards
import Derived.Test.YtpnlgmkkikmglabDoorTie
import Derived.WalkKit
import Derived.ProofKit
import Derived.OpenShut
import Derived.ShutString
import Derived.ChangeOld
import Derived.Below
import Derived.LaidMore
import Derived.Stop.Joined
import Derived.SevenTiedAt
import Derived.Test.YtpnlgmkkikmglabDoorGE
import Derived.Test.YtpnlgmkkikmglabDoorGB
set_option linter.unusedVariables false
set_option linter.unusedSimpArgs false
/-
  Aead: the laws AeadSeals, AeadOpens, AeadBack: contracts. Own work.
-/
namespace Go.Proofs.YtpnlgmkkikmglabDoor
open Go.RowKit
/-- A key, a nonce and what goes beside a text, in cells. -/
def withL (ks ns : List Int) (A : Option Addr) (m c : Nat) : List Value := bv ks ++ (bv ns ++ [.slice A m c])
theorem withRowK {w : World} {T g : Nat} {ks ns : List Int} {A : Option Addr} {m c : Nat} (r : Row w T g (withL ks ns A m c)) : Row w T g ([] ++ (bv ks ++ (bv ns ++ [Value.slice A m c]))) := r
theorem withRowN {w : World} {T g : Nat} {ks ns : List Int} {A : Option Addr} {m c : Nat} (r : Row w T g (withL ks ns A m c)) : Row w T g (bv ks ++ (bv ns ++ [Value.slice A m c])) := r
theorem withAd {ks ns : List Int} {A : Option Addr} {m c : Nat} (hk : ks.length = 32) (hn : ns.length = 12) : (withL ks ns A m c)[44]? = some (.slice A m c) := by
  unfold withL
  rw [List.getElem?_append_right (by rw [bv_len]; omega), bv_len, hk, List.getElem?_append_right (by rw [bv_len]; omega), bv_len, hn]
  rfl
theorem equal_same (A B : Option Addr) (n m c d : Nat) (xs : List Int) (w : World) (h1 : Bs w w.heap.size A n xs) (h2 : Bs w w.heap.size B m xs) :
    Calls Tryd.prog 13 #[.slice A n c, .slice B m d] w fun e w' => e = .returned (.bool true) ∧ Below w.heap.size w w' := by
  refine (equal_any A B n m c d xs xs w h1 h2).mono ?_
  rintro e w' ⟨rfl, rfl⟩
  exact ⟨by rw [equal_self], Below.refl _ _⟩
set_option maxRecDepth 100000 in
set_option maxHeartbeats 2000000 in
theorem aeadSeals_any (ks ns ad xs : List Int) (A D : Option Addr) (m c n d : Nat) (w : World) (hT : Tabs w) (hk : ks.length = 32) (hn : ns.length = 12) (hk' : IsBy ks) (hn' : IsBy ns)
    (ha : Bs w w.heap.size A m ad) (hab : IsBy ad) (hac : m ≤ c) (hx : Bs w w.heap.size D n xs) (hxb : IsBy xs) (hxc : n ≤ d) (hmM : m ≤ maxLen) (hnM : n ≤ maxLen) :
    Calls Tryd.prog 3 #[.agg (withL ks ns A m c).toArray, .slice D n d] w fun e w' => e = .returned (.bool true) ∧ Below w.heap.size w w' := by
  have zk := hide (size_b (P := Tryd.prog) (T := 22) (by kernel_rfl) hk)
  have zn := hide (size_b (P := Tryd.prog) (T := 23) (by kernel_rfl) hn)
  have h32 := hide (show (bv ks).length = 32 by rw [bv_len, hk])
  have hAd := hide (withAd (A := A) (m := m) (c := c) hk hn)
  have Hk := hide hk
  have Hn := hide hn
  unfold maxLen at hmM hnM
  clear hk hn
  by_cases hl1 : 700 < n
  · have hd : decide ((700 : Int) < (n : Int)) = true := by simp; omega
    go_enter Tryd.func3, Tryd.ntmps3
    go_wp2_with (first
      | (with_reducible refine wl_box rfl 26 (.tmp 0) _ (withL ks ns A m c) rfl rfl rfl ?_; intro g2 w2 r2 a2 l2 b2))
    refine (awake_any _ (hT.later b2)).mono ?_
    rintro e w3 ⟨rfl, b3⟩
    go_wp2_with fail
    go_ret
    exact ⟨rfl, b2.trans (b3.mono b2.size)⟩
  have hd : decide ((700 : Int) < (n : Int)) = false := by simp; omega
  by_cases hl2 : 700 < m
  · have hd2 : decide ((700 : Int) < (m : Int)) = true := by simp; omega
    go_enter Tryd.func3, Tryd.ntmps3
    go_wp2_with (first
      | (with_reducible refine wl_box rfl 26 (.tmp 0) _ (withL ks ns A m c) rfl rfl rfl ?_; intro g2 w2 r2 a2 l2 b2)
      | (with_reducible refine wg_load 3 false 13 rfl rfl rfl 24 (.tmp 14) g2 44 26 _ (.slice A m c) rfl Tryd.isAgg24 rfl r2 hAd.out ?_))
    refine (awake_any _ (hT.later b2)).mono ?_
    rintro e w3 ⟨rfl, b3⟩
    go_wp2_with fail
    go_ret
    exact ⟨rfl, b2.trans (b3.mono b2.size)⟩
  have hd2 : decide ((700 : Int) < (m : Int)) = false := by simp; omega
  go_enter Tryd.func3, Tryd.ntmps3
  go_wp2_with (first
    | (with_reducible refine wl_box rfl 26 (.tmp 0) _ (withL ks ns A m c) rfl rfl rfl ?_; intro g2 w2 r2 a2 l2 b2)
    | (with_reducible refine wg_load 3 false 13 rfl rfl rfl 24 (.tmp 14) g2 44 26 _ (.slice A m c) rfl Tryd.isAgg24 rfl r2 hAd.out ?_))
  have hx2 := hx.later b2
  refine (clone_any D n d xs w2 hx2 (by omega)).mono ?_
  rintro e w3 ⟨A3, n3, c3, rfl, h3, hc3, hM3, b3⟩
  obtain rfl : n3 = n := by rw [← h3.1, hx.1]
  have B3 := b2.trans (b3.mono b2.size)
  have r3 := r2.later b3
  have hx3 := hx2.later b3
  clear r2 hx2 b3
  go_wp2_with (first
    | (with_reducible refine wl_load_part rfl 22 (.tmp 23) g2 0 26 _ (bv ks) _ _ rfl rfl (withRowK r3) rfl Tryd.underlying22 rfl zk.out ?_)
    | (with_reducible refine wl_load_part rfl 23 (.tmp 25) g2 32 26 _ (bv ns) _ _ rfl rfl (withRowN r3) h32.out Tryd.underlying23 rfl zn.out ?_)
    | (with_reducible refine wl_load rfl 24 (.tmp 27) g2 44 26 _ (.slice A m c) rfl Tryd.isAgg24 rfl r3 hAd.out ?_))
  refine (seal_any ks ns ad xs A D m c n3 d w3 (hT.later B3) Hk.out Hn.out hk' hn' (ha.later B3) hab hac hx3 hxb hxc (by omega) (by omega)).mono ?_
  rintro e w4 ⟨A4, c4, rfl, h4, b4, l4, m4⟩
  have B4 := B3.trans (b4.mono B3.size)
  have r4 := r3.later b4
  have h3' := h3.later b4
  clear r3 h3
  go_wp2_with (first
    | (with_reducible refine wl_load_part rfl 22 (.tmp 34) g2 0 26 _ (bv ks) _ _ rfl rfl (withRowK r4) rfl Tryd.underlying22 rfl zk.out ?_)
    | (with_reducible refine wl_load_part rfl 23 (.tmp 36) g2 32 26 _ (bv ns) _ _ rfl rfl (withRowN r4) h32.out Tryd.underlying23 rfl zn.out ?_)
    | (with_reducible refine wl_load rfl 24 (.tmp 38) g2 44 26 _ (.slice A m c) rfl Tryd.isAgg24 rfl r4 hAd.out ?_))
  refine (refSeal_any ks ns ad xs A A3 m c n3 c3 w4 Hk.out Hn.out hk' hn' (ha.later B4) hab h3' hxb (by omega) (by omega)).mono ?_
  rintro e w5 ⟨A5, c5, rfl, h5, b5, l5, m5⟩
  have B5 := B4.trans (b5.mono B4.size)
  have h4' := h4.later b5
  have h3a := h3'.later b5
  have hx5 := hx.later B5
  clear r4 h3' h4 hx3
  go_wp2_with fail
  refine (equal_same A4 A5 _ _ c4 c5 (sealL ks ns ad xs) w5 h4' h5).mono ?_
  rintro e w6 ⟨rfl, b6⟩
  have B6 := B5.trans (b6.mono B5.size)
  have h3b := h3a.later b6
  have hx6 := hx5.later b6
  go_wp2_with fail
  refine (equal_same D A3 n3 n3 d c3 xs w6 hx6 h3b).mono ?_
  rintro e w7 ⟨rfl, b7⟩
  have B7 := B6.trans (b7.mono B6.size)
  go_wp2_with fail
  refine (awake_any w7 (hT.later B7)).mono ?_
  rintro e w8 ⟨rfl, b8⟩
  go_wp2_with fail
  go_ret
  exact ⟨rfl, B7.trans (b8.mono B7.size)⟩
end Go.Proofs.YtpnlgmkkikmglabDoor

/-
  From a reading of a key, a nonce and what goes beside a text to its cells. Own work.
-/
namespace Go.Proofs.YtpnlgmkkikmglabDoor
open Go.RowKit Go.ChangeShapes Go.WideShapes
set_option maxRecDepth 100000 in
theorem open_with {H : Type} {enc : TypeId × Value → H} {w : World} {spare : Nat → Bool} {held : Bool} {fuel : Nat} {cs : List Value} {x : DataW H × List MemPlace}
    (h : DataW.trod enc Tryd.prog w 0 spare held fuel 26 cs = some x) : ∃ (ks ns ad : List Int) (A : Option Addr) (m c : Nat), cs = withL ks ns A m c ∧ ks.length = 32 ∧ ns.length = 12 ∧ IsBy ks ∧ IsBy ns ∧ Bs w w.heap.size A m ad ∧ IsBy ad ∧ m ≤ c ∧ m ≤ maxLen := by
  have ce : Tryd.prog.cellsOf 5 = 1 := by kernel_rfl
  have c32 : Tryd.prog.cellsOf 22 = 32 := by kernel_rfl
  have c12 : Tryd.prog.cellsOf 23 = 12 := by kernel_rfl
  have cs1 : Tryd.prog.cellsOf 24 = 1 := by kernel_rfl
  have cT : Tryd.prog.cellsOf 26 = 45 := by kernel_rfl
  obtain ⟨y0, y1, y2, n, _, hl, h0, h1, h2⟩ := Go.Deep.trod_struct3 Tryd.underlying26 h
  rw [cT] at hl
  obtain ⟨ks, e0, lk, bk⟩ := trod_bytes Tryd.underlying22 Tryd.underlying5 ce c32 h0
  obtain ⟨ns, e1, ln, bn⟩ := trod_bytes Tryd.underlying23 Tryd.underlying5 ce c12 h1
  simp only [c32, c12] at e0 e1
  have t1 : (cs.drop 44).take 1 = cs.drop 44 := List.take_of_length_le (by simp; omega)
  obtain ⟨u, hu⟩ : ∃ u, cs.drop 44 = [u] := by
    have : (cs.drop 44).length = 1 := by simp; omega
    exact List.length_eq_one_iff.1 this
  have h2' : DataW.trod enc Tryd.prog w 0 spare held n 24 [u] = some y2 := by
    rw [← hu, ← t1, ← cs1]
    exact h2
  obtain ⟨A, m, c, ad, e2, hb, hby, h3, h4⟩ := trod_bs Tryd.underlying24 Tryd.underlying5 ce h2'
  rw [e2] at hu
  refine ⟨ks, ns, ad, A, m, c, ?_, lk, ln, bk, bn, hb, hby, h3, Nat.le_trans h3 h4⟩
  unfold withL
  rw [← e0, ← e1, ← hu]
  simp only [List.drop_zero]
  have s1 : (cs.drop 32).take 12 ++ cs.drop 44 = cs.drop 32 := by rw [show 44 = 32 + 12 from rfl, ← List.drop_drop, List.take_append_drop]
  rw [s1, List.take_append_drop]
end Go.Proofs.YtpnlgmkkikmglabDoor

/-
  Aead: the laws AeadOpens and AeadBack: contracts. Own work.
-/
namespace Go.Proofs.YtpnlgmkkikmglabDoor
open Go.RowKit

/-- What opening hands back: bytes and an error's number. -/
def RetO (out : List Int) (x : Int) (w : World) (e : Ending) (w' : World) : Prop :=
  ∃ A c, e = .returned (.tuple #[.slice A out.length c, .int .i64 x]) ∧ Bs w' w'.heap.size A out.length out ∧ Below w.heap.size w w'
theorem RetO.err {x : Int} {w : World} {e : Ending} {w' : World} (h : RetErr x w e w') : RetO [] x w e w' := ⟨none, 0, h.1, Bs.nil_, h.2⟩
theorem RetO.ok {ks ns xs : List Int} {w : World} {e : Ending} {w' : World} (h : RetOpen ks ns xs w e w') : RetO (outL ks ns 64 xs) 0 w e w' := by
  obtain ⟨A, c, he, hb, hl, _, _⟩ := h
  exact ⟨A, c, by rw [outL_len]; exact he, by rw [outL_len]; exact hb, hl⟩
def okO (ks ns ad xs : List Int) : Bool := decide (16 ≤ xs.length) && decide (markL ks ns ad (xs.take (xs.length - 16)) = xs.drop (xs.length - 16))
def outO (ks ns ad xs : List Int) : List Int := if okO ks ns ad xs = true then outL ks ns 64 (xs.take (xs.length - 16)) else []
def errO (ks ns ad xs : List Int) : Int := if okO ks ns ad xs = true then 0 else if xs.length < 16 then 4 else 6
theorem RetO.iff {ks ns ad xs : List Int} {w : World} {e : Ending} {w' : World} (h16 : 16 ≤ xs.length) (h : if markL ks ns ad (xs.take (xs.length - 16)) = xs.drop (xs.length - 16) then RetOpen ks ns (xs.take (xs.length - 16)) w e w' else RetErr 6 w e w') :
    RetO (outO ks ns ad xs) (errO ks ns ad xs) w e w' := by
  by_cases hm : markL ks ns ad (xs.take (xs.length - 16)) = xs.drop (xs.length - 16)
  · rw [if_pos hm] at h
    have ho : okO ks ns ad xs = true := by simp [okO, h16, hm]
    simp only [outO, errO, ho, if_true]
    exact RetO.ok h
  · rw [if_neg hm] at h
    have ho : ¬ okO ks ns ad xs = true := by simp [okO, hm]
    simp only [outO, errO, if_neg ho, if_neg (show ¬ xs.length < 16 by omega)]
    exact RetO.err h
theorem RetO.short {ks ns ad xs : List Int} {w : World} {e : Ending} {w' : World} (h16 : xs.length < 16) (h : RetErr 4 w e w') : RetO (outO ks ns ad xs) (errO ks ns ad xs) w e w' := by
  have ho : ¬ okO ks ns ad xs = true := by simp [okO]; omega
  simp only [outO, errO, if_neg ho, if_pos h16]
  exact RetO.err h
theorem open_o (ks ns ad xs : List Int) (A D : Option Addr) (m c n d : Nat) (w : World) (hT : Tabs w) (hk : ks.length = 32) (hn : ns.length = 12) (hk' : IsBy ks) (hn' : IsBy ns)
    (ha : Bs w w.heap.size A m ad) (hab : IsBy ad) (hac : m ≤ c) (hx : Bs w w.heap.size D n xs) (hxb : IsBy xs) (hxc : n ≤ d) (hm : m ≤ 65536) (hN : n ≤ 65552) :
    Calls Tryd.prog 14 #[.agg (bv ks).toArray, .agg (bv ns).toArray, .slice A m c, .slice D n d] w (RetO (outO ks ns ad xs) (errO ks ns ad xs) w) := by
  by_cases h16 : n < 16
  · exact (open_short ks ns A D m c n d w h16).mono fun e w' h => RetO.short (by rw [hx.1]; exact h16) h
  · have := hx.1
    subst this
    exact (open_any ks ns ad xs A D m c _ d w hT hk hn hk' hn' ha hab hac hx hxb hxc hm hN (by omega)).mono fun e w' h => RetO.iff (by omega) h
theorem refOpen_o (ks ns ad xs : List Int) (A D : Option Addr) (m c n d : Nat) (w : World) (hk : ks.length = 32) (hn : ns.length = 12) (hk' : IsBy ks) (hn' : IsBy ns)
    (ha : Bs w w.heap.size A m ad) (hab : IsBy ad) (hx : Bs w w.heap.size D n xs) (hxb : IsBy xs) (hxc : n ≤ d) (hm : m ≤ 65536) (hN : n ≤ 65552) :
    Calls Tryd.prog 15 #[.agg (bv ks).toArray, .agg (bv ns).toArray, .slice A m c, .slice D n d] w (RetO (outO ks ns ad xs) (errO ks ns ad xs) w) := by
  by_cases h16 : n < 16
  · exact (refOpen_short ks ns A D m c n d w h16).mono fun e w' h => RetO.short (by rw [hx.1]; exact h16) h
  · have := hx.1
    subst this
    exact (refOpen_any ks ns ad xs A D m c _ d w hk hn hk' hn' ha hab hx hxb hxc hm hN (by omega)).mono fun e w' h => RetO.iff (by omega) h
set_option maxRecDepth 100000 in
set_option maxHeartbeats 2000000 in
theorem aeadOpens_any (ks ns ad xs : List Int) (A D : Option Addr) (m c n d : Nat) (w : World) (hT : Tabs w) (hk : ks.length = 32) (hn : ns.length = 12) (hk' : IsBy ks) (hn' : IsBy ns)
    (ha : Bs w w.heap.size A m ad) (hab : IsBy ad) (hac : m ≤ c) (hx : Bs w w.heap.size D n xs) (hxb : IsBy xs) (hxc : n ≤ d) (hmM : m ≤ maxLen) (hnM : n ≤ maxLen) :
    Calls Tryd.prog 4 #[.agg (withL ks ns A m c).toArray, .slice D n d] w fun e w' => e = .returned (.bool true) ∧ Below w.heap.size w w' := by
  have zk := hide (size_b (P := Tryd.prog) (T := 22) (by kernel_rfl) hk)
  have zn := hide (size_b (P := Tryd.prog) (T := 23) (by kernel_rfl) hn)
  have h32 := hide (show (bv ks).length = 32 by rw [bv_len, hk])
  have hAd := hide (withAd (A := A) (m := m) (c := c) hk hn)
  have Hk := hide hk
  have Hn := hide hn
  unfold maxLen at hmM hnM
  clear hk hn
  by_cases hl1 : 700 < n
  · have hd : decide ((700 : Int) < (n : Int)) = true := by simp; omega
    go_enter Tryd.func4, Tryd.ntmps4
    go_wp2_with (first
      | (with_reducible refine wl_box rfl 26 (.tmp 0) _ (withL ks ns A m c) rfl rfl rfl ?_; intro g2 w2 r2 a2 l2 b2))
    refine (awake_any _ (hT.later b2)).mono ?_
    rintro e w3 ⟨rfl, b3⟩
    go_wp2_with fail
    go_ret
    exact ⟨rfl, b2.trans (b3.mono b2.size)⟩
  have hd : decide ((700 : Int) < (n : Int)) = false := by simp; omega
  by_cases hl2 : 700 < m
  · have hd2 : decide ((700 : Int) < (m : Int)) = true := by simp; omega
    go_enter Tryd.func4, Tryd.ntmps4
    go_wp2_with (first
      | (with_reducible refine wl_box rfl 26 (.tmp 0) _ (withL ks ns A m c) rfl rfl rfl ?_; intro g2 w2 r2 a2 l2 b2)
      | (with_reducible refine wg_load 3 false 12 rfl rfl rfl 24 (.tmp 13) g2 44 26 _ (.slice A m c) rfl Tryd.isAgg24 rfl r2 hAd.out ?_))
    refine (awake_any _ (hT.later b2)).mono ?_
    rintro e w3 ⟨rfl, b3⟩
    go_wp2_with fail
    go_ret
    exact ⟨rfl, b2.trans (b3.mono b2.size)⟩
  have hd2 : decide ((700 : Int) < (m : Int)) = false := by simp; omega
  go_enter Tryd.func4, Tryd.ntmps4
  go_wp2_with (first
    | (with_reducible refine wl_box rfl 26 (.tmp 0) _ (withL ks ns A m c) rfl rfl rfl ?_; intro g2 w2 r2 a2 l2 b2)
    | (with_reducible refine wg_load 3 false 12 rfl rfl rfl 24 (.tmp 13) g2 44 26 _ (.slice A m c) rfl Tryd.isAgg24 rfl r2 hAd.out ?_)
    | (with_reducible refine wl_load_part rfl 22 (.tmp 20) g2 0 26 _ (bv ks) _ _ rfl rfl (withRowK r2) rfl Tryd.underlying22 rfl zk.out ?_)
    | (with_reducible refine wl_load_part rfl 23 (.tmp 22) g2 32 26 _ (bv ns) _ _ rfl rfl (withRowN r2) h32.out Tryd.underlying23 rfl zn.out ?_)
    | (with_reducible refine wl_load rfl 24 (.tmp 24) g2 44 26 _ (.slice A m c) rfl Tryd.isAgg24 rfl r2 hAd.out ?_))
  refine (open_o ks ns ad xs A D m c n d w2 (hT.later b2) Hk.out Hn.out hk' hn' (ha.later b2) hab hac (hx.later b2) hxb hxc (by omega) (by omega)).mono ?_
  rintro e w4 ⟨A4, c4, rfl, h4, b4⟩
  have B4 := b2.trans (b4.mono b2.size)
  have r4 := r2.later b4
  clear r2
  go_wp2_with (first
    | (with_reducible refine wl_load_part rfl 22 (.tmp 31) g2 0 26 _ (bv ks) _ _ rfl rfl (withRowK r4) rfl Tryd.underlying22 rfl zk.out ?_)
    | (with_reducible refine wl_load_part rfl 23 (.tmp 33) g2 32 26 _ (bv ns) _ _ rfl rfl (withRowN r4) h32.out Tryd.underlying23 rfl zn.out ?_)
    | (with_reducible refine wl_load rfl 24 (.tmp 35) g2 44 26 _ (.slice A m c) rfl Tryd.isAgg24 rfl r4 hAd.out ?_))
  refine (refOpen_o ks ns ad xs A D m c n d w4 Hk.out Hn.out hk' hn' (ha.later B4) hab (hx.later B4) hxb hxc (by omega) (by omega)).mono ?_
  rintro e w5 ⟨A5, c5, rfl, h5, b5⟩
  have B5 := B4.trans (b5.mono B4.size)
  have h4' := h4.later b5
  clear r4 h4
  generalize outO ks ns ad xs = out at *
  generalize errO ks ns ad xs = er at *
  go_wp2_with fail
  refine (equal_same A4 A5 _ _ c4 c5 out w5 h4' h5).mono ?_
  rintro e w6 ⟨rfl, b6⟩
  have B6 := B5.trans (b6.mono B5.size)
  go_wp2_with fail
  refine (awake_any w6 (hT.later B6)).mono ?_
  rintro e w8 ⟨rfl, b8⟩
  go_wp2_with fail
  go_ret
  exact ⟨rfl, B6.trans (b8.mono B6.size)⟩
set_option maxRecDepth 100000 in
set_option maxHeartbeats 2000000 in
theorem aeadBack_any (ks ns ad xs : List Int) (A D : Option Addr) (m c n d : Nat) (w : World) (hT : Tabs w) (hk : ks.length = 32) (hn : ns.length = 12) (hk' : IsBy ks) (hn' : IsBy ns)
    (ha : Bs w w.heap.size A m ad) (hab : IsBy ad) (hac : m ≤ c) (hx : Bs w w.heap.size D n xs) (hxb : IsBy xs) (hxc : n ≤ d) (hmM : m ≤ maxLen) (hnM : n ≤ maxLen) :
    Calls Tryd.prog 6 #[.agg (withL ks ns A m c).toArray, .slice D n d] w fun e w' => e = .returned (.bool true) ∧ Below w.heap.size w w' := by
  have zk := hide (size_b (P := Tryd.prog) (T := 22) (by kernel_rfl) hk)
  have zn := hide (size_b (P := Tryd.prog) (T := 23) (by kernel_rfl) hn)
  have h32 := hide (show (bv ks).length = 32 by rw [bv_len, hk])
  have hAd := hide (withAd (A := A) (m := m) (c := c) hk hn)
  have Hk := hide hk
  have Hn := hide hn
  unfold maxLen at hmM hnM
  clear hk hn
  by_cases hl1 : 700 < n
  · have hd : decide ((700 : Int) < (n : Int)) = true := by simp; omega
    go_enter Tryd.func6, Tryd.ntmps6
    go_wp2_with (first
      | (with_reducible refine wl_box rfl 26 (.tmp 0) _ (withL ks ns A m c) rfl rfl rfl ?_; intro g2 w2 r2 a2 l2 b2))
    refine (awake_any _ (hT.later b2)).mono ?_
    rintro e w3 ⟨rfl, b3⟩
    go_wp2_with fail
    go_ret
    exact ⟨rfl, b2.trans (b3.mono b2.size)⟩
  have hd : decide ((700 : Int) < (n : Int)) = false := by simp; omega
  by_cases hl2 : 700 < m
  · have hd2 : decide ((700 : Int) < (m : Int)) = true := by simp; omega
    go_enter Tryd.func6, Tryd.ntmps6
    go_wp2_with (first
      | (with_reducible refine wl_box rfl 26 (.tmp 0) _ (withL ks ns A m c) rfl rfl rfl ?_; intro g2 w2 r2 a2 l2 b2)
      | (with_reducible refine wg_load 3 false 12 rfl rfl rfl 24 (.tmp 13) g2 44 26 _ (.slice A m c) rfl Tryd.isAgg24 rfl r2 hAd.out ?_))
    refine (awake_any _ (hT.later b2)).mono ?_
    rintro e w3 ⟨rfl, b3⟩
    go_wp2_with fail
    go_ret
    exact ⟨rfl, b2.trans (b3.mono b2.size)⟩
  have hd2 : decide ((700 : Int) < (m : Int)) = false := by simp; omega
  go_enter Tryd.func6, Tryd.ntmps6
  have Hx := hide hx.1
  go_wp2_with (first
    | (with_reducible refine wl_box rfl 26 (.tmp 0) _ (withL ks ns A m c) rfl rfl rfl ?_; intro g2 w2 r2 a2 l2 b2)
    | (with_reducible refine wg_load 3 false 12 rfl rfl rfl 24 (.tmp 13) g2 44 26 _ (.slice A m c) rfl Tryd.isAgg24 rfl r2 hAd.out ?_)
    | (with_reducible refine wl_load_part rfl 22 (.tmp 20) g2 0 26 _ (bv ks) _ _ rfl rfl (withRowK r2) rfl Tryd.underlying22 rfl zk.out ?_)
    | (with_reducible refine wl_load_part rfl 23 (.tmp 22) g2 32 26 _ (bv ns) _ _ rfl rfl (withRowN r2) h32.out Tryd.underlying23 rfl zn.out ?_)
    | (with_reducible refine wl_load rfl 24 (.tmp 24) g2 44 26 _ (.slice A m c) rfl Tryd.isAgg24 rfl r2 hAd.out ?_))
  refine (seal_any ks ns ad xs A D m c n d w2 (hT.later b2) Hk.out Hn.out hk' hn' (ha.later b2) hab hac (hx.later b2) hxb hxc (by omega) (by omega)).mono ?_
  rintro e w4 ⟨A4, c4, rfl, h4, b4, l4, m4⟩
  have B4 := b2.trans (b4.mono b2.size)
  have r4 := r2.later b4
  clear r2
  go_wp2_with (first
    | (with_reducible refine wl_load_part rfl 22 (.tmp 31) g2 0 26 _ (bv ks) _ _ rfl rfl (withRowK r4) rfl Tryd.underlying22 rfl zk.out ?_)
    | (with_reducible refine wl_load_part rfl 23 (.tmp 33) g2 32 26 _ (bv ns) _ _ rfl rfl (withRowN r4) h32.out Tryd.underlying23 rfl zn.out ?_)
    | (with_reducible refine wl_load rfl 24 (.tmp 35) g2 44 26 _ (.slice A m c) rfl Tryd.isAgg24 rfl r4 hAd.out ?_))
  refine (open_back ks ns ad xs A A4 m c c4 w4 (hT.later B4) Hk.out Hn.out hk' hn' (ha.later B4) hab hac h4 hxb l4 (by omega) (by rw [Hx.out]; omega)).mono ?_
  rintro e w5 ⟨A5, c5, rfl, h5, b5⟩
  have B5 := B4.trans (b5.mono B4.size)
  have hx5 := hx.later B5
  clear r4 h4
  have hxl := Hx.out
  have hcast : ((xs.length + 16 : Nat) : Int) = (n : Int) + 16 := by omega
  rw [hxl] at h5
  go_wp2_with fail
  refine (equal_same A5 D n n c5 d xs w5 h5 hx5).mono ?_
  rintro e w6 ⟨rfl, b6⟩
  have B6 := B5.trans (b6.mono B5.size)
  go_wp2_with fail
  refine (awake_any w6 (hT.later B6)).mono ?_
  rintro e w8 ⟨rfl, b8⟩
  go_wp2_with fail
  go_ret
  exact ⟨rfl, B6.trans (b8.mono B6.size)⟩
end Go.Proofs.YtpnlgmkkikmglabDoor

/- Proved: the law AeadBack (P4.3) answers true and leaves its arguments as they read before. For every key, nonce, list of bytes beside and text; no condition but the tie of the two tables of chacha to the program's text. -/
namespace Go.Proofs.YtpnlgmkkikmglabDoor.aeadBack
open Go.ChangeShapes Go.WideShapes Go.ChangeAt Go.WideMaps Go.WideElems Go.RowKit

theorem own : ownKnob Tryd.prog.godebug = none := by kernel_rfl
theorem laidOut : laidOutB Tryd.prog = true := by kernel_rfl
theorem door_met (os : Os) (args : Array Value) : laidMetH Tryd.prog laid2 ((World.doorLaid Tryd.prog 400 os).forCall (fun _ _ => 0) ⟨#[], args, []⟩).memory :=
  laidMetH_of_parts3 (fuel := 8) (laidMet_of_run' 8 (by kernel_rfl) (by kernel_rfl)) (by kernel_rfl) (by kernel_rfl)

set_option maxRecDepth 100000 in
theorem lifted (os : Os) (started : os.Started) (H : Type) (enc : TypeId × Value → H) :
    ReturnsInHanded {} Tryd.checked os 6 .any (fun w args => (Rows.aeadBackSpec.pre enc Tryd.prog Tryd.f6 [] false w args ∧ laidMetH Tryd.prog laid2 w) ∧ sizedMet enc Tryd.prog Tryd.f6 (OpenSpec.ofChange Rows.aeadBackSpec) false w args)
      (Rows.aeadBackSpec.post enc Tryd.prog Tryd.f6 false true false false) := by
  refine returnsInHanded_of_change_and (C := Tryd.checked) (X := fun w _ => laidMetH Tryd.prog laid2 w) (fun _ _ _ hh h => h.of_heap hh) own started (by kernel_rfl) Tryd.func6
    (ChangeSpec.witness_shaped (enc := enc) (C := Tryd.checked) (os := os) (X := fun w _ => laidMetH Tryd.prog laid2 w) false (World.doorLaid Tryd.prog 400 os) #[.agg (withL (List.replicate 32 0) (List.replicate 12 0) none 0 0).toArray, .slice none 0 0] 8 rfl (World.shaped_of_RefB (by kernel_rfl) (by kernel_rfl)) (by kernel_rfl) (by kernel_rfl) (by kernel_rfl) (door_met os _)) ?_
  intro W base args ds gs before hval0 hW _ _ hL _
  have hval : ∀ (j : Nat) t v, Tryd.f6.params[j]? = some t → args[j]? = some v → Value.okWide Tryd.prog W .any base t v := hval0
  have hW' := hW
  obtain ⟨p, q, hA0, hV, rfl, hfz, hnd⟩ := hW
  have hA : DataW.TrodAll enc Tryd.prog W 0 (fun _ => true) true Tryd.f6.params.toList args.toList ds p := hA0
  rw [Tryd.params6] at hA hval
  obtain ⟨v0, vs0, d0, ds0, p0, q0, hargs, rfl, rfl, h0, r0⟩ := trodAll_cons hA
  obtain ⟨v1, vs1, d1, ds1, p1, q1, rfl, rfl, rfl, h1, r1⟩ := trodAll_cons r0
  obtain ⟨rfl, rfl, rfl⟩ := trodAll_nil r1
  obtain rfl : args = #[v0, v1] := by cases args; simp_all
  obtain ⟨rfl, rfl⟩ := trodVars_none hV
  have k0 := h0
  have lt0 : ∀ x ∈ p0, x.block < W.heap.size := by obtain ⟨m, hm⟩ := k0; exact DataW.trod_lt m _ _ _ hm
  obtain ⟨a1, len1, cap1, rfl⟩ := okWide_slice Tryd.underlying24 (hval 1 24 v1 rfl rfl)
  have k1 := h1
  have lt1 : ∀ x ∈ p1, x.block < W.heap.size := by obtain ⟨m, hm⟩ := k1; exact DataW.trod_lt m _ _ _ hm
  clear hA0 hval0
  have hT : Tabs W := tabs_of_laid hL
  obtain ⟨cs, rfl⟩ : ∃ cs : List Value, v0 = .agg cs.toArray := by
    have := hval 0 26 v0 rfl rfl
    obtain ⟨cs, rfl, _⟩ : ∃ cs, v0 = .agg cs ∧ cs.size = Tryd.prog.cellsOf 26 ∧ Row.okWide Tryd.prog W .any base 26 cs := by
      simpa [Value.okWide, Tryd.underlying26] using this
    exact ⟨cs.toList, by simp⟩
  have kk := k0
  obtain ⟨fuel, hf⟩ := kk
  obtain ⟨ks, ns, ad, A, m, c, hcs, lk, ln, bk, bn, ba, bya, mc, mM⟩ := open_with hf
  obtain rfl : cs = withL ks ns A m c := hcs
  clear hf
  obtain ⟨x1, b1, by1, c1, m1⟩ : ∃ xs, Bs W W.heap.size a1 len1 xs ∧ IsBy xs ∧ len1 ≤ cap1 ∧ len1 ≤ maxLen := by
    obtain ⟨fuel, hf⟩ := k1
    obtain ⟨A', n', c', xs, hv, hb, hby, h1, h2⟩ := trod_bs Tryd.underlying24 Tryd.underlying5 (by kernel_rfl) hf
    simp at hv
    obtain ⟨rfl, rfl, rfl⟩ := hv
    exact ⟨xs, hb, hby, h1, Nat.le_trans h1 h2⟩
  refine (aeadBack_any ks ns ad x1 A a1 m c len1 cap1 W hT lk ln bk bn ba bya mc b1 by1 c1 mM m1).mono fun e W' ⟨he, bel⟩ => ?_
  subst he
  exact ⟨_, rfl, _, _, _, [], _, [], hW', trodAll_mk1 (shut_bool Tryd.underlying4 _), (trodAll_cons_mk (Below.trod laidOut (by kernel_rfl) (of_decide_eq_true (by kernel_rfl)) k0 bel lt0) (trodAll_cons_mk (Below.trod laidOut (by kernel_rfl) (of_decide_eq_true (by kernel_rfl)) k1 bel lt1) trodAll_mk0)), rfl, bel.frame _, fun h => by cases h⟩

theorem over : Rows.AeadBackSaid :=
  OpenClaim.holds_of_wide 6 Tryd.f6 rfl rfl rfl rfl rfl rfl rfl ⟨rfl, rfl, rfl, rfl, rfl⟩ rfl rfl rfl rfl rfl (by kernel_rfl) Tryd.func6 (by kernel_rfl)
    (of_decide_eq_true (by kernel_rfl)) (by unfold Func.isWrapper; first | (rw [if_pos (by decide +kernel)]; kernel_rfl) | (rw [if_neg (by decide +kernel)]; exact ⟨rfl, rfl⟩))
    (fun os started H enc _ => lifted os started H enc)

/-- The given statement. -/
theorem proved : Rows.AeadBackCardSaid :=
  Claim7.holds_tied_plain_at .later [] [.data, .data] true (true, "929ffb9c86c2c5e32c173f4681830d65d2b47886d3ac046a8cbbff80cf308d93") false
    over (fun _ h => by cases h) (by kernel_rfl) (fun _ h => by cases h) aeadBack_row_tie rfl ⟨rfl, rfl⟩ (by kernel_rfl) rfl
    (fun f fn hf hfn => by
      obtain rfl : f = 6 := Option.some.inj ((show Tryd.prog.funcNamed "intaglio/intagliolaw04.AeadBack" = some 6 by kernel_rfl).symm.trans hf) |>.symm
      obtain rfl : fn = Tryd.f6 := (Option.some.inj (Tryd.func6.symm.trans hfn)).symm
      exact ⟨by kernel_rfl, fun j t ht => by
        rw [Tryd.params6] at ht
        have hm : t ∈ [26, 24] := by simpa using Array.mem_of_getElem? ht
        have hall : ([26, 24].all fun u => !Tryd.prog.wantsStandIn u) = true := by kernel_rfl
        exact (show Tryd.prog.wantsStandIn t = false by simpa using List.all_eq_true.1 hall t hm)⟩)
    (by kernel_rfl)
#print axioms proved
end Go.Proofs.YtpnlgmkkikmglabDoor.aeadBack

/- Proved: the law BoxReal (P8.1, P8.2) answers true and leaves its arguments as they read before. For every secret, every act and all bytes; no condition but the ties of the five tables of chacha, sha and keys to the program's text. -/
import Derived.Test.YtooooncmjhcdbaaGreatDoorRows
import Derived.LaidMore
import Derived.Deep.Strs
import Derived.Test.YtooooncmjhcdbaaGreatDoorCards
import Derived.Test.YtooooncmjhcdbaaGreatDoorTie
import Derived.WalkKit
import Derived.ProofKit
import Derived.OpenShut
import Derived.ShutString
import Derived.ChangeOld
import Derived.Below
import Derived.Stop.Joined
import Derived.SevenTiedAt
import Derived.Test.YtooooncmjhcdbaaGreatDoorGD
import Derived.Test.YtooooncmjhcdbaaGreatDoorGE
import Derived.Test.YtooooncmjhcdbaaGreatDoorGS
import Derived.Test.YtooooncmjhcdbaaGreatDoorGP
set_option linter.unusedVariables false
set_option linter.unusedSimpArgs false
/-
  A real box: what its kind does: contracts. Own work.
-/
namespace Go.Proofs.YtooooncmjhcdbaaGreatDoor
open Go.RowKit Go.Maps Go.ChangeMaps
/-- An id's key. -/
def rkK (ss : List Int) (q : Kid) : List Int := Sm.drvL ss (idP q.l 6)
theorem rkK_len (ss : List Int) (q : Kid) : (rkK ss q).length = 32 := Sm.drvL_len _ _
theorem expA_by (ks is : List Int) : ∀ q, IsBy (Sm.expA ks is q)
  | 0 => fun x hx => by cases hx
  | q + 1 => fun x hx => by
    rcases List.mem_append.1 hx with h | h
    · exact expA_by ks is q x h
    · exact Sm.hmacS_by _ _ x h
theorem rkK_by (ss : List Int) (q : Kid) : IsBy (rkK ss q) := fun x hx => expA_by _ _ _ x (List.mem_of_mem_take hx)
theorem nonL_byR (x : Int) : IsBy (nonL x) := fun y hy => by
  unfold nonL at hy
  rcases List.mem_append.1 hy with h | h
  · revert h; simp
    intro h; subst h; decide
  · exact highB_byX _ _ y h
theorem size32R (xs : List Int) (h : xs.length = 32) : (Tryz.prog.info? 42).map (·.size) = some (bv xs).length := size_b (by kernel_rfl) h
theorem zero32R : (Tryz.prog.info? 42).map (fun i => i.zero) = some (some (.agg (bv (List.replicate 32 0)).toArray)) := by kernel_rfl
theorem szRck (A : Option Addr) (n c : Nat) : (Tryz.prog.info? 70).map (·.size) = some ([Value.slice A n c]).length := by kernel_rfl
/-- All that a real box's calls ask of the program's tables. -/
structure TabR (w : World) : Prop where
  k : TabK w
  s : Sm.Tabs w
  c : Tabs w
theorem TabR.later {w w' : World} (h : TabR w) (hb : Below w.heap.size w w') : TabR w' := ⟨h.k.later hb, Sm.Tabs.later h.s hb, Tabs.later h.c hb⟩
set_option maxRecDepth 100000 in
set_option maxHeartbeats 1000000 in
theorem rkey_any (w : World) (A : Option Addr) (n c : Nat) (ss : List Int) (q : Kid) (hT : TabR w) (hs : Bs w w.heap.size A n ss) (hsb : IsBy ss) (hn : n ≤ 1000000) (hok : q.ok = true) :
    Calls Tryz.prog 132 #[.agg ([Value.slice A n c]).toArray, .agg (vk .i64 q.l).toArray] w fun e w' => e = .returned (.agg (bv (rkK ss q)).toArray) ∧ Below w.heap.size w w' := by
  have hD := fun w1 (hb : Below w.heap.size w w1) => Sm.derive_any ss A n c q.a q.b q.c q.d q.e q.f w1 (hT.later hb).k (hT.later hb).s (hs.later hb) hsb hn hok
  have hz0 := zero32R
  have hl := rkK_len ss q
  have hzk := hide (size32R (rkK ss q) hl)
  have hidz := hide (szKid q)
  have hsr := hide (szRck A n c)
  have hlz := hide (show (bv (List.replicate 32 0)).length = (bv (rkK ss q)).length by rw [bv_len, bv_len, hl]; rfl)
  have hd : Sm.drvL ss (idP [q.a, q.b, q.c, q.d, q.e, q.f] 6) = rkK ss q := rfl
  rw [hd] at hD
  obtain ⟨ids, hids⟩ : ∃ ids, ids = vk .i64 q.l := ⟨_, rfl⟩
  have hids2 : vk .i64 [q.a, q.b, q.c, q.d, q.e, q.f] = ids := hids.symm
  rw [hids2] at hD
  rw [← hids] at hidz ⊢
  clear hd hids hids2 hl
  generalize rkK ss q = kk at *
  generalize bv (List.replicate 32 0) = zz at *
  generalize hkb : bv kk = kb at *
  have hone := hide (show ∀ u ∈ kb, u.oneCell' = true by rw [← hkb]; exact bv_one kk)
  clear hkb
  go_enter Tryz.func132, Tryz.ntmps132
  go_wp2_with (first
    | (with_reducible refine wl_box (o := ⟨some 2, _, _, _, _, _⟩) rfl 70 (.tmp 0) _ [.slice A n c] rfl rfl rfl ?_; intro g2 w2 r2 p2 l2 b2)
    | (with_reducible refine wl_box (o := ⟨some 3, _, _, _, _, _⟩) rfl 24 (.tmp 1) _ ids rfl rfl rfl ?_; intro g3 w3 r3 p3 l3 b3; have r2b := r2.later b3)
    | (with_reducible refine wl_alloc (o := ⟨some 4, _, _, _, _, _⟩) rfl 42 _ zz rfl hz0 rfl ?_; intro g4 w4 r4 p4 l4 b4; have r3b := r3.later b4; have c0 := (r2b.later b4).cell (j := 0) rfl)
    | (with_reducible refine wl_load_row (o := ⟨some 10, _, _, _, _, _⟩) rfl 24 (.tmp 3) g3 24 ids _ rfl rfl r3b Tryz.underlying24 rfl hidz.out ?_))
  have B3 := b2.trans (b3.mono b2.size)
  have B4 := B3.trans (b4.mono B3.size)
  refine (hD w4 B4).mono ?_
  rintro e w5 ⟨rfl, b5⟩
  have B5 := B4.trans (b5.mono B4.size)
  have r4b := r4.later b5
  go_wp2_with (first
    | (with_reducible refine wl_alloc (o := ⟨some 5, _, _, _, _, _⟩) rfl 42 _ zz rfl hz0 rfl ?_; intro g5 w6 r6 p6 l6 b6; have r4c := r4b.later b6)
    | (with_reducible refine wl_store_row rfl 42 (.tmp 5) (.tmp 12) g5 42 _ kb rfl rfl rfl r6 hzk.out hlz.out hone.out ?_; intro w7 r7 o7; have r4d := r4c.only o7 (by have := r4b.lt; omega))
    | (with_reducible refine wl_load_row (o := ⟨some 14, _, _, _, _, _⟩) rfl 42 (.tmp 5) g5 42 kb _ rfl rfl r7 Tryz.underlying42 rfl hzk.out ?_)
    | (with_reducible refine wl_store_row rfl 42 (.tmp 4) (.tmp 14) g4 42 _ kb rfl rfl rfl r4d hzk.out hlz.out hone.out ?_; intro w8 r8 o8))
  have B6 := B5.trans (b6.mono B5.size)
  have B7 := B6.trans (o7.below (Nat.le_trans B5.size p6))
  refine bodyPost_ret (v := .agg kb.toArray) ?_ rfl ⟨rfl, B7.trans (o8.below (Nat.le_trans B3.size p4))⟩
  exact results_cell_row Tryz.results132 _ _ g4 42 _ (0, 0) _ rfl r8 Tryz.underlying42 rfl hzk.out
/-- What aead opens bytes to. -/
def aoE (ks ns ad xs : List Int) (n : Nat) : Int := if n < 16 then 4 else if Pa.markL ks ns ad (xs.take (n - 16)) = xs.drop (n - 16) then 0 else 6
def aoX (ks ns ad xs : List Int) (n : Nat) : List Int := if n < 16 then [] else if Pa.markL ks ns ad (xs.take (n - 16)) = xs.drop (n - 16) then outL ks ns 64 (xs.take (n - 16)) else []
theorem sealL_len (ks ns ad xs : List Int) : (Pa.sealL ks ns ad xs).length = xs.length + 16 := by unfold Pa.sealL; rw [List.length_append, outL_len, Pa.markL_len]
theorem aseal_f (ks ns ad xs : List Int) (A D : Option Addr) (m c n d : Nat) (w : World) (hT : Tabs w) (hk : ks.length = 32) (hn : ns.length = 12) (hk' : IsBy ks) (hn' : IsBy ns)
    (ha : Bs w w.heap.size A m ad) (hab : IsBy ad) (hac : m ≤ c) (hx : Bs w w.heap.size D n xs) (hxb : IsBy xs) (hxc : n ≤ d) (hm : m ≤ 65536) (hN : n ≤ 65536) :
    Calls Tryz.prog 19 #[.agg (bv ks).toArray, .agg (bv ns).toArray, .slice A m c, .slice D n d] w fun e w' => ∃ v, e = .returned v ∧ PrF (.int .i64 0) (Pa.sealL ks ns ad xs) v w' ∧ Below w.heap.size w w' := by
  refine (Pa.seal_any ks ns ad xs A D m c n d w hT hk hn hk' hn' ha hab hac hx hxb hxc hm hN).mono ?_
  rintro e w' ⟨A9, c9, rfl, h1, h2, h3, h4⟩
  exact ⟨_, rfl, ⟨A9, c9, by rw [sealL_len], by rw [sealL_len]; exact h1, by rw [sealL_len]; exact h3, h4⟩, h2⟩
theorem aopen_f (ks ns ad xs : List Int) (A D : Option Addr) (m c n d : Nat) (w : World) (hT : Tabs w) (hk : ks.length = 32) (hn : ns.length = 12) (hk' : IsBy ks) (hn' : IsBy ns)
    (ha : Bs w w.heap.size A m ad) (hab : IsBy ad) (hac : m ≤ c) (hx : Bs w w.heap.size D n xs) (hxb : IsBy xs) (hxc : n ≤ d) (hm : m ≤ 65536) (hN : n ≤ 65552) :
    Calls Tryz.prog 20 #[.agg (bv ks).toArray, .agg (bv ns).toArray, .slice A m c, .slice D n d] w fun e w' => ∃ v, e = .returned v ∧ PrF (.int .i64 (aoE ks ns ad xs n)) (aoX ks ns ad xs n) v w' ∧ Below w.heap.size w w' := by
  unfold aoE aoX
  by_cases h16 : n < 16
  · simp only [if_pos h16]
    refine (Pa.open_short ks ns A D m c n d w h16).mono ?_
    rintro e w' ⟨rfl, hb⟩
    exact ⟨_, rfl, ⟨none, 0, rfl, Bs.nil_, Nat.le_refl _, by decide⟩, hb⟩
  · simp only [if_neg h16]
    refine (Pa.open_any ks ns ad xs A D m c n d w hT hk hn hk' hn' ha hab hac hx hxb hxc hm hN (by omega)).mono ?_
    intro e w' h
    by_cases hmk : Pa.markL ks ns ad (xs.take (n - 16)) = xs.drop (n - 16)
    · simp only [if_pos hmk] at h ⊢
      obtain ⟨A9, c9, rfl, h1, h2, h3, h4⟩ := h
      have e1 : (outL ks ns 64 (xs.take (n - 16))).length = (xs.take (n - 16)).length := outL_len _ _ _ _
      exact ⟨_, rfl, ⟨A9, c9, by rw [e1], by rw [e1]; exact h1, by rw [e1]; exact h3, h4⟩, h2⟩
    · simp only [if_neg hmk] at h ⊢
      obtain ⟨rfl, hb⟩ := h
      exact ⟨_, rfl, ⟨none, 0, rfl, Bs.nil_, Nat.le_refl _, by decide⟩, hb⟩
def FRsl (k : Int) (xs : List Int) (opn : Nat) (v : Value) (w : World) : Prop :=
  match opn with
  | 7 => PrF (.int .i64 k) xs v w
  | 8 => PrF (.int .i64 k) xs v w
  | 9 => SlF xs v w
  | 10 => IsF (.int .i64 k) v w
  | 11 => SlF xs v w
  | 12 => IsF (.int .i64 k) v w
  | _ => True
theorem FRsl_mono (k : Int) (xs : List Int) : ∀ j v w w', FRsl k xs j v w → Below w.heap.size w w' → FRsl k xs j v w' := by
  intro j v w w' h hb
  unfold FRsl at h ⊢
  split at h
  · exact h.later hb
  · exact h.later hb
  · exact h.later hb
  · exact h.later hb
  · exact h.later hb
  · exact h.later hb
  · trivial
def FRop (k : Int) (xs : List Int) (opn : Nat) (v : Value) (w : World) : Prop :=
  match opn with
  | 7 => PrF (.int .i64 k) xs v w
  | 8 => SlF xs v w
  | 9 => IsF (.int .i64 k) v w
  | 10 => SlF xs v w
  | 11 => IsF (.int .i64 k) v w
  | _ => True
theorem FRop_mono (k : Int) (xs : List Int) : ∀ j v w w', FRop k xs j v w → Below w.heap.size w w' → FRop k xs j v w' := by
  intro j v w w' h hb
  unfold FRop at h ⊢
  split at h
  · exact h.later hb
  · exact h.later hb
  · exact h.later hb
  · exact h.later hb
  · exact h.later hb
  · trivial

def SRsl (g4 g5 g9 n1 c1 m c l d : Nat) (ids nb kb : List Value) (A E H : Option Addr) (nn : Int) (opn : Nat) (v : Value) : Prop :=
  match opn with
  | 0 => v = .agg ([Value.slice A n1 c1]).toArray
  | 1 => v = .pointer (some ⟨g5, 0, none⟩)
  | 2 => v = .agg ids.toArray
  | 3 => v = .agg kb.toArray
  | 4 => v = .agg nb.toArray
  | 5 => v = .slice E m c
  | 6 => v = .slice H l d
  | _ => True
def SRop (g4 g5 g9 n1 c1 m c l d : Nat) (ids nb kb : List Value) (A E H : Option Addr) (nn : Int) (opn : Nat) (v : Value) : Prop :=
  match opn with
  | 0 => v = .agg ([Value.slice A n1 c1]).toArray
  | 1 => v = .pointer (some ⟨g5, 0, none⟩)
  | 2 => v = .agg ids.toArray
  | 3 => v = .agg kb.toArray
  | 4 => v = .agg nb.toArray
  | 5 => v = .slice E m c
  | 6 => v = .slice H l d
  | _ => True

set_option maxRecDepth 100000 in
set_option maxHeartbeats 2000000 in
theorem rseal_any (w : World) (A : Option Addr) (n1 c1 : Nat) (ss : List Int) (q : Kid) (nn : Int) (E H : Option Addr) (m c l d : Nat) (ad tx : List Int) (hT : TabR w) (hs : Bs w w.heap.size A n1 ss) (hsb : IsBy ss) (hn : n1 ≤ 1000000) (hok : okU q nn = true)
    (ha : Bs w w.heap.size E m ad) (hab : IsBy ad) (hac : m ≤ c) (hx : Bs w w.heap.size H l tx) (hxb : IsBy tx) (hxc : l ≤ d) (hm : m ≤ 65536) (hN : l ≤ 65536) :
    Calls Tryz.prog 135 #[.agg ([Value.slice A n1 c1]).toArray, .agg (vk .i64 (useL q nn)).toArray, .slice E m c, .slice H l d] w (fun e w' => ∃ v, e = .returned v ∧ SlF (Pa.sealL (rkK ss q) (nonL nn) ad tx) v w' ∧ Below w.heap.size w w') := by
  have hu : (0 ≤ nn ∧ nn ≤ 1099511627776) ∧ q.ok = true := by
    unfold okU at hok
    simpa using hok
  have hNo := fun w1 => nonce_yes nn w1 (by unfold isI; omega) hu.1
  have HK0 := fun w1 (hb : Below w.heap.size w w1) => rkey_any w1 A n1 c1 ss q (hT.later hb) (hs.later hb) hsb hn hu.2
  have HA0 := fun w1 (hb : Below w.heap.size w w1) => aseal_f (rkK ss q) (nonL nn) ad tx E H m c l d w1 (hT.later hb).c (rkK_len ss q) (nonL_len nn) (rkK_by ss q) (nonL_byR nn) (ha.later hb) hab hac (hx.later hb) hxb hxc hm hN
  have hidz := hide (szKid q)
  have husz := hide (szUse q nn)
  have hsr := hide (szRck A n1 c1)
  have hzn := hide (size12b (nonL_len nn))
  have hlz := hide (show (bv zs12).length = (bv (nonL nn)).length by rw [bv_len, bv_len, nonL_len]; rfl)
  have hone := hide (bv_one (nonL nn))
  have zz := zero12
  have hul : vk .i64 (useL q nn) = vk .i64 q.l ++ [.int .i64 nn] := rfl
  rw [hul] at husz ⊢
  have hc6 : Hid ((vk .i64 q.l ++ [Value.int .i64 nn])[6]? = some (.int .i64 nn)) := hide rfl
  obtain ⟨ids, hids⟩ : ∃ ids, ids = vk .i64 q.l := ⟨_, rfl⟩
  rw [← hids] at hidz husz HK0 hc6 ⊢
  clear hids hul
  generalize Pa.sealL (rkK ss q) (nonL nn) ad tx = sl at *
  generalize rkK ss q = kk at *
  generalize nonL nn = ns at *
  generalize hkb : bv kk = kb at *
  generalize hnb : bv ns = nb at *
  generalize bv zs12 = zn at *
  clear hkb hnb hT hs ha hx hok hu
  obtain ⟨us, hus⟩ : ∃ us, us = ids ++ [Value.int .i64 nn] := ⟨_, rfl⟩
  have Hus := hide hus
  rw [← hus] at husz hc6 ⊢
  clear hus
  go_enter Tryz.func135, Tryz.ntmps135
  go_wp2_with (first
    | (with_reducible refine wl_box (o := ⟨some 4, _, _, _, _, _⟩) rfl 70 (.tmp 0) _ [.slice A n1 c1] rfl rfl rfl ?_; intro g4 w1 r4 p4 l4 b4)
    | (with_reducible refine wl_box (o := ⟨some 5, _, _, _, _, _⟩) rfl 72 (.tmp 1) _ us rfl rfl rfl ?_; intro g5 w2 r5 p5 l5 b5; have r4 := r4.later b5; have c6 := r5.cell hc6.out))
  have B2 := b4.trans (b5.mono b4.size)
  refine (hNo w2).mono ?_
  rintro e w3 ⟨rfl, b3⟩
  have B3 := B2.trans (b3.mono B2.size)
  have r4 := r4.later b3
  have r5 := r5.later b3
  have q4 := r4.lt
  have q5 := r5.lt
  go_wp2_with (first
    | (with_reducible refine wl_alloc (o := ⟨some 9, _, _, _, _, _⟩) rfl 45 _ zn rfl zz rfl ?_; intro g9 w4 r9 p9 l9 b9; have r4 := r4.later b9; have r5 := r5.later b9)
    | (with_reducible refine wl_store_row rfl 45 (.tmp 9) (.tmp 17) g9 45 _ nb rfl rfl rfl r9 hzn.out hlz.out hone.out ?_; intro w5 r9 o9))
  have r4 := r4.only o9 (by omega)
  have r5 := r5.only o9 (by omega)
  have B5 := (B3.trans (b9.mono B3.size)).trans (o9.below (Nat.le_trans B3.size p9))
  rw [Hus.out] at r5
  have HKy := fun w1 (hb : Below w5.heap.size w5 w1) => HK0 w1 (B5.trans (hb.mono B5.size))
  have HAe := fun w1 (hb : Below w5.heap.size w5 w1) => HA0 w1 (B5.trans (hb.mono B5.size))
  rename_i K1 hK1
  refine wp_region_vals [3, 7, 8, 9, 10, 11, 12] (SRsl g4 g5 g9 n1 c1 m c l d ids nb kb A E H nn) (JF w5 [3, 7, 8, 9, 10, 11, 12] (FRsl 0 sl)) (by kernel_rfl) (by kernel_rfl) (by kernel_rfl) (by kernel_rfl) (by kernel_rfl) (JF.start _) ?obs1 ?he1
  case obs1 =>
    refine ⟨?_, ?_, ?_, ?_, ?_, ?_, ?_, ?_, ?_, ?_, ?_, ?_, ?_, trivial⟩
    · exact .inl ⟨by kernel_rfl, fun L a1 w1 n h => ⟨_, rfl, run_loadRow 70 (.tmp 4) g4 70 _ _ rfl (h.var n 4 (by kernel_rfl)) (Row.later r4 h.inv.1) Tryz.underlying70 rfl hsr.out⟩⟩
    · refine .inl ⟨by kernel_rfl, fun L a1 w1 n h => ⟨.pointer (some ⟨g5, 0, none⟩), rfl, ?_⟩⟩
      have e0 : a1.eval (.tmp 5) = _ := h.var n 5 (by kernel_rfl)
      unfold execOp
      simp only [e0]
      go_simp
    · exact .inl ⟨by kernel_rfl, fun L a1 w1 n h => ⟨_, rfl, run_loadP 24 (.tmp 21) g5 0 72 [] ids [.int .i64 nn] _ rfl (h.dep n 1 21 (by kernel_rfl) rfl) (Row.later r5 h.inv.1) rfl Tryz.underlying24 rfl hidz.out⟩⟩
    · refine .inr fun L a1 w1 n h K hK => ?_
      have e0 : a1.eval (.tmp 20) = .agg ([Value.slice A n1 c1]).toArray := h.dep n 0 20 (by kernel_rfl) rfl
      have e1 : a1.eval (.tmp 22) = .agg ids.toArray := h.dep n 2 22 (by kernel_rfl) rfl
      refine JF.call (FRsl_mono 0 sl) h hK 23 rfl 132 _ _ #[.agg ([Value.slice A n1 c1]).toArray, .agg ids.toArray] rfl Tryz.call132 ?_ (HKy w1 h.inv.1) ?_
      · simp only [List.map_toArray, List.map_cons, List.map_nil, e0, e1]
      · rintro e w3 ⟨rfl, b9⟩
        exact ⟨_, rfl, rfl, trivial, b9⟩
    · exact .inl ⟨by kernel_rfl, fun L a1 w1 n h => ⟨_, rfl, run_loadRow 45 (.tmp 9) g9 45 _ _ rfl (h.var n 9 (by kernel_rfl)) (Row.later r9 h.inv.1) Tryz.underlying45 rfl hzn.out⟩⟩
    · exact .inl ⟨by kernel_rfl, fun L a1 w1 n h => ⟨_, rfl, run_move (.tmp 2) rfl (h.var n 2 (by kernel_rfl))⟩⟩
    · exact .inl ⟨by kernel_rfl, fun L a1 w1 n h => ⟨_, rfl, run_move (.tmp 3) rfl (h.var n 3 (by kernel_rfl))⟩⟩
    · refine .inr fun L a1 w1 n h K hK => ?_
      have e0 : a1.eval (.tmp 23) = .agg kb.toArray := h.dep n 3 23 (by kernel_rfl) rfl
      have e1 : a1.eval (.tmp 24) = .agg nb.toArray := h.dep n 4 24 (by kernel_rfl) rfl
      have e2 : a1.eval (.tmp 25) = .slice E m c := h.dep n 5 25 (by kernel_rfl) rfl
      have e3 : a1.eval (.tmp 26) = .slice H l d := h.dep n 6 26 (by kernel_rfl) rfl
      refine JF.call (FRsl_mono 0 sl) h hK 27 rfl 19 _ _ #[.agg kb.toArray, .agg nb.toArray, .slice E m c, .slice H l d] rfl Tryz.call19 ?_ (HAe w1 h.inv.1) ?_
      · simp only [List.map_toArray, List.map_cons, List.map_nil, e0, e1, e2, e3]
      · rintro e w3 ⟨v9, rfl, f9, b9⟩
        exact ⟨_, rfl, trivial, f9, b9⟩
    · refine .inr fun L a1 w1 n h K hK => ?_
      obtain ⟨A9, c9, v9, h9⟩ := JF.get h n 7 27 (by kernel_rfl) (by kernel_rfl) rfl
      exact JF.run (FRsl_mono 0 sl) h hK 19 rfl (.tuple #[.slice A9 sl.length c9, .int .i64 0]) (run_move (.tmp 27) rfl v9) trivial ⟨A9, c9, rfl, h9⟩
    · refine .inr fun L a1 w1 n h K hK => ?_
      obtain ⟨A9, c9, v9, h9⟩ := JF.get h n 8 19 (by kernel_rfl) (by kernel_rfl) rfl
      exact JF.run (FRsl_mono 0 sl) h hK 28 rfl (.slice A9 sl.length c9) (run_extractA (v := .slice A9 sl.length c9) (.tmp 19) 0 _ rfl v9 rfl) trivial ⟨A9, c9, rfl, h9⟩
    · refine .inr fun L a1 w1 n h K hK => ?_
      obtain ⟨A9, c9, v9, h9⟩ := JF.get h n 8 19 (by kernel_rfl) (by kernel_rfl) rfl
      exact JF.run (FRsl_mono 0 sl) h hK 29 rfl (.int .i64 0) (run_extractA (v := .int .i64 0) (.tmp 19) 1 _ rfl v9 rfl) trivial rfl
    · refine .inr fun L a1 w1 n h K hK => ?_
      obtain ⟨A9, c9, v9, h9⟩ := JF.get h n 9 28 (by kernel_rfl) (by kernel_rfl) rfl
      exact JF.run (FRsl_mono 0 sl) h hK 11 rfl (.slice A9 sl.length c9) (run_assign (.tmp 28) rfl v9) trivial ⟨A9, c9, rfl, h9⟩
    · refine .inr fun L a1 w1 n h K hK => ?_
      obtain v9 := JF.get h n 10 29 (by kernel_rfl) (by kernel_rfl) rfl
      exact JF.run (FRsl_mono 0 sl) h hK 12 rfl (.int .i64 0) (run_assign (.tmp 29) rfl v9) trivial rfl
  case he1 =>
    intro V w7 hV hJ
    have b7 := hJ.1
    obtain ⟨A9, c9, v9, h9, l9, m9⟩ := JF.last hJ 11 11 rfl rfl
    clear hV hJ
    simp only [putOps, List.setIfInBounds_toArray, List.set_cons_succ, List.set_cons_zero, Nat.reduceAdd]
    rw [v9]
    refine hK1 _ _ ?_
    go_wp2_with fail
    go_ret
    exact ⟨_, rfl, ⟨A9, c9, rfl, h9, l9, m9⟩, B5.trans (b7.mono B5.size)⟩

set_option maxRecDepth 100000 in
set_option maxHeartbeats 2000000 in
theorem ropen_any (w : World) (A : Option Addr) (n1 c1 : Nat) (ss : List Int) (q : Kid) (nn : Int) (E H : Option Addr) (m c l d : Nat) (ad tx : List Int) (hT : TabR w) (hs : Bs w w.heap.size A n1 ss) (hsb : IsBy ss) (hn : n1 ≤ 1000000) (hok : okU q nn = true)
    (ha : Bs w w.heap.size E m ad) (hab : IsBy ad) (hac : m ≤ c) (hx : Bs w w.heap.size H l tx) (hxb : IsBy tx) (hxc : l ≤ d) (hm : m ≤ 65536) (hN : l ≤ 65552) :
    Calls Tryz.prog 134 #[.agg ([Value.slice A n1 c1]).toArray, .agg (vk .i64 (useL q nn)).toArray, .slice E m c, .slice H l d] w (fun e w' => ∃ v, e = .returned v ∧ PrF (.int .i64 (aoE (rkK ss q) (nonL nn) ad tx l)) (aoX (rkK ss q) (nonL nn) ad tx l) v w' ∧ Below w.heap.size w w') := by
  have hu : (0 ≤ nn ∧ nn ≤ 1099511627776) ∧ q.ok = true := by
    unfold okU at hok
    simpa using hok
  have hNo := fun w1 => nonce_yes nn w1 (by unfold isI; omega) hu.1
  have HK0 := fun w1 (hb : Below w.heap.size w w1) => rkey_any w1 A n1 c1 ss q (hT.later hb) (hs.later hb) hsb hn hu.2
  have HA0 := fun w1 (hb : Below w.heap.size w w1) => aopen_f (rkK ss q) (nonL nn) ad tx E H m c l d w1 (hT.later hb).c (rkK_len ss q) (nonL_len nn) (rkK_by ss q) (nonL_byR nn) (ha.later hb) hab hac (hx.later hb) hxb hxc hm hN
  have hidz := hide (szKid q)
  have husz := hide (szUse q nn)
  have hsr := hide (szRck A n1 c1)
  have hzn := hide (size12b (nonL_len nn))
  have hlz := hide (show (bv zs12).length = (bv (nonL nn)).length by rw [bv_len, bv_len, nonL_len]; rfl)
  have hone := hide (bv_one (nonL nn))
  have zz := zero12
  have hul : vk .i64 (useL q nn) = vk .i64 q.l ++ [.int .i64 nn] := rfl
  rw [hul] at husz ⊢
  have hc6 : Hid ((vk .i64 q.l ++ [Value.int .i64 nn])[6]? = some (.int .i64 nn)) := hide rfl
  obtain ⟨ids, hids⟩ : ∃ ids, ids = vk .i64 q.l := ⟨_, rfl⟩
  rw [← hids] at hidz husz HK0 hc6 ⊢
  clear hids hul
  generalize aoX (rkK ss q) (nonL nn) ad tx l = xs at *
  generalize aoE (rkK ss q) (nonL nn) ad tx l = er at *
  generalize rkK ss q = kk at *
  generalize nonL nn = ns at *
  generalize hkb : bv kk = kb at *
  generalize hnb : bv ns = nb at *
  generalize bv zs12 = zn at *
  clear hkb hnb hT hs ha hx hok hu
  obtain ⟨us, hus⟩ : ∃ us, us = ids ++ [Value.int .i64 nn] := ⟨_, rfl⟩
  have Hus := hide hus
  rw [← hus] at husz hc6 ⊢
  clear hus
  go_enter Tryz.func134, Tryz.ntmps134
  go_wp2_with (first
    | (with_reducible refine wl_box (o := ⟨some 4, _, _, _, _, _⟩) rfl 70 (.tmp 0) _ [.slice A n1 c1] rfl rfl rfl ?_; intro g4 w1 r4 p4 l4 b4)
    | (with_reducible refine wl_box (o := ⟨some 5, _, _, _, _, _⟩) rfl 72 (.tmp 1) _ us rfl rfl rfl ?_; intro g5 w2 r5 p5 l5 b5; have r4 := r4.later b5; have c6 := r5.cell hc6.out))
  have B2 := b4.trans (b5.mono b4.size)
  refine (hNo w2).mono ?_
  rintro e w3 ⟨rfl, b3⟩
  have B3 := B2.trans (b3.mono B2.size)
  have r4 := r4.later b3
  have r5 := r5.later b3
  have q4 := r4.lt
  have q5 := r5.lt
  go_wp2_with (first
    | (with_reducible refine wl_alloc (o := ⟨some 10, _, _, _, _, _⟩) rfl 45 _ zn rfl zz rfl ?_; intro g9 w4 r9 p9 l9 b9; have r4 := r4.later b9; have r5 := r5.later b9)
    | (with_reducible refine wl_store_row rfl 45 (.tmp 10) (.tmp 16) g9 45 _ nb rfl rfl rfl r9 hzn.out hlz.out hone.out ?_; intro w5 r9 o9))
  have r4 := r4.only o9 (by omega)
  have r5 := r5.only o9 (by omega)
  have B5 := (B3.trans (b9.mono B3.size)).trans (o9.below (Nat.le_trans B3.size p9))
  rw [Hus.out] at r5
  have HKy := fun w1 (hb : Below w5.heap.size w5 w1) => HK0 w1 (B5.trans (hb.mono B5.size))
  have HAe := fun w1 (hb : Below w5.heap.size w5 w1) => HA0 w1 (B5.trans (hb.mono B5.size))
  refine wp_region_vals [3, 7, 8, 9, 10, 11] (SRop g4 g5 g9 n1 c1 m c l d ids nb kb A E H nn) (JF w5 [3, 7, 8, 9, 10, 11] (FRop er xs)) (by kernel_rfl) (by kernel_rfl) (by kernel_rfl) (by kernel_rfl) (by kernel_rfl) (JF.start _) ?obs1 ?he1
  case obs1 =>
    refine ⟨?_, ?_, ?_, ?_, ?_, ?_, ?_, ?_, ?_, ?_, ?_, ?_, trivial⟩
    · exact .inl ⟨by kernel_rfl, fun L a1 w1 n h => ⟨_, rfl, run_loadRow 70 (.tmp 4) g4 70 _ _ rfl (h.var n 4 (by kernel_rfl)) (Row.later r4 h.inv.1) Tryz.underlying70 rfl hsr.out⟩⟩
    · refine .inl ⟨by kernel_rfl, fun L a1 w1 n h => ⟨.pointer (some ⟨g5, 0, none⟩), rfl, ?_⟩⟩
      have e0 : a1.eval (.tmp 5) = _ := h.var n 5 (by kernel_rfl)
      unfold execOp
      simp only [e0]
      go_simp
    · exact .inl ⟨by kernel_rfl, fun L a1 w1 n h => ⟨_, rfl, run_loadP 24 (.tmp 19) g5 0 72 [] ids [.int .i64 nn] _ rfl (h.dep n 1 19 (by kernel_rfl) rfl) (Row.later r5 h.inv.1) rfl Tryz.underlying24 rfl hidz.out⟩⟩
    · refine .inr fun L a1 w1 n h K hK => ?_
      have e0 : a1.eval (.tmp 18) = .agg ([Value.slice A n1 c1]).toArray := h.dep n 0 18 (by kernel_rfl) rfl
      have e1 : a1.eval (.tmp 20) = .agg ids.toArray := h.dep n 2 20 (by kernel_rfl) rfl
      refine JF.call (FRop_mono er xs) h hK 21 rfl 132 _ _ #[.agg ([Value.slice A n1 c1]).toArray, .agg ids.toArray] rfl Tryz.call132 ?_ (HKy w1 h.inv.1) ?_
      · simp only [List.map_toArray, List.map_cons, List.map_nil, e0, e1]
      · rintro e w3 ⟨rfl, b9⟩
        exact ⟨_, rfl, rfl, trivial, b9⟩
    · exact .inl ⟨by kernel_rfl, fun L a1 w1 n h => ⟨_, rfl, run_loadRow 45 (.tmp 10) g9 45 _ _ rfl (h.var n 10 (by kernel_rfl)) (Row.later r9 h.inv.1) Tryz.underlying45 rfl hzn.out⟩⟩
    · exact .inl ⟨by kernel_rfl, fun L a1 w1 n h => ⟨_, rfl, run_move (.tmp 2) rfl (h.var n 2 (by kernel_rfl))⟩⟩
    · exact .inl ⟨by kernel_rfl, fun L a1 w1 n h => ⟨_, rfl, run_move (.tmp 3) rfl (h.var n 3 (by kernel_rfl))⟩⟩
    · refine .inr fun L a1 w1 n h K hK => ?_
      have e0 : a1.eval (.tmp 21) = .agg kb.toArray := h.dep n 3 21 (by kernel_rfl) rfl
      have e1 : a1.eval (.tmp 22) = .agg nb.toArray := h.dep n 4 22 (by kernel_rfl) rfl
      have e2 : a1.eval (.tmp 23) = .slice E m c := h.dep n 5 23 (by kernel_rfl) rfl
      have e3 : a1.eval (.tmp 24) = .slice H l d := h.dep n 6 24 (by kernel_rfl) rfl
      refine JF.call (FRop_mono er xs) h hK 25 rfl 20 _ _ #[.agg kb.toArray, .agg nb.toArray, .slice E m c, .slice H l d] rfl Tryz.call20 ?_ (HAe w1 h.inv.1) ?_
      · simp only [List.map_toArray, List.map_cons, List.map_nil, e0, e1, e2, e3]
      · rintro e w3 ⟨v9, rfl, f9, b9⟩
        exact ⟨_, rfl, trivial, f9, b9⟩
    · refine .inr fun L a1 w1 n h K hK => ?_
      obtain ⟨A9, c9, v9, h9⟩ := JF.get h n 7 25 (by kernel_rfl) (by kernel_rfl) rfl
      exact JF.run (FRop_mono er xs) h hK 26 rfl (.slice A9 xs.length c9) (run_extractA (v := .slice A9 xs.length c9) (.tmp 25) 0 _ rfl v9 rfl) trivial ⟨A9, c9, rfl, h9⟩
    · refine .inr fun L a1 w1 n h K hK => ?_
      obtain ⟨A9, c9, v9, h9⟩ := JF.get h n 7 25 (by kernel_rfl) (by kernel_rfl) rfl
      exact JF.run (FRop_mono er xs) h hK 27 rfl (.int .i64 er) (run_extractA (v := .int .i64 er) (.tmp 25) 1 _ rfl v9 rfl) trivial rfl
    · refine .inr fun L a1 w1 n h K hK => ?_
      obtain ⟨A9, c9, v9, h9⟩ := JF.get h n 8 26 (by kernel_rfl) (by kernel_rfl) rfl
      exact JF.run (FRop_mono er xs) h hK 8 rfl (.slice A9 xs.length c9) (run_assign (.tmp 26) rfl v9) trivial ⟨A9, c9, rfl, h9⟩
    · refine .inr fun L a1 w1 n h K hK => ?_
      obtain v9 := JF.get h n 9 27 (by kernel_rfl) (by kernel_rfl) rfl
      exact JF.run (FRop_mono er xs) h hK 9 rfl (.int .i64 er) (run_assign (.tmp 27) rfl v9) trivial rfl
  case he1 =>
    intro V w7 hV hJ
    have b7 := hJ.1
    obtain ⟨A9, c9, v9, h9, l9, m9⟩ := JF.last hJ 10 8 rfl rfl
    have v8 : V 11 = .int .i64 er := JF.last hJ 11 9 rfl rfl
    clear hV hJ
    simp only [putOps, List.setIfInBounds_toArray, List.set_cons_succ, List.set_cons_zero, Nat.reduceAdd]
    rw [v9, v8]
    go_wp2_with fail
    go_ret2
    exact ⟨_, rfl, ⟨A9, c9, rfl, h9, l9, m9⟩, B5.trans (b7.mono B5.size)⟩

end Go.Proofs.YtooooncmjhcdbaaGreatDoor

/-
  A real box: New, Seal, Open: contracts. Own work.
-/
namespace Go.Proofs.YtooooncmjhcdbaaGreatDoor
open Go.RowKit Go.Maps Go.ChangeMaps
abbrev kdR (A : Option Addr) (n c : Nat) : Value := .iface 70 (.agg ([Value.slice A n c]).toArray)
/-- A real box whole. -/
structure BxRl (w : World) (B g b : Nat) (A1 : Option Addr) (n1 c1 : Nat) (ss : List Int) (k : Nat) (D : DU) : Prop where
  row : BxRow w g (kdR A1 n1 c1) (k : Nat) (.map (some b))
  map : UMap w b D
  lo : B ≤ g ∧ B ≤ b
  sz : size D ≤ k
  sec : Bs w w.heap.size A1 n1 ss
  ty : TyB w A1
theorem BxRl.later {w w' : World} {B g b : Nat} {A1 : Option Addr} {n1 c1 : Nat} {ss : List Int} {k : Nat} {D : DU} (h : BxRl w B g b A1 n1 c1 ss k D) (hb : Below w.heap.size w w') : BxRl w' B g b A1 n1 c1 ss k D :=
  ⟨Row.later h.row hb, h.map.later hb, h.lo, h.sz, h.sec.later hb, h.ty.later hb⟩
theorem mSealR (A : Option Addr) (n c : Nat) : ∀ w, (method (Tryz.prog.types.size + Made.depth) 70 (.agg ([Value.slice A n c]).toArray) "intaglio/box.seal").run Tryz.prog w = .ok (135, .agg ([Value.slice A n c]).toArray) w := fun _ => by kernel_rfl
theorem mOpenR (A : Option Addr) (n c : Nat) : ∀ w, (method (Tryz.prog.types.size + Made.depth) 70 (.agg ([Value.slice A n c]).toArray) "intaglio/box.open").run Tryz.prog w = .ok (134, .agg ([Value.slice A n c]).toArray) w := fun _ => by kernel_rfl
set_option maxRecDepth 100000 in
theorem new_real (w : World) (A : Option Addr) (n c : Nat) (ss : List Int) (hs : Bs w w.heap.size A n ss) (hn : n ≤ 1000000) : Calls Tryz.prog 9 #[.slice A n c, .bool false] w fun e w' =>
    ∃ g b A1 c1, e = .returned (.pointer (some ⟨g, 0, none⟩)) ∧ BxRl w' w.heap.size g b A1 n c1 ss 0 (.map []) ∧ Below w.heap.size w w' := by
  have hb1 : ∀ b, Tryz.prog.built 54 [(2, .map (some b))] = some #[.nilIface, .int .i64 0, .map (some b)] := fun b => by kernel_rfl
  have hb2 : ∀ A1 n c1, Tryz.prog.built 70 [(0, .slice A1 n c1)] = some ([Value.slice A1 n c1]).toArray := fun A1 n c1 => by kernel_rfl
  go_enter Tryz.func9, Tryz.ntmps9
  go_wp2_with (first
    | (with_reducible refine wl_makeU rfl rfl ?_; intro b w1 hU pb b1)
    | (with_reducible refine wl_build rfl 54 [(2, .tmp 6)] rfl [(2, .map (some b))] rfl [.nilIface, .int .i64 0, .map (some b)] (hb1 b) ?_)
    | (with_reducible refine wl_box (o := ⟨some 8, _, _, _, _, _⟩) rfl 54 _ _ [.nilIface, .int .i64 0, .map (some b)] rfl rfl rfl ?_; intro g w2 r2 p2 l2 b2))
  have B2 := b1.trans (b2.mono b1.size)
  refine (cloneB A n c ss w2 (hs.later B2) (by omega)).mono ?_
  rintro e w3 ⟨A1, c1, rfl, own3, b3⟩
  have B3 := B2.trans (b3.mono B2.size)
  have r2b := r2.later b3
  have s1 := b1.size
  have s2 := b2.size
  have s3 := b3.size
  have hq : Bs w3 w3.heap.size A1 n ss ∧ TyB w3 A1 := by
    have hnl : ss.length = n := hs.1
    rcases own3.2 with ⟨e0, h0⟩ | ⟨gc, cap, cur, e0, hgB, hg, hmc, hcm, hsz, htk⟩
    · injection e0 with e1 e2 e3
      subst e1; subst e2
      obtain rfl : ss = [] := List.eq_nil_of_length_eq_zero hnl
      exact ⟨Bs.nil_, fun p hp => by cases hp⟩
    · injection e0 with e1 e2 e3
      subst e1; subst e3
      refine ⟨⟨hnl, fun h0 => ⟨gc, 0, rfl, (Array.getElem?_eq_some_iff.1 hg).1, fun j hj => ?_⟩⟩, fun p hp => by injection hp with hp; subst hp; exact ⟨_, _, hg⟩⟩
      rw [Nat.zero_add, cell_of_row w3 gc j cur 5 (0, 0) hg, ← Array.getElem?_toList]
      have e : (cur.toList.take (n * 1))[j]? = (bv ss)[j]? := by rw [htk]
      rw [Nat.mul_one, List.getElem?_take, if_pos hj] at e
      rw [e]
      simp [bv, List.getD, List.getElem?_eq_getElem (show j < ss.length by omega)]
  clear own3
  go_wp2_with (first
    | (with_reducible refine wl_build rfl 70 [(0, .tmp 18)] rfl [(0, .slice A1 n c1)] rfl [.slice A1 n c1] (hb2 A1 n c1) ?_)
    | (with_reducible refine wl_store rfl 51 (.tmp 22) (.tmp 20) g 0 54 _ (kdR A1 n c1) rfl szKd rfl rfl r2b (by simp) rfl ?_; intro w4 r4 o4))
  go_ret
  have hgU := (((hU.later b2).later b3)).ne_row r2b
  refine ⟨g, b, A1, c1, rfl, ⟨r4, ((hU.later b2).later b3).only o4 hgU, ⟨by omega, by omega⟩, Nat.le_refl _, ?_, ?_⟩, B3.trans (o4.below (by omega))⟩
  · have T4 : TurnB w.heap.size w3 w4 := ⟨[g], fun k hk => by
      obtain rfl : k = g := by simpa using hk
      refine ⟨by omega, fun cs t fr hc => ?_⟩
      have := r2b.symm.trans hc
      simp at this
      rw [← this.2.1]
      exact .inl rfl, ButS.only o4 (by simp)⟩
    exact (T4.bs hq.1 hq.2).1
  · have T4 : TurnB w.heap.size w3 w4 := ⟨[g], fun k hk => by
      obtain rfl : k = g := by simpa using hk
      refine ⟨by omega, fun cs t fr hc => ?_⟩
      have := r2b.symm.trans hc
      simp at this
      rw [← this.2.1]
      exact .inl rfl, ButS.only o4 (by simp)⟩
    exact (T4.bs hq.1 hq.2).2
def FSr (sl : List Int) (opn : Nat) (v : Value) (w : World) : Prop :=
  match opn with
  | 7 => SlF sl v w
  | 8 => SlF sl v w
  | _ => True
theorem FSr_mono (sl : List Int) : ∀ j v w w', FSr sl j v w → Below w.heap.size w w' → FSr sl j v w' := by
  intro j v w w' h hb
  unfold FSr at h ⊢
  split at h
  · exact h.later hb
  · exact h.later hb
  · trivial
def FOr (xs : List Int) (k : Int) (opn : Nat) (v : Value) (w : World) : Prop :=
  match opn with
  | 7 => PrF (.int .i64 k) xs v w
  | 8 => SlF xs v w
  | 9 => IsF (.int .i64 k) v w
  | 10 => SlF xs v w
  | 11 => IsF (.int .i64 k) v w
  | _ => True
theorem FOr_mono (xs : List Int) (k : Int) : ∀ j v w w', FOr xs k j v w → Below w.heap.size w w' → FOr xs k j v w' := by
  intro j v w w' h hb
  unfold FOr at h ⊢
  split at h
  · exact h.later hb
  · exact h.later hb
  · exact h.later hb
  · exact h.later hb
  · exact h.later hb
  · trivial

def SRl8 (g g12 b : Nat) (us : List Value) (opn : Nat) (v : Value) : Prop :=
  match opn with
  | 0 | 1 => v = .pointer (some ⟨g, 0, none⟩)
  | 2 => v = .pointer (some ⟨g, 2, none⟩)
  | 3 => v = .map (some b)
  | 4 => v = .agg us.toArray
  | 5 => v = .agg ([] : List Value).toArray
  | _ => True

def SRl9 (g g12 n1 c1 : Nat) (A1 : Option Addr) (us : List Value) (A E : Option Addr) (m c l d : Nat) (opn : Nat) (v : Value) : Prop :=
  match opn with
  | 0 | 1 | 2 => v = .pointer (some ⟨g, 0, none⟩)
  | 3 => v = kdR A1 n1 c1
  | 4 => v = .agg us.toArray
  | 5 => v = .slice A m c
  | 6 => v = .slice E l d
  | 9 => v = .int .i64 0
  | _ => True

def SRlO (g g12 n1 c1 : Nat) (A1 : Option Addr) (us : List Value) (A E : Option Addr) (m c l d : Nat) (opn : Nat) (v : Value) : Prop :=
  match opn with
  | 0 | 1 | 2 => v = .pointer (some ⟨g, 0, none⟩)
  | 3 => v = kdR A1 n1 c1
  | 4 => v = .agg us.toArray
  | 5 => v = .slice A m c
  | 6 => v = .slice E l d
  | _ => True

set_option maxRecDepth 100000 in
set_option maxHeartbeats 2000000 in
theorem sealR (w : World) (B g b : Nat) (A1 : Option Addr) (n1 c1 : Nat) (ss : List Int) (k0 : Nat) (D : DU) (q : Kid) (nn : Int) (A E : Option Addr) (m c l d : Nat) (ad tx : List Int) (h : BxRl w B g b A1 n1 c1 ss k0 D) (hT : TabR w) (hTB : ∀ w', Below B w w' → TabR w') (hni : isI nn) (hn : k0 ≤ 10000) (hn1 : n1 ≤ 1000000) (hsb : IsBy ss) (hadb : IsBy ad) (htxb : IsBy tx) (hmc : m ≤ c) (hld : l ≤ d) (hm : m ≤ 65536) (hl : l ≤ 65536) (hBw : B ≤ w.heap.size)
    (had : Bs w w.heap.size A m ad) (htx : Bs w w.heap.size E l tx) (kA : KpB w B m A) (kE : KpB w B l E) :
    Calls Tryz.prog 10 #[.pointer (some ⟨g, 0, none⟩), .agg (vk .i64 q.l).toArray, .int .i64 nn, .slice A m c, .slice E l d] w fun e w' =>
      if okU q nn = true then ∃ A9 c9 D', e = .returned (.tuple #[.slice A9 (tx.length + 16) c9, .int .i64 0]) ∧ Bs w' w'.heap.size A9 (tx.length + 16) (Pa.sealL (rkK ss q) (nonL nn) ad tx) ∧ BxRl w' B g b A1 n1 c1 ss (k0 + 1) D' ∧ TurnB B w w'
      else e = .returned (.tuple #[.slice none 0 0, .int .i64 1]) ∧ Below w.heap.size w w' := by
  have hbu := hide (bUse q nn)
  have hidz := hide (szKid q)
  have husz := hide (szUse q nn)
  have hzl := hide (show (vk .i64 [0, 0, 0, 0, 0, 0, 0]).length = (vk .i64 (useL q nn)).length from rfl)
  have hone := hide (one_vk .i64 (useL q nn))
  have hz0 := zUse
  have hbE : Tryz.prog.built 74 [] = some ([] : List Value).toArray := by kernel_rfl
  have HRef := fun w1 (hb : Below w.heap.size w w1) => refuse_yes w1 g _ _ _ _ q nn (Row.later h.row hb) (hT.later hb).k hni
  have hkey := fun (hk : okU q nn = true) => key_use q nn (okU_isI hk)
  have hll := fun w1 (hT1 : TabR w1) (h1 : Bs w1 w1.heap.size A1 n1 ss) (had : Bs w1 w1.heap.size A m ad) (htx : Bs w1 w1.heap.size E l tx) (hok : okU q nn = true) => rseal_any w1 A1 n1 c1 ss q nn A E m c l d ad tx hT1 h1 hsb hn1 hok had hadb hmc htx htxb hld hm hl
  have hsll : (Pa.sealL (rkK ss q) (nonL nn) ad tx).length = tx.length + 16 := sealL_len _ _ _ _
  obtain ⟨us, hus⟩ : ∃ us, us = vk .i64 (useL q nn) := ⟨_, rfl⟩
  obtain ⟨ids, hids⟩ : ∃ ids, ids = vk .i64 q.l := ⟨_, rfl⟩
  rw [← hus] at hbu husz hzl hone HRef hkey hll
  rw [← hids] at hbu hidz ⊢
  clear hus hids
  generalize vk .i64 [0, 0, 0, 0, 0, 0, 0] = zu at *
  have hmI : (m : Int) ≤ 65536 := by omega
  have hlI : (l : Int) ≤ 65536 := by omega
  by_cases hk : okU q nn = true
  case neg =>
    simp only [if_neg hk]
    have hre : refB q nn = 1 := by unfold refB; rw [if_neg hk]
    rw [hre] at HRef
    clear hre hk hkey hll
    go_enter Tryz.func10, Tryz.ntmps10
    go_wp2_with (first
      | (with_reducible refine wl_box rfl 24 _ (.agg ids.toArray) ids rfl rfl rfl ?_; intro g6 w1 r6 p6 l6 b6)
      | (with_reducible refine wl_load_row (o := ⟨some 14, _, _, _, _, _⟩) rfl 24 (.tmp 6) g6 24 ids _ rfl rfl r6 Tryz.underlying24 rfl hidz.out ?_)
      | (with_reducible refine wl_build rfl 72 [(0, .tmp 14), (1, .tmp 15)] rfl [(0, .agg ids.toArray), (1, .int .i64 nn)] rfl us hbu.out ?_)
      | (with_reducible refine wl_alloc (o := ⟨some 12, _, _, _, _, _⟩) rfl 72 _ zu rfl hz0 rfl ?_; intro g12 w2 r12 p12 l12 b12)
      | (with_reducible refine wl_store_row rfl 72 (.tmp 12) (.tmp 16) g12 72 _ us rfl rfl rfl r12 husz.out hzl.out hone.out ?_; intro w3 r12b o12)
      | (with_reducible refine wl_load_row (o := ⟨some 18, _, _, _, _, _⟩) rfl 72 (.tmp 12) g12 72 us _ rfl rfl r12b Tryz.underlying72 rfl husz.out ?_))
    have B2 := b6.trans (b12.mono b6.size)
    have B3 := B2.trans (o12.below (by have := b6.size; omega))
    refine (HRef w3 B3).mono ?_
    rintro e w4 ⟨rfl, b4⟩
    go_wp2_with fail
    go_ret2
    exact ⟨rfl, B3.trans (b4.mono B3.size)⟩
  case pos =>
    simp only [if_pos hk]
    have hre : refB q nn = 0 := by unfold refB; rw [if_pos hk]
    rw [hre] at HRef
    obtain ⟨kl, hkl⟩ := hkey hk
    have hll := fun w1 hT1 h1 had htx => hll w1 hT1 h1 had htx hk
    clear hre hk hkey
    have hrow := hide h.row
    have hsec := h.sec
    have hty := h.ty
    have hmap := h.map
    have hlo := hide h.lo
    have hsz := hide h.sz
    have hsm : size D < maxLen := by have := h.sz; simp only [maxLen]; omega
    have hzI : (k0 : Int) ≤ 10000 := by omega
    clear h
    go_enter Tryz.func10, Tryz.ntmps10
    go_wp2_with (first
      | (with_reducible refine wl_box rfl 24 _ (.agg ids.toArray) ids rfl rfl rfl ?_; intro g6 w1 r6 p6 l6 b6)
      | (with_reducible refine wl_load_row (o := ⟨some 14, _, _, _, _, _⟩) rfl 24 (.tmp 6) g6 24 ids _ rfl rfl r6 Tryz.underlying24 rfl hidz.out ?_)
      | (with_reducible refine wl_build rfl 72 [(0, .tmp 14), (1, .tmp 15)] rfl [(0, .agg ids.toArray), (1, .int .i64 nn)] rfl us hbu.out ?_)
      | (with_reducible refine wl_alloc (o := ⟨some 12, _, _, _, _, _⟩) rfl 72 _ zu rfl hz0 rfl ?_; intro g12 w2 r12 p12 l12 b12)
      | (with_reducible refine wl_store_row rfl 72 (.tmp 12) (.tmp 16) g12 72 _ us rfl rfl rfl r12 husz.out hzl.out hone.out ?_; intro w3 r12b o12)
      | (with_reducible refine wl_load_row (o := ⟨some 18, _, _, _, _, _⟩) rfl 72 (.tmp 12) g12 72 us _ rfl rfl r12b Tryz.underlying72 rfl husz.out ?_))
    have B2 := b6.trans (b12.mono b6.size)
    have B3 := B2.trans (o12.below (by have := b6.size; omega))
    refine (HRef w3 B3).mono ?_
    rintro e w4 ⟨rfl, b4⟩
    have B4 := B3.trans (b4.mono B3.size)
    have r12c := r12b.later b4
    have row4 : Row w4 54 g [kdR A1 n1 c1, .int .i64 (k0 : Nat), .map (some b)] := Row.later hrow.out B4
    have cc1 := row4.cell (j := 1) rfl
    have hg12 : g ≠ g12 := by have := hrow.out.lt; have := b6.size; omega
    go_wp2_with (first
      | (with_reducible refine wl_store rfl 3 (.tmp 37) (.tmp 35) g 1 54 _ (.int .i64 ((k0 : Int) + 1)) rfl szInt1 rfl rfl row4 (by simp) rfl ?_; intro w5 row5 o5))
    have hr : Row w5 54 g [kdR A1 n1 c1, .int .i64 ((k0 : Int) + 1), .map (some b)] := row5
    have r12 := r12c.only o5 (Ne.symm hg12)
    have hU : UMap w5 b D := (hmap.later B4).only o5 ((hmap.later B4).ne_row row4)
    have T5 : TurnB B w w5 := (TurnB.of B4).trans ⟨[g], fun k hk => by
      obtain rfl : k = g := by simpa using hk
      refine ⟨hlo.out.1, fun cs t fr hc => ?_⟩
      have := row4.symm.trans hc
      simp at this
      rw [← this.2.1]
      exact .inl rfl, ButS.only o5 (by simp)⟩
    have had5 := (T5.bsK had kA).1
    have htx5 := (T5.bsK htx kE).1
    have kA5 := (T5.bsK had kA).2
    have kE5 := (T5.bsK htx kE).2
    have hs5 := T5.bs hsec hty
    clear had htx kA kE
    rename_i K1 hK1
    refine wp_region_vals [6] (SRl8 g g12 b us) (JOne w5 (fun wq => UMap wq b (D.put kl (.held (.agg ([] : List Value).toArray))) ∧ size (D.put kl (.held (.agg ([] : List Value).toArray))) ≤ size D + 1 ∧ ∃ w1, Below w5.heap.size w5 w1 ∧ Only b w1 wq)) (by kernel_rfl) (by kernel_rfl) (by kernel_rfl) (by kernel_rfl) (by kernel_rfl) (JOne.start _ _ _) ?obs1 ?he1
    case obs1 =>
      refine ⟨?_, ?_, ?_, ?_, ?_, ?_, ?_, trivial⟩
      · exact .inl ⟨by kernel_rfl, fun L a1 w1 n h => ⟨_, rfl, run_move (.tmp 0) rfl (h.var n 0 (by kernel_rfl))⟩⟩
      · refine .inl ⟨by kernel_rfl, fun L a1 w1 n h => ⟨.pointer (some ⟨g, 0, none⟩), rfl, ?_⟩⟩
        have e0 : a1.eval (.tmp 38) = _ := h.dep n 0 38 (by kernel_rfl) rfl
        unfold execOp
        simp only [e0]
        go_simp
      · refine .inl ⟨by kernel_rfl, fun L a1 w1 n h => ⟨.pointer (some ⟨g, 2, none⟩), rfl, ?_⟩⟩
        have e0 : a1.eval (.tmp 39) = _ := h.dep n 1 39 (by kernel_rfl) rfl
        unfold execOp
        simp only [e0]
        go_simp
      · exact .inl ⟨by kernel_rfl, fun L a1 w1 n h => ⟨_, rfl, run_loadA 52 (.tmp 40) ⟨g, 2, none⟩ rfl Tryz.isAgg52 (h.dep n 2 40 (by kernel_rfl) rfl) ((Row.later hr (h.inv.1 ((bits_at rfl).trans (n.later (by kernel_rfl) : L.getD 6 false = false)))).cell (j := 2) rfl)⟩⟩
      · exact .inl ⟨by kernel_rfl, fun L a1 w1 n h => ⟨_, rfl, run_loadRow 72 (.tmp 12) g12 72 _ _ rfl (h.var n 12 (by kernel_rfl)) (Row.later r12 (h.inv.1 ((bits_at rfl).trans (n.later (by kernel_rfl) : L.getD 6 false = false)))) Tryz.underlying72 rfl husz.out⟩⟩
      · exact .inl ⟨by kernel_rfl, fun L a1 w1 n h => ⟨_, rfl, run_buildX 74 [] rfl [] rfl [] hbE⟩⟩
      · refine .inr fun L a1 w1 n h K hK => ?_
        have no6 : L.getD 6 false = false := n.not_yet
        have b1 := h.inv.1 ((bits_at rfl).trans no6)
        have y0 : a1.eval (.tmp 41) = .map (some b) := h.dep n 3 41 (by kernel_rfl) rfl
        have y1 : a1.eval (.tmp 42) = .agg us.toArray := h.dep n 4 42 (by kernel_rfl) rfl
        have y2 : a1.eval (.tmp 43) = .agg ([] : List Value).toArray := h.dep n 5 43 (by kernel_rfl) rfl
        refine st_putU (.tmp 41) (.tmp 42) (.tmp 43) (.agg ([] : List Value).toArray) (.agg us.toArray) kl rfl y0 y1 hkl y2 (hU.later b1) hsm ?_
        intro wq hq hsq oq
        exact hK undef wq trivial ⟨fun h0 => absurd (show true = false from h0) (by decide), fun _ => ⟨hq, hsq, w1, b1, oq⟩⟩
    case he1 =>
      intro V w6 hV hJ
      obtain ⟨hU6, hs6z, w6a, b6a, o6⟩ := hJ.2 rfl
      clear hV hJ
      have row6 : Row w6 54 g [kdR A1 n1 c1, .int .i64 ((k0 : Int) + 1), .map (some b)] := (hr.later b6a).only o6 (Ne.symm ((hU.later b6a).ne_row (hr.later b6a)))
      have r12 := (r12.later b6a).only o6 (Ne.symm ((hU.later b6a).ne_row (r12.later b6a)))
      have T6 : TurnB B w6a w6 := by
        refine ⟨[b], fun k hk => ?_, ButS.only o6 (by simp)⟩
        obtain rfl : k = b := by simpa using hk
        refine ⟨hlo.out.2, fun cs t fr hc => ?_⟩
        obtain ⟨es, clock, he⟩ := (hU.later b6a).isMap
        rw [he] at hc
        cases hc
      have had6 := (T6.bsK (had5.later b6a) (kA5.later b6a)).1
      have htx6 := (T6.bsK (htx5.later b6a) (kE5.later b6a)).1
      have hs6 := T6.bs (hs5.1.later b6a) (hs5.2.later b6a)
      have TT := (T5.trans (TurnB.of b6a)).trans T6
      have hHs := hide hs6z
      have HU6 := hide hU6
      clear had5 htx5 kA5 kE5 hU hr hs6z hU6 T5 T6 o6 b6a hmap hsec hty hs5
      have hr9 := row6
      have BB : Below B w w6 := TT.below hBw
      have hT6 : TabR w6 := hTB w6 BB
      have HSeal : ∀ w1, Below w6.heap.size w6 w1 → Calls Tryz.prog 135 #[.agg ([Value.slice A1 n1 c1]).toArray, .agg us.toArray, .slice A m c, .slice E l d] w1 fun e w' =>
          ∃ v, e = .returned v ∧ SlF (Pa.sealL (rkK ss q) (nonL nn) ad tx) v w' ∧ Below w1.heap.size w1 w' := fun w1 b1 => hll w1 (hT6.later b1) (hs6.1.later b1) (had6.later b1) (htx6.later b1)
      obtain ⟨sl, hsl⟩ : ∃ sl, sl = Pa.sealL (rkK ss q) (nonL nn) ad tx := ⟨_, rfl⟩
      rw [← hsl] at HSeal hsll
      have Hsl := hide hsl
      clear hll hsl
      have hmt := mSealR A1 n1 c1
      simp only [putOps, List.setIfInBounds_toArray, List.set_cons_succ, List.set_cons_zero, Nat.reduceAdd]
      refine hK1 _ _ ?_
      go_wp2_with fail
      rename_i K2 hK2
      refine wp_region_vals [7, 8] (SRl9 g g12 n1 c1 A1 us A E m c l d) (JF w6 [7, 8] (FSr sl)) (by kernel_rfl) (by kernel_rfl) (by kernel_rfl) (by kernel_rfl) (by kernel_rfl) (JF.start _) ?obs2 ?he2
      case obs2 =>
        refine ⟨?_, ?_, ?_, ?_, ?_, ?_, ?_, ?_, ?_, ?_, trivial⟩
        · exact .inl ⟨by kernel_rfl, fun L a1 w1 n h => ⟨_, rfl, run_move (.tmp 0) rfl (h.var n 0 (by kernel_rfl))⟩⟩
        · refine .inl ⟨by kernel_rfl, fun L a1 w1 n h => ⟨.pointer (some ⟨g, 0, none⟩), rfl, ?_⟩⟩
          have e0 : a1.eval (.tmp 44) = _ := h.dep n 0 44 (by kernel_rfl) rfl
          unfold execOp
          simp only [e0]
          go_simp
        · refine .inl ⟨by kernel_rfl, fun L a1 w1 n h => ⟨.pointer (some ⟨g, 0, none⟩), rfl, ?_⟩⟩
          have e0 : a1.eval (.tmp 45) = _ := h.dep n 1 45 (by kernel_rfl) rfl
          unfold execOp
          simp only [e0]
          go_simp
        · exact .inl ⟨by kernel_rfl, fun L a1 w1 n h => ⟨_, rfl, run_loadA 51 (.tmp 46) ⟨g, 0, none⟩ rfl Tryz.isAgg51 (h.dep n 2 46 (by kernel_rfl) rfl) ((Row.later hr9 h.inv.1).cell (j := 0) rfl)⟩⟩
        · exact .inl ⟨by kernel_rfl, fun L a1 w1 n h => ⟨_, rfl, run_loadRow 72 (.tmp 12) g12 72 _ _ rfl (h.var n 12 (by kernel_rfl)) (Row.later r12 h.inv.1) Tryz.underlying72 rfl husz.out⟩⟩
        · exact .inl ⟨by kernel_rfl, fun L a1 w1 n h => ⟨_, rfl, run_move (.tmp 3) rfl (h.var n 3 (by kernel_rfl))⟩⟩
        · exact .inl ⟨by kernel_rfl, fun L a1 w1 n h => ⟨_, rfl, run_move (.tmp 4) rfl (h.var n 4 (by kernel_rfl))⟩⟩
        · refine .inr fun L a1 w1 n h K hK => ?_
          have y0 : a1.eval (.tmp 47) = kdR A1 n1 c1 := h.dep n 3 47 (by kernel_rfl) rfl
          have y1 : a1.eval (.tmp 48) = .agg us.toArray := h.dep n 4 48 (by kernel_rfl) rfl
          have y2 : a1.eval (.tmp 49) = .slice A m c := h.dep n 5 49 (by kernel_rfl) rfl
          have y3 : a1.eval (.tmp 50) = .slice E l d := h.dep n 6 50 (by kernel_rfl) rfl
          refine st_invoke 70 (.agg ([Value.slice A1 n1 c1]).toArray) (.agg ([Value.slice A1 n1 c1]).toArray) 135 (.tmp 47) _ #[.tmp 48, .tmp 49, .tmp 50] _ [.agg us.toArray, .slice A m c, .slice E l d] rfl y0 hmt Tryz.call135 (by simp only [List.map_toArray, List.map_cons, List.map_nil, y1, y2, y3]) (HSeal w1 h.inv.1) ?_
          rintro e wq ⟨v, rfl, hN, b9⟩
          exact ⟨_, rfl, JF.few (FSr_mono sl) h hK 51 rfl _ trivial hN b9⟩
        · refine .inr fun L a1 w1 n h K hK => ?_
          obtain ⟨A9, c9, v9, h9⟩ := JF.get h n 7 51 (by kernel_rfl) (by kernel_rfl) rfl
          exact JF.run (FSr_mono sl) h hK 10 rfl (.slice A9 sl.length c9) (run_assign (.tmp 51) rfl v9) trivial ⟨A9, c9, rfl, h9⟩
        · exact .inl ⟨by kernel_rfl, fun L a1 w1 n h => ⟨_, rfl, run_assign (.const (.int .i64 0)) rfl rfl⟩⟩
      case he2 =>
        intro V2 w7 hV hJ
        have b7 := hJ.1
        obtain ⟨A9, c9, v9, h9, l9, m9⟩ := JF.last hJ 8 10 rfl rfl
        have hE2 : V2 9 = .int .i64 0 := hV 9 _ rfl
        clear hV hJ
        simp only [putOps, List.setIfInBounds_toArray, List.set_cons_succ, List.set_cons_zero, Nat.reduceAdd]
        rw [hE2, v9]
        refine hK2 _ _ ?_
        go_wp2_with fail
        go_ret2
        rw [hsll] at h9 ⊢
        refine ⟨A9, c9, _, rfl, by rw [← Hsl.out]; exact h9, ⟨?_, HU6.out.later b7, hlo.out, ?_, hs6.1.later b7, hs6.2.later b7⟩, TT.trans (TurnB.of b7)⟩
        · have := row6.later b7
          unfold BxRow
          rw [show (((k0 + 1 : Nat)) : Int) = (k0 : Int) + 1 by omega]
          exact this
        · have h1 := hHs.out
          have h2 := hsz.out
          omega
def roE (ss : List Int) (q : Kid) (nn : Int) (ad bs : List Int) (l : Nat) : Int := if okU q nn = true then aoE (rkK ss q) (nonL nn) ad bs l else 1
def roX (ss : List Int) (q : Kid) (nn : Int) (ad bs : List Int) (l : Nat) : List Int := if okU q nn = true then aoX (rkK ss q) (nonL nn) ad bs l else []
theorem PrF.of_nil (w : World) (k : Int) : PrF (.int .i64 k) [] (.tuple #[.slice none 0 0, .int .i64 k]) w := ⟨none, 0, rfl, Bs.nil_, Nat.le_refl _, by decide⟩
set_option maxRecDepth 100000 in
set_option maxHeartbeats 2000000 in
theorem openR (w : World) (B g b : Nat) (A1 : Option Addr) (n1 c1 : Nat) (ss : List Int) (k0 : Nat) (D : DU) (q : Kid) (nn : Int) (A E : Option Addr) (m c l d : Nat) (ad bs : List Int) (h : BxRl w B g b A1 n1 c1 ss k0 D) (hT : TabR w) (hni : isI nn) (hn1 : n1 ≤ 1000000) (hsb : IsBy ss) (hmc : m ≤ c) (hld : l ≤ d) (hm : m ≤ 65536) (hl : l ≤ 65552)
    (had : Bs w w.heap.size A m ad) (hadb : IsBy ad) (hbs : Bs w w.heap.size E l bs) (hby : IsBy bs) :
    Calls Tryz.prog 12 #[.pointer (some ⟨g, 0, none⟩), .agg (vk .i64 q.l).toArray, .int .i64 nn, .slice A m c, .slice E l d] w fun e w' =>
      ∃ v, e = .returned v ∧ PrF (.int .i64 (roE ss q nn ad bs l)) (roX ss q nn ad bs l) v w' ∧ Below w.heap.size w w' := by
  have hbu := hide (bUse q nn)
  have hidz := hide (szKid q)
  have husz := hide (szUse q nn)
  have hzl := hide (show (vk .i64 [0, 0, 0, 0, 0, 0, 0]).length = (vk .i64 (useL q nn)).length from rfl)
  have hone := hide (one_vk .i64 (useL q nn))
  have hz0 := zUse
  have HRef := fun w1 (hb : Below w.heap.size w w1) => refuse_yes w1 g _ _ _ _ q nn (Row.later h.row hb) (hT.later hb).k hni
  have HOp := fun (hok : okU q nn = true) w1 (hb : Below w.heap.size w w1) => ropen_any w1 A1 n1 c1 ss q nn A E m c l d ad bs (hT.later hb) (h.sec.later hb) hsb hn1 hok (had.later hb) hadb hmc (hbs.later hb) hby hld hm hl
  unfold roE roX
  have hrow := hide h.row
  obtain ⟨us, hus⟩ : ∃ us, us = vk .i64 (useL q nn) := ⟨_, rfl⟩
  obtain ⟨ids, hids⟩ : ∃ ids, ids = vk .i64 q.l := ⟨_, rfl⟩
  rw [← hus] at hbu husz hzl hone HRef HOp
  rw [← hids] at hbu hidz ⊢
  clear hus hids had hbs h
  generalize vk .i64 [0, 0, 0, 0, 0, 0, 0] = zu at *
  have hmI : (m : Int) ≤ 65536 := by omega
  have hlI : (l : Int) ≤ 65552 := by omega
  by_cases hk : okU q nn = true
  case neg =>
    have hre : refB q nn = 1 := by unfold refB; rw [if_neg hk]
    rw [hre] at HRef
    simp only [if_neg hk]
    clear hre hk HOp
    go_enter Tryz.func12, Tryz.ntmps12
    go_wp2_with (first
      | (with_reducible refine wl_box rfl 24 _ (.agg ids.toArray) ids rfl rfl rfl ?_; intro g6 w1 r6 p6 l6 b6)
      | (with_reducible refine wl_load_row (o := ⟨some 14, _, _, _, _, _⟩) rfl 24 (.tmp 6) g6 24 ids _ rfl rfl r6 Tryz.underlying24 rfl hidz.out ?_)
      | (with_reducible refine wl_build rfl 72 [(0, .tmp 14), (1, .tmp 15)] rfl [(0, .agg ids.toArray), (1, .int .i64 nn)] rfl us hbu.out ?_)
      | (with_reducible refine wl_alloc (o := ⟨some 12, _, _, _, _, _⟩) rfl 72 _ zu rfl hz0 rfl ?_; intro g12 w2 r12 p12 l12 b12)
      | (with_reducible refine wl_store_row rfl 72 (.tmp 12) (.tmp 16) g12 72 _ us rfl rfl rfl r12 husz.out hzl.out hone.out ?_; intro w3 r12b o12)
      | (with_reducible refine wl_load_row (o := ⟨some 18, _, _, _, _, _⟩) rfl 72 (.tmp 12) g12 72 us _ rfl rfl r12b Tryz.underlying72 rfl husz.out ?_))
    have B2 := b6.trans (b12.mono b6.size)
    have B3 := B2.trans (o12.below (by have := b6.size; omega))
    refine (HRef w3 B3).mono ?_
    rintro e w4 ⟨rfl, b4⟩
    have B4 := B3.trans (b4.mono B3.size)
    go_wp2_with fail
    go_ret2
    exact ⟨_, rfl, PrF.of_nil _ _, B4⟩
  case pos =>
    have hre : refB q nn = 0 := by unfold refB; rw [if_pos hk]
    rw [hre] at HRef
    have HOp := HOp hk
    simp only [if_pos hk]
    by_cases hs : l < 16
    · have hx : aoX (rkK ss q) (nonL nn) ad bs l = [] := by unfold aoX; rw [if_pos hs]
      have he : aoE (rkK ss q) (nonL nn) ad bs l = 4 := by unfold aoE; rw [if_pos hs]
      rw [hx, he]
      have hsI : (l : Int) < 16 := by omega
      clear hre hk hx he HOp hs hlI
      go_enter Tryz.func12, Tryz.ntmps12
      go_wp2_with (first
        | (with_reducible refine wl_box rfl 24 _ (.agg ids.toArray) ids rfl rfl rfl ?_; intro g6 w1 r6 p6 l6 b6)
        | (with_reducible refine wl_load_row (o := ⟨some 14, _, _, _, _, _⟩) rfl 24 (.tmp 6) g6 24 ids _ rfl rfl r6 Tryz.underlying24 rfl hidz.out ?_)
        | (with_reducible refine wl_build rfl 72 [(0, .tmp 14), (1, .tmp 15)] rfl [(0, .agg ids.toArray), (1, .int .i64 nn)] rfl us hbu.out ?_)
        | (with_reducible refine wl_alloc (o := ⟨some 12, _, _, _, _, _⟩) rfl 72 _ zu rfl hz0 rfl ?_; intro g12 w2 r12 p12 l12 b12)
        | (with_reducible refine wl_store_row rfl 72 (.tmp 12) (.tmp 16) g12 72 _ us rfl rfl rfl r12 husz.out hzl.out hone.out ?_; intro w3 r12b o12)
        | (with_reducible refine wl_load_row (o := ⟨some 18, _, _, _, _, _⟩) rfl 72 (.tmp 12) g12 72 us _ rfl rfl r12b Tryz.underlying72 rfl husz.out ?_))
      have B2 := b6.trans (b12.mono b6.size)
      have B3 := B2.trans (o12.below (by have := b6.size; omega))
      refine (HRef w3 B3).mono ?_
      rintro e w4 ⟨rfl, b4⟩
      have B4 := B3.trans (b4.mono B3.size)
      go_wp2_with fail
      go_ret2
      exact ⟨_, rfl, PrF.of_nil _ _, B4⟩
    · have hsI : ¬ (l : Int) < 16 := by omega
      obtain ⟨xs, hxs⟩ : ∃ xs, xs = aoX (rkK ss q) (nonL nn) ad bs l := ⟨_, rfl⟩
      obtain ⟨k, hkk⟩ : ∃ k : Int, k = aoE (rkK ss q) (nonL nn) ad bs l := ⟨_, rfl⟩
      rw [← hxs, ← hkk] at HOp ⊢
      have HOpen0 := HOp
      clear hre hk hs hxs hkk HOp
      go_enter Tryz.func12, Tryz.ntmps12
      go_wp2_with (first
        | (with_reducible refine wl_box rfl 24 _ (.agg ids.toArray) ids rfl rfl rfl ?_; intro g6 w1 r6 p6 l6 b6)
        | (with_reducible refine wl_load_row (o := ⟨some 14, _, _, _, _, _⟩) rfl 24 (.tmp 6) g6 24 ids _ rfl rfl r6 Tryz.underlying24 rfl hidz.out ?_)
        | (with_reducible refine wl_build rfl 72 [(0, .tmp 14), (1, .tmp 15)] rfl [(0, .agg ids.toArray), (1, .int .i64 nn)] rfl us hbu.out ?_)
        | (with_reducible refine wl_alloc (o := ⟨some 12, _, _, _, _, _⟩) rfl 72 _ zu rfl hz0 rfl ?_; intro g12 w2 r12 p12 l12 b12)
        | (with_reducible refine wl_store_row rfl 72 (.tmp 12) (.tmp 16) g12 72 _ us rfl rfl rfl r12 husz.out hzl.out hone.out ?_; intro w3 r12b o12)
        | (with_reducible refine wl_load_row (o := ⟨some 18, _, _, _, _, _⟩) rfl 72 (.tmp 12) g12 72 us _ rfl rfl r12b Tryz.underlying72 rfl husz.out ?_))
      have B2 := b6.trans (b12.mono b6.size)
      have B3 := B2.trans (o12.below (by have := b6.size; omega))
      refine (HRef w3 B3).mono ?_
      rintro e w4 ⟨rfl, b4⟩
      have B4 := B3.trans (b4.mono B3.size)
      have r12 := r12b.later b4
      have hr : Row w4 54 g [kdR A1 n1 c1, .int .i64 (k0 : Nat), .map (some b)] := Row.later hrow.out B4
      have HOpen := fun w1 (hb : Below w4.heap.size w4 w1) => HOpen0 w1 (B4.trans (hb.mono B4.size))
      have hmt := mOpenR A1 n1 c1
      go_wp2_with fail
      refine wp_region_vals [7, 8, 9, 10, 11] (SRlO g g12 n1 c1 A1 us A E m c l d) (JF w4 [7, 8, 9, 10, 11] (FOr xs k)) (by kernel_rfl) (by kernel_rfl) (by kernel_rfl) (by kernel_rfl) (by kernel_rfl) (JF.start _) ?obs2 ?he2
      case obs2 =>
        refine ⟨?_, ?_, ?_, ?_, ?_, ?_, ?_, ?_, ?_, ?_, ?_, ?_, trivial⟩
        · exact .inl ⟨by kernel_rfl, fun L a1 w1 n h => ⟨_, rfl, run_move (.tmp 0) rfl (h.var n 0 (by kernel_rfl))⟩⟩
        · refine .inl ⟨by kernel_rfl, fun L a1 w1 n h => ⟨.pointer (some ⟨g, 0, none⟩), rfl, ?_⟩⟩
          have e0 : a1.eval (.tmp 34) = _ := h.dep n 0 34 (by kernel_rfl) rfl
          unfold execOp
          simp only [e0]
          go_simp
        · refine .inl ⟨by kernel_rfl, fun L a1 w1 n h => ⟨.pointer (some ⟨g, 0, none⟩), rfl, ?_⟩⟩
          have e0 : a1.eval (.tmp 35) = _ := h.dep n 1 35 (by kernel_rfl) rfl
          unfold execOp
          simp only [e0]
          go_simp
        · exact .inl ⟨by kernel_rfl, fun L a1 w1 n h => ⟨_, rfl, run_loadA 51 (.tmp 36) ⟨g, 0, none⟩ rfl Tryz.isAgg51 (h.dep n 2 36 (by kernel_rfl) rfl) ((Row.later hr h.inv.1).cell (j := 0) rfl)⟩⟩
        · exact .inl ⟨by kernel_rfl, fun L a1 w1 n h => ⟨_, rfl, run_loadRow 72 (.tmp 12) g12 72 _ _ rfl (h.var n 12 (by kernel_rfl)) (Row.later r12 h.inv.1) Tryz.underlying72 rfl husz.out⟩⟩
        · exact .inl ⟨by kernel_rfl, fun L a1 w1 n h => ⟨_, rfl, run_move (.tmp 3) rfl (h.var n 3 (by kernel_rfl))⟩⟩
        · exact .inl ⟨by kernel_rfl, fun L a1 w1 n h => ⟨_, rfl, run_move (.tmp 4) rfl (h.var n 4 (by kernel_rfl))⟩⟩
        · refine .inr fun L a1 w1 n h K hK => ?_
          have y0 : a1.eval (.tmp 37) = kdR A1 n1 c1 := h.dep n 3 37 (by kernel_rfl) rfl
          have y1 : a1.eval (.tmp 38) = .agg us.toArray := h.dep n 4 38 (by kernel_rfl) rfl
          have y2 : a1.eval (.tmp 39) = .slice A m c := h.dep n 5 39 (by kernel_rfl) rfl
          have y3 : a1.eval (.tmp 40) = .slice E l d := h.dep n 6 40 (by kernel_rfl) rfl
          refine st_invoke 70 (.agg ([Value.slice A1 n1 c1]).toArray) (.agg ([Value.slice A1 n1 c1]).toArray) 134 (.tmp 37) _ #[.tmp 38, .tmp 39, .tmp 40] _ [.agg us.toArray, .slice A m c, .slice E l d] rfl y0 hmt Tryz.call134 (by simp only [List.map_toArray, List.map_cons, List.map_nil, y1, y2, y3]) (HOpen w1 h.inv.1) ?_
          rintro e wq ⟨v, rfl, hN, b9⟩
          exact ⟨_, rfl, JF.few (FOr_mono xs k) h hK 41 rfl _ trivial hN b9⟩
        · refine .inr fun L a1 w1 n h K hK => ?_
          obtain ⟨A9, c9, v9, h9⟩ := JF.get h n 7 41 (by kernel_rfl) (by kernel_rfl) rfl
          exact JF.run (FOr_mono xs k) h hK 42 rfl (.slice A9 xs.length c9) (run_extractA (v := .slice A9 xs.length c9) (.tmp 41) 0 _ rfl v9 rfl) trivial ⟨A9, c9, rfl, h9⟩
        · refine .inr fun L a1 w1 n h K hK => ?_
          obtain ⟨A9, c9, v9, h9⟩ := JF.get h n 7 41 (by kernel_rfl) (by kernel_rfl) rfl
          exact JF.run (FOr_mono xs k) h hK 43 rfl (.int .i64 k) (run_extractA (v := .int .i64 k) (.tmp 41) 1 _ rfl v9 rfl) trivial rfl
        · refine .inr fun L a1 w1 n h K hK => ?_
          obtain ⟨A9, c9, v9, h9⟩ := JF.get h n 8 42 (by kernel_rfl) (by kernel_rfl) rfl
          exact JF.run (FOr_mono xs k) h hK 10 rfl (.slice A9 xs.length c9) (run_assign (.tmp 42) rfl v9) trivial ⟨A9, c9, rfl, h9⟩
        · refine .inr fun L a1 w1 n h K hK => ?_
          obtain v9 := JF.get h n 9 43 (by kernel_rfl) (by kernel_rfl) rfl
          exact JF.run (FOr_mono xs k) h hK 11 rfl (.int .i64 k) (run_assign (.tmp 43) rfl v9) trivial rfl
      case he2 =>
        intro V w7 hV hJ
        have b7 := hJ.1
        obtain ⟨A9, c9, v9, h9, l9, m9⟩ := JF.last hJ 10 10 rfl rfl
        have v8 : V 11 = .int .i64 k := JF.last hJ 11 11 rfl rfl
        clear hV hJ
        simp only [putOps, List.setIfInBounds_toArray, List.set_cons_succ, List.set_cons_zero, Nat.reduceAdd]
        rw [v9, v8]
        go_wp2_with fail
        go_ret2
        exact ⟨_, rfl, ⟨A9, c9, rfl, h9, l9, m9⟩, B4.trans (b7.mono B4.size)⟩
end Go.Proofs.YtooooncmjhcdbaaGreatDoor

/-
  The law BoxForged: contract. Own work.
-/
namespace Go.Proofs.YtooooncmjhcdbaaGreatDoor
open Go.RowKit Go.Maps Go.ChangeMaps
theorem wg_build1B {P : Program} {ops : Array Oper} {rest : List Oper} {o : Oper} {a : Act} {w : World} {Q : Exit → Act → World → Prop} (g' : Nat) (b : Bool) (d' : Nat) (hg : o.guard = some (g', b)) (hd' : (ops[g']?).bind (·.dst) = some d') (hv : a.tmps[d']? = some (.bool b)) (t : TypeId) (x : Operand) (ho : o.op = .buildSlice t 1 #[(0, x)]) (e : TypeId) (i : TypeInfo) (z : Value) (M : List Value) (n : Nat) (ht : P.underlying t = some (.slice e)) (hi : P.info? e = some i) (hz : i.zero = some z) (hzs : z.cells.size = n) (hsz : i.size = n) (hl : M.length = n) (h0 : 0 < n) (hn : n ≤ 1000) (hx : a.eval x = .agg M.toArray)
    (hk : ∀ g w', Row w' e g M → w.heap.size ≤ g → g < w'.heap.size → Below w.heap.size w w' → wpList P ops Q rest (a.put o.dst (.slice (some ⟨g, 0, none⟩) 1 1)) w') : wpList P ops Q (o :: rest) a w :=
  wpList_guarded g' b d' hg hd' hv fun K hK => st_build1B t x ho e i z M n ht hi hz hzs hsz hl h0 hn hx fun g w' h1 h2 h3 h4 => hK _ _ (hk g w' h1 h2 h3 h4)
theorem actI : ∃ i, Tryz.prog.info? 27 = some i ∧ i.zero = some (.agg (BAct.cells ⟨0, ⟨0, 0, 0, 0, 0, 0⟩, 0, none, 0, 0, none, 0, 0, 0, 0, [], []⟩).toArray) ∧ i.size = 12 := by
  have h : (Tryz.prog.info? 27).map (fun i => (i.zero, i.size, i.bytes)) = some (some (.agg (BAct.cells ⟨0, ⟨0, 0, 0, 0, 0, 0⟩, 0, none, 0, 0, none, 0, 0, 0, 0, [], []⟩).toArray), 12, 120) := by kernel_rfl
  obtain ⟨i, h1, h2, h3, _⟩ := info_parts h
  exact ⟨i, h1, h2, h3⟩
theorem slI : ∃ i, Tryz.prog.info? 25 = some i ∧ i.zero = some (.slice none 0 0) ∧ i.size = 1 ∧ i.bytes = 24 := by
  have h : (Tryz.prog.info? 25).map (fun i => (i.zero, i.size, i.bytes)) = some (some (.slice none 0 0), 1, 24) := by kernel_rfl
  exact info_parts h
theorem szAct (a : BAct) : (Tryz.prog.info? 27).map (·.size) = some a.cells.length := by kernel_rfl
theorem one_act (a : BAct) : ∀ u ∈ a.cells, u.oneCell' = true := by
  intro u hu; simp at hu; rcases hu with rfl | rfl | rfl | rfl | rfl | rfl | rfl | rfl | rfl | rfl | rfl | rfl <;> rfl
theorem one_slB (A : Option Addr) (n c : Nat) : ∀ u ∈ [Value.slice A n c], u.oneCell' = true := by
  intro u hu; simp at hu; rw [hu]; rfl
theorem actC_one {w : World} {g : Nat} {a : BAct} (h : Row w 27 g a.cells) : ActC w (some ⟨g, 0, none⟩) 1 (fun _ => a) := fun _ => ⟨g, 0, rfl, fun j hj i v hv => by
  obtain rfl : j = 0 := by omega
  rw [show 0 + 0 * 12 + i = i by omega]
  exact h.cell hv⟩
def TldG (xs : List Int) (v : Value) (w : World) : Prop := TldV w v xs
def TlF (B g gl b : Nat) (k9 : Int) (xs9 : List Int) (ts9 : List SEn) (ms9 : List MEn) (v : Value) (w : World) : Prop := ∃ u, v = .tuple #[u, .int .i64 k9] ∧ TldV w u xs9 ∧ ∃ D', BxI w B g gl b D' ts9 ms9
def FFrg (B g gl b : Nat) (k9 : Int) (xs9 : List Int) (ts9 : List SEn) (ms9 : List MEn) (opn : Nat) (v : Value) (w : World) : Prop :=
  match opn with
  | 21 => TlF B g gl b k9 xs9 ts9 ms9 v w
  | 22 => TlF B g gl b k9 xs9 ts9 ms9 v w
  | 23 => TldG xs9 v w
  | 24 => IsF (.int .i64 k9) v w
  | 25 => TldG xs9 v w
  | 26 => IsF (.int .i64 k9) v w
  | _ => True

def SFrg (g b0 off n c0 i : Nat) (ids : List Value) (nn : Int) (A E : Option Addr) (m c l d : Nat) (opn : Nat) (v : Value) : Prop :=
  match opn with
  | 0 => v = .pointer (some ⟨g, 0, none⟩)
  | 1 | 6 | 11 | 16 => v = .slice (some ⟨b0, off, none⟩) n c0
  | 2 | 7 | 12 | 17 => v = .int .i64 (i : Int)
  | 3 | 8 | 13 | 18 => v = .pointer (some ⟨b0, off + i * 12, none⟩)
  | 4 => v = .pointer (some ⟨b0, off + i * 12 + 1, none⟩)
  | 5 => v = .agg ids.toArray
  | 9 => v = .pointer (some ⟨b0, off + i * 12 + 7, none⟩)
  | 10 => v = .int .i64 nn
  | 14 => v = .pointer (some ⟨b0, off + i * 12 + 8, none⟩)
  | 15 => v = .slice A m c
  | 19 => v = .pointer (some ⟨b0, off + i * 12 + 9, none⟩)
  | 20 => v = .slice E l d
  | _ => True

/-- A match. -/
def MatchF (f : Nat → BAct) (a : BAct) (tx hs : List Int) (xss : List (List Int)) (j : Nat) : Prop := (f j).q.l = a.q.l ∧ (f j).n = a.n ∧ (f j).ad = a.ad ∧ (f j).tx = tx ∧ xss[j]? = some hs
/-- What the second loop knows. -/
structure LqF (w wr : World) (g3 : Nat) (a : BAct) (tv : Value) (xss : List (List Int)) (T : Option Addr) (tc : Nat) (tx : List Int) (Hd : Option Addr) (hc : Nat) (hs : List Int) : Prop where
  told : Told wr w.heap.size tv xss
  act : Row wr 27 g3 a.cells
  bel : Below w.heap.size w wr
  bt : Bs wr wr.heap.size T tx.length tx
  bh : Bs wr wr.heap.size Hd hs.length hs
theorem LqF.later {w wr w' : World} {g3 : Nat} {a : BAct} {tv : Value} {xss : List (List Int)} {T : Option Addr} {tc : Nat} {tx : List Int} {Hd : Option Addr} {hc : Nat} {hs : List Int} (h : LqF w wr g3 a tv xss T tc tx Hd hc hs) (hb : Below wr.heap.size wr w') : LqF w w' g3 a tv xss T tc tx Hd hc hs :=
  ⟨h.told.later hb, Row.later h.act hb, h.bel.trans (hb.mono h.bel.size), h.bt.later hb, h.bh.later hb⟩
set_option maxRecDepth 100000 in
set_option maxHeartbeats 8000000 in
theorem boxForged_any (f : Nat → BAct) (a : BAct) (A0 : Option Addr) (n c0 : Nat) (w : World) (hT : TabK w) (hf : BActs w w.heap.size A0 n f) (ha : BOk w w.heap.size a) :
    Calls Tryz.prog 3 #[.slice A0 n c0, .agg a.cells.toArray] w fun e w' => e = .returned (.bool true) ∧ Below w.heap.size w w' := by
  obtain ⟨ia, hia, hza, hsa⟩ := actI
  obtain ⟨is, his, hzs, hss, hbs⟩ := slI
  have hTw := hide hT
  have hff := hide hf
  have haa := hide ha
  have hsza := hide (szAct a)
  have hcl := hide (show a.cells.length = 12 from rfl)
  obtain ⟨cs, hcs⟩ : ∃ cs, cs = a.cells := ⟨_, rfl⟩
  rw [← hcs] at hsza hcl ⊢
  have Hcs := hide hcs
  clear hT hf ha hcs
  go_enter Tryz.func3, Tryz.ntmps3
  go_wp2_with (first
    | (with_reducible refine wl_box (o := ⟨some 3, _, _, _, _, _⟩) rfl 27 (.tmp 1) _ cs rfl rfl rfl ?_; intro g3 w1 r1 p1 l1 b1))
  refine (few_any w1 A0 n c0 f 14 (hff.out.below b1).c (by decide)).mono ?_
  rintro e w' ⟨⟨q1, rfl, hq1⟩, rfl⟩
  cases q1 with
  | false =>
    go_wp2_with fail
    refine (bawake_any w1 (hTw.out.later b1)).mono ?_
    rintro e w2 ⟨rfl, b2⟩
    go_wp2_with fail
    go_ret
    exact ⟨rfl, b1.trans (b2.mono b1.size)⟩
  | true =>
    obtain ⟨hn14, hfew⟩ := hq1 rfl
    have hFew := hide hfew
    clear hq1 hfew
    go_wp2_with (first
      | (with_reducible refine wg_load_row 3 false 18 rfl rfl rfl 27 (.tmp 3) g3 27 cs _ rfl rfl r1 Tryz.underlying27 rfl hsza.out ?_)
      | (with_reducible refine wg_build1B 3 false 18 rfl rfl rfl 22 (.tmp 19) rfl 27 ia _ cs 12 Tryz.underlying22 hia hza rfl hsa hcl.out (by decide) (by decide) rfl ?_; intro g20 w2 r20 p20 l20 b20))
    have B2 := b1.trans (b20.mono b1.size)
    have r1 := r1.later b20
    refine (few_any w2 _ 1 1 (fun _ => a) 1 (actC_one (by rw [Hcs.out] at r20; exact r20)) (by decide)).mono ?_
    rintro e w' ⟨⟨q2, rfl, hq2⟩, rfl⟩
    cases q2 with
    | false =>
      go_wp2_with fail
      refine (bawake_any w2 (hTw.out.later B2)).mono ?_
      rintro e w3 ⟨rfl, b3⟩
      go_wp2_with fail
      go_ret
      exact ⟨rfl, B2.trans (b3.mono B2.size)⟩
    | true =>
      have hfa := hide ((hq2 rfl).2 0 (by decide))
      clear hq2 r20 p20 l20
      go_wp2_with fail
      refine (new_ideal w2 none 0 0 w.heap.size B2.size).mono ?_
      rintro e w3 ⟨g, gl, b, rfl, X3, b3⟩
      have B3 := B2.trans (b3.mono B2.size)
      have L3 : LpF w w3 g gl b g3 cs f 0 (.slice none 0 0) [] [] (.map []) := ⟨X3, Told.nil _ _, rfl, Nat.le_refl _, r1.later b3, B3, (fun s hs => by cases hs), (fun s hs => by cases hs), (fun j s hj => by simp at hj)⟩
      have hn14 : n ≤ 14 := by omega
      have hnI : (n : Int) ≤ 14 := by omega
      clear X3 r1 b1 b3 b20 B2 p1 l1
      go_wp2_with fail
      go_loopw [6, 7] (fun tv iv wr => ∃ (i : Nat) (xss : List (List Int)) (ts : List SEn) (D : DU), i ≤ n ∧ iv = .int .i64 i ∧ LpF w wr g gl b g3 cs f i tv xss ts D) (fun _ iv _ => n - (intOf iv).toNat)
      case atStart => exact ⟨0, [], [], .map [], by omega, rfl, L3⟩
      case round =>
        clear L3 B3
        obtain ⟨i, xss, ts, D, him, rfl, hL⟩ := hrel
        by_cases hi : i < n
        · have hL0 := hide hL
          clear hL
          obtain ⟨b0, off, rfl, hb0, hcc⟩ := (hff.out.below hL0.out.bel) (by omega)
          obtain ⟨hcell, hok⟩ := hcc i hi
          have hfw := hFew.out i hi
          have HOk := hide hok
          have HFw := hide hfw
          obtain ⟨vs, hown, hvs⟩ := hL0.out.told
          have HOwn := hide hown
          have HVs := hide hvs
          have hBr := hL0.out.bel.size
          obtain ⟨ids, hids⟩ : ∃ ids, ids = vk .i64 (f i).q.l := ⟨_, rfl⟩
          have hidz := hide (szKid (f i).q)
          have hin : isI (f i).n := hok.hn
          have hwi := hok
          obtain ⟨p, hp⟩ : ∃ p, p = f i := ⟨_, rfl⟩
          rw [← hp] at hids hidz hin hcell hok hfw
          have Hp := hide hp
          have hcl' : ∀ w1, TurnB w.heap.size wr w1 → ∀ k v, p.cells[k]? = some v → w1.cell? ⟨b0, off + i * 12 + k, none⟩ = some v := fun w1 ht k v hk => ((ht.below hBr).cell (p := ⟨b0, off + i * 12 + k, none⟩) hb0).trans (hcell k v hk)
          clear hp hcell hcc hwi
          obtain ⟨kd, q, nn, A, m, c, E, l, d, at_, by_, ad, tx⟩ := p
          dsimp only at hids hidz hin
          rw [← hids] at hidz
          have HC7 : ∀ w1, TurnB w.heap.size wr w1 → w1.cell? ⟨b0, off + i * 12 + 7, none⟩ = some (.int .i64 nn) := fun w1 ht => hcl' w1 ht 7 _ rfl
          have HC8 : ∀ w1, TurnB w.heap.size wr w1 → w1.cell? ⟨b0, off + i * 12 + 8, none⟩ = some (.slice A m c) := fun w1 ht => hcl' w1 ht 8 _ rfl
          have HC9 : ∀ w1, TurnB w.heap.size wr w1 → w1.cell? ⟨b0, off + i * 12 + 9, none⟩ = some (.slice E l d) := fun w1 ht => hcl' w1 ht 9 _ rfl
          have HI : ∀ w1, TurnB w.heap.size wr w1 → ∀ j v, ids[j]? = some v → w1.cell? ⟨b0, off + i * 12 + 1 + j, none⟩ = some v := fun w1 ht j v hj => by
            rw [hids] at hj
            have h6 := (List.getElem?_eq_some_iff.1 hj).1
            have := hcl' w1 ht (1 + j) v (by
              match j, h6 with
              | 0, _ => exact hj
              | 1, _ => exact hj
              | 2, _ => exact hj
              | 3, _ => exact hj
              | 4, _ => exact hj
              | 5, _ => exact hj)
            rw [← Nat.add_assoc] at this
            exact this
          have HSl0 : ∀ w1, Below wr.heap.size wr w1 → Calls Tryz.prog 10 #[.pointer (some ⟨g, 0, none⟩), .agg ids.toArray, .int .i64 nn, .slice A m c, .slice E l d] w1 fun e w' =>
              ∃ u, e = .returned (.tuple #[u, .int .i64 (slK q nn)]) ∧ TldV w' u (slX ts q nn tx) ∧ (∃ D', BxI w' w.heap.size g gl b D' (slT ts q nn ad tx) []) ∧ TurnB w.heap.size w1 w' := by
            intro w1 hb
            have hX := hL0.out.box.later hb
            have hbel := hL0.out.bel.trans (hb.mono hBr)
            have htl := hL0.out.tl
            rw [hids]
            exact (sealI w1 _ g gl b D ts [] q nn A E m c l d ad tx hX (hTw.out.later hbel) hok.hn (by omega) (by have := hfw.1; show m ≤ 65536; have h : m ≤ 300 := this; omega) (by have := hfw.2; show l ≤ 65536; have h : l ≤ 300 := this; omega) (bs_up (hok.had.below (hb.mono hBr)) (Nat.le_trans hBr hb.size)) (bs_up (hok.htx.below (hb.mono hBr)) (Nat.le_trans hBr hb.size)) (KpB.old hok.had) (KpB.old hok.htx)).mono fun e w' h => h.v hX
          obtain ⟨k9, hk9⟩ : ∃ k9, k9 = slK q nn := ⟨_, rfl⟩
          obtain ⟨xs9, hxs9⟩ : ∃ xs9, xs9 = slX ts q nn tx := ⟨_, rfl⟩
          obtain ⟨ts9, hts9⟩ : ∃ ts9, ts9 = slT ts q nn ad tx := ⟨_, rfl⟩
          rw [← hk9, ← hxs9, ← hts9] at HSl0
          have HSl := HSl0
          have Hx9 := hide hxs9
          have Ht9 := hide hts9
          have hxl := hL0.out.len
          have hx1 : xss.length + 1 ≤ maxLen := by simp only [maxLen]; omega
          have hx2 : (xss.length + 1) * 24 ≤ 140737488355328 := by omega
          clear hk9 hxs9 hts9 hcl' hown hvs hids hxl HSl0 hfw hok hin
          go_wp2_with fail
          rename_i K1 hK1
          refine wp_region_vals [21, 22, 23, 24, 25, 26] (SFrg g b0 off n c0 i ids nn A E m c l d) (JTu wr (TurnB w.heap.size) [21, 22, 23, 24, 25, 26] (FFrg w.heap.size g gl b k9 xs9 ts9 [])) (by kernel_rfl) (by kernel_rfl) (by kernel_rfl) (by kernel_rfl) (by kernel_rfl) (JTu.start _ (TurnB.of ((Below.refl _ _).drew))) ?obs1 ?he1
          case obs1 =>
            refine ⟨?_, ?_, ?_, ?_, ?_, ?_, ?_, ?_, ?_, ?_, ?_, ?_, ?_, ?_, ?_, ?_, ?_, ?_, ?_, ?_, ?_, ?_, ?_, ?_, ?_, ?_, ?_, trivial⟩
            · exact .inl ⟨by kernel_rfl, fun L a1 w1 n' h => ⟨_, rfl, run_move (.tmp 5) rfl (h.var n' 5 (by kernel_rfl))⟩⟩
            · exact .inl ⟨by kernel_rfl, fun L a1 w1 n' h => ⟨_, rfl, run_move (.tmp 0) rfl (h.var n' 0 (by kernel_rfl))⟩⟩
            · exact .inl ⟨by kernel_rfl, fun L a1 w1 n' h => ⟨_, rfl, run_move (.tmp 7) rfl (h.var n' 7 (by kernel_rfl))⟩⟩
            · exact .inl ⟨by kernel_rfl, fun L a1 w1 n' h => ⟨_, rfl, run_indexSn 22 (.tmp 34) (.tmp 35) 27 b0 off n c0 i 12 rfl Tryz.underlying22 Tryz.sizeOf27 (h.dep n' 1 34 (by kernel_rfl) rfl) (h.dep n' 2 35 (by kernel_rfl) rfl) hi⟩⟩
            · refine .inl ⟨by kernel_rfl, fun L a1 w1 n' h => ⟨.pointer (some ⟨b0, off + i * 12 + 1, none⟩), rfl, ?_⟩⟩
              have e0 : a1.eval (.tmp 36) = _ := h.dep n' 3 36 (by kernel_rfl) rfl
              unfold execOp
              simp only [e0]
              go_simp
            · exact .inl ⟨by kernel_rfl, fun L a1 w1 n' h => ⟨_, rfl, run_loadC 24 (.tmp 37) b0 (off + i * 12 + 1) ids _ rfl (h.dep n' 4 37 (by kernel_rfl) rfl) (HI w1 h.inv.1) Tryz.underlying24 rfl hidz.out⟩⟩
            · exact .inl ⟨by kernel_rfl, fun L a1 w1 n' h => ⟨_, rfl, run_move (.tmp 0) rfl (h.var n' 0 (by kernel_rfl))⟩⟩
            · exact .inl ⟨by kernel_rfl, fun L a1 w1 n' h => ⟨_, rfl, run_move (.tmp 7) rfl (h.var n' 7 (by kernel_rfl))⟩⟩
            · exact .inl ⟨by kernel_rfl, fun L a1 w1 n' h => ⟨_, rfl, run_indexSn 22 (.tmp 39) (.tmp 40) 27 b0 off n c0 i 12 rfl Tryz.underlying22 Tryz.sizeOf27 (h.dep n' 6 39 (by kernel_rfl) rfl) (h.dep n' 7 40 (by kernel_rfl) rfl) hi⟩⟩
            · refine .inl ⟨by kernel_rfl, fun L a1 w1 n' h => ⟨.pointer (some ⟨b0, off + i * 12 + 7, none⟩), rfl, ?_⟩⟩
              have e0 : a1.eval (.tmp 41) = _ := h.dep n' 8 41 (by kernel_rfl) rfl
              unfold execOp
              simp only [e0]
              go_simp
            · exact .inl ⟨by kernel_rfl, fun L a1 w1 n' h => ⟨_, rfl, run_loadA 3 (.tmp 42) ⟨b0, off + i * 12 + 7, none⟩ rfl Tryz.isAgg3 (h.dep n' 9 42 (by kernel_rfl) rfl) (HC7 w1 h.inv.1)⟩⟩
            · exact .inl ⟨by kernel_rfl, fun L a1 w1 n' h => ⟨_, rfl, run_move (.tmp 0) rfl (h.var n' 0 (by kernel_rfl))⟩⟩
            · exact .inl ⟨by kernel_rfl, fun L a1 w1 n' h => ⟨_, rfl, run_move (.tmp 7) rfl (h.var n' 7 (by kernel_rfl))⟩⟩
            · exact .inl ⟨by kernel_rfl, fun L a1 w1 n' h => ⟨_, rfl, run_indexSn 22 (.tmp 44) (.tmp 45) 27 b0 off n c0 i 12 rfl Tryz.underlying22 Tryz.sizeOf27 (h.dep n' 11 44 (by kernel_rfl) rfl) (h.dep n' 12 45 (by kernel_rfl) rfl) hi⟩⟩
            · refine .inl ⟨by kernel_rfl, fun L a1 w1 n' h => ⟨.pointer (some ⟨b0, off + i * 12 + 8, none⟩), rfl, ?_⟩⟩
              have e0 : a1.eval (.tmp 46) = _ := h.dep n' 13 46 (by kernel_rfl) rfl
              unfold execOp
              simp only [e0]
              go_simp
            · exact .inl ⟨by kernel_rfl, fun L a1 w1 n' h => ⟨_, rfl, run_loadA 25 (.tmp 47) ⟨b0, off + i * 12 + 8, none⟩ rfl Tryz.isAgg25 (h.dep n' 14 47 (by kernel_rfl) rfl) (HC8 w1 h.inv.1)⟩⟩
            · exact .inl ⟨by kernel_rfl, fun L a1 w1 n' h => ⟨_, rfl, run_move (.tmp 0) rfl (h.var n' 0 (by kernel_rfl))⟩⟩
            · exact .inl ⟨by kernel_rfl, fun L a1 w1 n' h => ⟨_, rfl, run_move (.tmp 7) rfl (h.var n' 7 (by kernel_rfl))⟩⟩
            · exact .inl ⟨by kernel_rfl, fun L a1 w1 n' h => ⟨_, rfl, run_indexSn 22 (.tmp 49) (.tmp 50) 27 b0 off n c0 i 12 rfl Tryz.underlying22 Tryz.sizeOf27 (h.dep n' 16 49 (by kernel_rfl) rfl) (h.dep n' 17 50 (by kernel_rfl) rfl) hi⟩⟩
            · refine .inl ⟨by kernel_rfl, fun L a1 w1 n' h => ⟨.pointer (some ⟨b0, off + i * 12 + 9, none⟩), rfl, ?_⟩⟩
              have e0 : a1.eval (.tmp 51) = _ := h.dep n' 18 51 (by kernel_rfl) rfl
              unfold execOp
              simp only [e0]
              go_simp
            · exact .inl ⟨by kernel_rfl, fun L a1 w1 n' h => ⟨_, rfl, run_loadA 25 (.tmp 52) ⟨b0, off + i * 12 + 9, none⟩ rfl Tryz.isAgg25 (h.dep n' 19 52 (by kernel_rfl) rfl) (HC9 w1 h.inv.1)⟩⟩
            · refine .inr fun L a1 w1 n' h K hK => ?_
              have no : L.getD 21 false = false := n'.not_yet
              have b1 := h.inv.2.1 ((bits_at rfl).trans no)
              have e0 : a1.eval (.tmp 33) = .pointer (some ⟨g, 0, none⟩) := h.dep n' 0 33 (by kernel_rfl) rfl
              have e1 : a1.eval (.tmp 38) = .agg ids.toArray := h.dep n' 5 38 (by kernel_rfl) rfl
              have e2 : a1.eval (.tmp 43) = .int .i64 nn := h.dep n' 10 43 (by kernel_rfl) rfl
              have e3 : a1.eval (.tmp 48) = .slice A m c := h.dep n' 15 48 (by kernel_rfl) rfl
              have e4 : a1.eval (.tmp 53) = .slice E l d := h.dep n' 20 53 (by kernel_rfl) rfl
              refine JTu.call h n' (fun hx hy => TurnB.trans hx hy) hK rfl (by kernel_rfl) 54 rfl 10 _ _ #[.pointer (some ⟨g, 0, none⟩), .agg ids.toArray, .int .i64 nn, .slice A m c, .slice E l d] rfl Tryz.call10 ?_ (HSl w1 b1) ?_
              · simp only [List.map_toArray, List.map_cons, List.map_nil, e0, e1, e2, e3, e4]
              · rintro e w3 ⟨u, rfl, hu, hX, hT⟩
                exact ⟨_, rfl, trivial, ⟨u, rfl, hu, hX⟩, hT⟩
            · refine .inr fun L a1 w1 n' h K hK => ?_
              obtain ⟨u, hv, hu, hX⟩ := JTu.get h n' 21 54 (by kernel_rfl) (by kernel_rfl) rfl
              exact JTu.run h n' hK 32 rfl (.tuple #[u, .int .i64 k9]) (run_move (.tmp 54) rfl hv) trivial (⟨u, rfl, hu, hX⟩) 21 rfl (by decide)
            · refine .inr fun L a1 w1 n' h K hK => ?_
              obtain ⟨u, hv, hu, hX⟩ := JTu.get h n' 22 32 (by kernel_rfl) (by kernel_rfl) rfl
              exact JTu.run h n' hK 55 rfl (u) (run_extractA (v := u) (.tmp 32) 0 _ rfl hv rfl) trivial (hu) 21 rfl (by decide)
            · refine .inr fun L a1 w1 n' h K hK => ?_
              obtain ⟨u, hv, hu, hX⟩ := JTu.get h n' 22 32 (by kernel_rfl) (by kernel_rfl) rfl
              exact JTu.run h n' hK 56 rfl (.int .i64 k9) (run_extractA (v := .int .i64 k9) (.tmp 32) 1 _ rfl hv rfl) trivial (rfl) 21 rfl (by decide)
            · refine .inr fun L a1 w1 n' h K hK => ?_
              obtain hu := JTu.get h n' 23 55 (by kernel_rfl) (by kernel_rfl) rfl
              exact JTu.run h n' hK 8 rfl (_) (run_assign (.tmp 55) rfl rfl) trivial (hu) 21 rfl (by decide)
            · refine .inr fun L a1 w1 n' h K hK => ?_
              obtain hv := JTu.get h n' 24 56 (by kernel_rfl) (by kernel_rfl) rfl
              exact JTu.run h n' hK 9 rfl (.int .i64 k9) (run_assign (.tmp 56) rfl hv) trivial (rfl) 21 rfl (by decide)
          case he1 =>
            intro V w8 hV hJ
            have hTr : TurnB w.heap.size wr w8 := hJ.1
            obtain ⟨u, _, _, D8, hX8⟩ := JTu.last hJ 21 54 rfl rfl
            have hu8 : TldV w8 (V 25) xs9 := JTu.last hJ 25 8 rfl rfl
            clear hV hJ
            simp only [putOps, List.setIfInBounds_toArray, List.set_cons_succ, List.set_cons_zero, Nat.reduceAdd]
            refine hK1 _ _ ?_
            have Hu8 := hide hu8
            obtain ⟨A9, c9, hsv, _, _⟩ := hu8
            have Hsv := hide hsv
            rw [hsv]
            clear hsv
            generalize V 21 = z21
            generalize V 22 = z22
            generalize V 23 = z23
            generalize V 24 = z24
            generalize V 26 = z26
            have hBw : w.heap.size ≤ w8.heap.size := Nat.le_trans hBr hTr.size
            have hown8 := own_turn HOwn.out hTr notBoxTy
            have Hown8 := hide hown8
            have hvs8 := fun (i : Nat) (xs : List Int) (hx : xss[i]? = some xs) => (let ⟨u, hu, ht⟩ := HVs.out i xs hx; ⟨u, hu, ht.turn hTr⟩ : ∃ u : Value, vs[i]? = some u ∧ TldV w8 u xs)
            have Hvs8 := hide hvs8
            have HTr := hide hTr
            have HX8 := hide hX8
            obtain ⟨ln, hln⟩ : ∃ ln, ln = xs9.length := ⟨_, rfl⟩
            rw [← hln]
            have Hln := hide hln
            clear hown8 hvs8 hTr hX8 HSl HI HC7 HC8 HC9 hln
            go_wp2_with (first
              | ((with_reducible refine wl_build1 rfl 32 (.tmp 58) rfl 25 is (.slice none 0 0) (.slice A9 ln c9) Tryz.underlying32 his hzs hss rfl rfl rfl ?_); intro g5 w5 r5 p5 q5 b5; have hown5 := own_later Hown8.out b5)
              | ((at_builtin; with_reducible refine wl_append_at rfl (.tmp 57) (.tmp 59) 32 rfl w.heap.size 25 is (.slice none 0 0) 1 24 Tryz.underlying32 his hzs hss hbs rfl (by decide) u6 xss.length vs rfl hown5 ⟨g5, 0, none⟩ 1 1 [.slice A9 ln c9] rfl rfl (row_src r5) (one_slB _ _ _) hx1 hx2 (Nat.le_trans hBw b5.size) ?_); intro v6 w6 hown6 hg6 hloc6))
            go_roundw
            case rel =>
              refine ⟨i + 1, _, _, D8, by omega, by go_num, LpF.step (u := .slice A9 ln c9) hL0.out HFw.out HOk.out HTr.out ?_ ?_ b5 hown5 (fun i xs hx => let ⟨u, hu, ht⟩ := Hvs8.out i xs hx; ⟨u, hu, ht.later b5⟩) hown6 hg6⟩
              · rw [← Hp.out]; exact Ht9.out ▸ HX8.out
              · rw [← Hp.out, Hln.out, ← Hsv.out]; exact Hx9.out ▸ Hu8.out
            case measure => simp [intOf]; omega
        · obtain rfl : i = n := by omega
          clear hi him
          have HL := hide hL
          have hB4 := hide hL.bel
          have HP := pick_any wr w.heap.size u6 xss a hL.told (by rw [hL.len]; exact hn14) hL.xg ⟨bs_up (haa.out.had.below hL.bel) hL.bel.size, haa.out.hadb, bs_up (haa.out.htx.below hL.bel) hL.bel.size, haa.out.htxb, haa.out.hmc, haa.out.hld, haa.out.hq, haa.out.hn, haa.out.hat, haa.out.hby⟩ hfa.out.2
          rw [← Hcs.out] at HP
          have r3 := hL.act
          have HPk := hide HP
          clear hL HP
          go_wp2_with (first
            | (with_reducible refine wl_load_row (o := ⟨some 62, _, _, _, _, _⟩) rfl 27 (.tmp 3) g3 27 cs _ rfl rfl r3 Tryz.underlying27 rfl hsza.out ?_))
          refine HPk.out.mono ?_
          rintro e w5 ⟨Hd, hc, hs, rfl, hbs5, hby5, hsl, b5⟩
          have X5 := HL.out.box.later b5
          have B5 := hB4.out.trans (b5.mono hB4.out.size)
          have r5 := r3.later b5
          have ha7 : Hid (cs[7]? = some (.int .i64 a.n)) := hide (by rw [Hcs.out]; rfl)
          have ha8 : Hid (cs[8]? = some (.slice a.A a.m a.c)) := hide (by rw [Hcs.out]; rfl)
          obtain ⟨ida, hida0⟩ : ∃ ida, ida = vk .i64 a.q.l := ⟨_, rfl⟩
          have Hida := hide hida0
          have hida := hide (szKid a.q)
          rw [← hida0] at hida
          have hsA : Hid (∀ wx, Row wx 27 g3 cs → Row wx 27 g3 ([.int .u8 a.k] ++ (ida ++ BAct.rest a))) := hide (fun wx h => by rw [hida0]; rw [Hcs.out] at h; exact h)
          clear hida0 r3
          have rA5 := hsA.out w5 r5
          have e7 := r5.cell ha7.out
          have e8 := r5.cell ha8.out
          have HOp := openI w5 w.heap.size g gl b D ts [] a.q a.n a.A Hd a.m a.c hs.length hc a.ad hs X5 (hTw.out.later B5) haa.out.hn (by have := HL.out.tl; omega) (fun s hs => by have := (HL.out.good s hs).1; omega) (fun s hs => (HL.out.good s hs).2) (by have := hfa.out.1; omega) (by omega) (bs_up (haa.out.had.below B5) B5.size) haa.out.hadb hbs5 hby5
          rw [← Hida.out] at HOp
          have HOpn := hide HOp
          clear HOp
          go_wp2_with (first
            | (with_reducible refine wl_load_part (o := ⟨some 67, _, _, _, _, _⟩) rfl 24 (.tmp 66) g3 1 27 [.int .u8 a.k] ida (BAct.rest a) _ rfl rfl rA5 rfl Tryz.underlying24 rfl hida.out ?_))
          refine HOpn.out.mono ?_
          rintro e w6 ⟨v, rfl, ⟨T, tc, rfl, hbt6, htl6, hty6⟩, b6⟩
          have B6 := B5.trans (b6.mono B5.size)
          have hOk := @opn_ok ts a.q a.n a.ad hs hs.length
          have hNo := @opn_no a.q a.n hs.length (opT ts a.q a.n a.ad hs)
          generalize opnX a.q a.n hs.length (opT ts a.q a.n a.ad hs) = tx at *
          generalize opnE a.q a.n hs.length (opT ts a.q a.n a.ad hs) = er at *
          clear HOpn HPk
          by_cases he : er = 0
          case neg =>
            obtain rfl : tx = [] := hNo he
            have he1 : (er == 0) = false := by simp [he]
            have he2 : decide (er = 0) = false := by simp [he]
            clear hOk hNo
            go_wp2_with fail
            refine (bawake_any w6 (hTw.out.later B6)).mono ?_
            rintro e w7 ⟨rfl, b7⟩
            go_wp2_with fail
            go_ret
            exact ⟨rfl, B6.trans (b7.mono B6.size)⟩
          case pos =>
            obtain ⟨j0, s0, hj0, h01, h02, h03, h04, h05⟩ := hOk he
            subst he
            obtain ⟨k0, hk0, k1, k2, k3, k4, k5⟩ := HL.out.rel j0 s0 hj0
            have hEx : Hid (∃ k, k < i ∧ MatchF f a tx hs xss k) := hide ⟨k0, hk0, k1.trans h01, k2.trans h02, k3.trans h03, k4.trans h05.symm, by rw [h04]; exact k5⟩
            have htb : Hid (IsBy tx) := hide (by rw [h05]; exact (HL.out.good s0 (List.mem_of_getElem? hj0)).2.1)
            have Hlen := hide HL.out.len
            have hxg := hide HL.out.xg
            have Q6 : LqF w w6 g3 a u6 xss T tc tx Hd hc hs := ⟨(HL.out.told.later b5).later b6, by rw [← Hcs.out]; exact r5.later b6, B6, hbt6, hbs5.later b6⟩
            clear hOk hNo hj0 h01 h02 h03 h04 h05 hk0 k1 k2 k3 k4 k5 r5 rA5 e7 e8 X5 hbt6 hbs5 HL hB4 B5
            have Hby := hide hby5
            clear hby5
            go_wp2_with fail
            go_loopw [13] (fun iv wr2 => ∃ i2 : Nat, i2 ≤ i ∧ iv = .int .i64 i2 ∧ LqF w wr2 g3 a u6 xss T tc tx Hd hc hs ∧ ∀ j, j < i2 → ¬ MatchF f a tx hs xss j) (fun iv _ => i - (intOf iv).toNat)
            case atStart => exact ⟨0, by omega, rfl, Q6, fun j hj => absurd hj (by omega)⟩
            case round =>
              clear Q6 B6
              obtain ⟨i2, hi2, rfl, hQ, hN⟩ := hrel
              by_cases hii : i2 < i
              · have hQ2 := hide hQ
                have hN2 := hide hN
                clear hQ hN
                obtain ⟨b0, off, rfl, hb0, hcc⟩ := (hff.out.below hQ2.out.bel) (by omega)
                obtain ⟨hcell, hok⟩ := hcc i2 hii
                clear hcc
                obtain ⟨gt, ct, ut, rfl, htc, A9, c9, rfl, hb9, ht9⟩ := hQ2.out.told.at (i := i2) (xs := xss[i2]'(by have := Hlen.out; omega)) (List.getElem?_eq_getElem (by have := Hlen.out; omega))
                have hx9 := hide (hxg.out _ (List.getElem_mem (show i2 < xss.length by have := Hlen.out; omega))).2
                have hxe : Hid (xss[i2]? = some (xss[i2]'(by have := Hlen.out; omega))) := hide (List.getElem?_eq_getElem (by have := Hlen.out; omega))
                generalize xss[i2]'(by have := Hlen.out; omega) = x9 at *
                obtain ⟨p, hp⟩ : ∃ p, p = f i2 := ⟨_, rfl⟩
                rw [← hp] at hcell hok
                have Hp := hide hp
                clear hp
                have hBr := hQ2.out.bel.size
                have HBp : Hid (∀ wx, Below wr.heap.size wr wx → Bs wx wx.heap.size p.A p.m p.ad) := hide (fun wx hb => (bs_up hok.had hBr).later hb)
                have HBt : Hid (∀ wx, Below wr.heap.size wr wx → Bs wx wx.heap.size p.E p.l p.tx) := hide (fun wx hb => (bs_up hok.htx hBr).later hb)
                have HBa : Hid (∀ wx, Below wr.heap.size wr wx → Bs wx wx.heap.size a.A a.m a.ad) := hide (fun wx hb => (bs_up (haa.out.had.below hQ2.out.bel) hBr).later hb)
                have HB9 : Hid (∀ wx, Below wr.heap.size wr wx → Bs wx wx.heap.size A9 x9.length x9) := hide (fun wx hb => hb9.later hb)
                have hpb := hide hok.hadb
                have hpt := hide hok.htxb
                have hszp := hide (szAct p)
                have hone := hide (one_act p)
                have hp7 : Hid (p.cells[7]? = some (.int .i64 p.n)) := hide rfl
                have hp8 : Hid (p.cells[8]? = some (.slice p.A p.m p.c)) := hide rfl
                have hp9 : Hid (p.cells[9]? = some (.slice p.E p.l p.d)) := hide rfl
                obtain ⟨idp, hidp0⟩ : ∃ idp, idp = vk .i64 p.q.l := ⟨_, rfl⟩
                have hidp := hide (szKid p.q)
                rw [← hidp0] at hidp
                have hsP : Hid (∀ wx gx, Row wx 27 gx p.cells → Row wx 27 gx ([.int .u8 p.k] ++ (idp ++ BAct.rest p))) := hide (fun wx gx h => by rw [hidp0]; exact h)
                obtain ⟨QB, hQB⟩ : ∃ QB, QB = decide (p.q.l = a.q.l) := ⟨_, rfl⟩
                have hEq : ∀ wx, (Op.equalIn 10000 24 (.agg idp.toArray) (.agg ida.toArray)).run Tryz.prog wx = .ok QB wx := fun wx => by rw [hidp0, Hida.out, hQB]; exact eqIdD 9998 p.q a.q wx
                obtain ⟨zc, hzc⟩ : ∃ zc : List Value, zc = BAct.cells ⟨0, ⟨0, 0, 0, 0, 0, 0⟩, 0, none, 0, 0, none, 0, 0, 0, 0, [], []⟩ := ⟨_, rfl⟩
                have hz0 : (Tryz.prog.info? 27).map (fun i => i.zero) = some (some (.agg zc.toArray)) := by rw [hia, hzc]; exact congrArg some hza
                have hlzp : Hid (zc.length = p.cells.length) := hide (by rw [hzc]; rfl)
                clear hzc hidp0 hok hb9 ht9
                obtain ⟨pc, hpc⟩ : ∃ pc, pc = p.cells := ⟨_, rfl⟩
                rw [← hpc] at hcell hszp hone hp7 hp8 hp9 hsP hlzp
                clear hpc
                have HQB := hide hQB
                clear hQB
                have hsA2 : Hid (∀ wx, Row wx 27 g3 a.cells → Row wx 27 g3 ([.int .u8 a.k] ++ (ida ++ BAct.rest a))) := hide (fun wx h => hsA.out wx (by rw [Hcs.out]; exact h))
                have ha7b : Hid (a.cells[7]? = some (.int .i64 a.n)) := hide rfl
                have ha8b : Hid (a.cells[8]? = some (.slice a.A a.m a.c)) := hide rfl
                have hxi : (i2 : Int) < (xss.length : Int) := by have := Hlen.out; omega
                have hxn : i2 < xss.length := by have := Hlen.out; omega
                cases QB with
                | false =>
                  have hno : Hid (¬ MatchF f a tx hs xss i2) := hide (fun hm => by have h := hm.1; rw [← Hp.out] at h; exact of_decide_eq_false HQB.out.symm h)
                  go_wp2_with (first
                  | (with_reducible refine wl_load_cells (o := ⟨some 93, _, _, _, _, _⟩) rfl 27 (.tmp 92) b0 (off + i2 * 12) pc _ rfl rfl hcell Tryz.underlying27 rfl hszp.out ?_)
                  | (with_reducible refine wl_alloc (o := ⟨some 14, _, _, _, _, _⟩) rfl 27 _ zc rfl hz0 rfl ?_; intro g14 w14 r14 p14 l14 b14a)
                  | (with_reducible refine wl_store_row rfl 27 (.tmp 14) (.tmp 93) g14 27 _ pc rfl rfl rfl r14 hszp.out hlzp.out hone.out ?_; intro w15 r15 o15; have b14 := b14a.trans (o15.below p14); have hq := hQ2.out.later b14; have hact := hq.act; have rA : Row w15 27 g3 ([.int .u8 a.k] ++ (ida ++ BAct.rest a)) := hsA2.out w15 hact; have rP : Row w15 27 g14 ([.int .u8 p.k] ++ (idp ++ BAct.rest p)) := hsP.out w15 g14 r15; have htc5 := (b14.cell (p := ⟨gt, i2, none⟩) (block_lt_of_cell htc)).trans htc; have d7 := r15.cell hp7.out; have d8 := r15.cell hp8.out; have d9 := r15.cell hp9.out; have e7 := hact.cell ha7b.out; have e8 := hact.cell ha8b.out)
                  | (with_reducible refine wl_load_part (o := ⟨some 95, _, _, _, _, _⟩) rfl 24 (.tmp 94) g14 1 27 [.int .u8 p.k] idp (BAct.rest p) _ rfl rfl rP rfl Tryz.underlying24 rfl hidp.out ?_)
                  | (with_reducible refine wl_load_part (o := ⟨some 97, _, _, _, _, _⟩) rfl 24 (.tmp 96) g3 1 27 [.int .u8 a.k] ida (BAct.rest a) _ rfl rfl rA rfl Tryz.underlying24 rfl hida.out ?_)
                  | (refine wl_run (o := ⟨some 98, _, _, _, _, _⟩) rfl (.bool false) (run_eqlS' (.tmp 95) (.tmp 97) rfl hEq rfl rfl (by kernel_rfl)) ?_))
                  go_roundw
                  case rel => exact ⟨i2 + 1, by omega, by go_num, hQ2.out.later b14, fun j hj => by
                    by_cases hji : j = i2
                    · rw [hji]; exact hno.out
                    · exact hN2.out j (by omega)⟩
                  case measure => simp [intOf]; omega
                | true =>
                  by_cases hn : p.n = a.n
                  case neg =>
                    have hno : Hid (¬ MatchF f a tx hs xss i2) := hide (fun hm => by have h := hm.2.1; rw [← Hp.out] at h; exact hn h)
                    have hn1 : (p.n == a.n) = false := by simp [hn]
                    have hn2 : decide (p.n = a.n) = false := by simp [hn]
                    go_wp2_with (first
                  | (with_reducible refine wl_load_cells (o := ⟨some 93, _, _, _, _, _⟩) rfl 27 (.tmp 92) b0 (off + i2 * 12) pc _ rfl rfl hcell Tryz.underlying27 rfl hszp.out ?_)
                  | (with_reducible refine wl_alloc (o := ⟨some 14, _, _, _, _, _⟩) rfl 27 _ zc rfl hz0 rfl ?_; intro g14 w14 r14 p14 l14 b14a)
                  | (with_reducible refine wl_store_row rfl 27 (.tmp 14) (.tmp 93) g14 27 _ pc rfl rfl rfl r14 hszp.out hlzp.out hone.out ?_; intro w15 r15 o15; have b14 := b14a.trans (o15.below p14); have hq := hQ2.out.later b14; have hact := hq.act; have rA : Row w15 27 g3 ([.int .u8 a.k] ++ (ida ++ BAct.rest a)) := hsA2.out w15 hact; have rP : Row w15 27 g14 ([.int .u8 p.k] ++ (idp ++ BAct.rest p)) := hsP.out w15 g14 r15; have htc5 := (b14.cell (p := ⟨gt, i2, none⟩) (block_lt_of_cell htc)).trans htc; have d7 := r15.cell hp7.out; have d8 := r15.cell hp8.out; have d9 := r15.cell hp9.out; have e7 := hact.cell ha7b.out; have e8 := hact.cell ha8b.out)
                  | (with_reducible refine wl_load_part (o := ⟨some 95, _, _, _, _, _⟩) rfl 24 (.tmp 94) g14 1 27 [.int .u8 p.k] idp (BAct.rest p) _ rfl rfl rP rfl Tryz.underlying24 rfl hidp.out ?_)
                  | (with_reducible refine wl_load_part (o := ⟨some 97, _, _, _, _, _⟩) rfl 24 (.tmp 96) g3 1 27 [.int .u8 a.k] ida (BAct.rest a) _ rfl rfl rA rfl Tryz.underlying24 rfl hida.out ?_)
                  | (refine wl_run (o := ⟨some 98, _, _, _, _, _⟩) rfl (.bool true) (run_eqlS' (.tmp 95) (.tmp 97) rfl hEq rfl rfl (by kernel_rfl)) ?_))
                    go_roundw
                    case rel => exact ⟨i2 + 1, by omega, by go_num, hQ2.out.later b14, fun j hj => by
                      by_cases hji : j = i2
                      · rw [hji]; exact hno.out
                      · exact hN2.out j (by omega)⟩
                    case measure => simp [intOf]; omega
                  case pos =>
                    have hn1 : (p.n == a.n) = true := by simp [hn]
                    have hn2 : decide (p.n = a.n) = true := by simp [hn]
                    go_wp2_with (first
                  | (with_reducible refine wl_load_cells (o := ⟨some 93, _, _, _, _, _⟩) rfl 27 (.tmp 92) b0 (off + i2 * 12) pc _ rfl rfl hcell Tryz.underlying27 rfl hszp.out ?_)
                  | (with_reducible refine wl_alloc (o := ⟨some 14, _, _, _, _, _⟩) rfl 27 _ zc rfl hz0 rfl ?_; intro g14 w14 r14 p14 l14 b14a)
                  | (with_reducible refine wl_store_row rfl 27 (.tmp 14) (.tmp 93) g14 27 _ pc rfl rfl rfl r14 hszp.out hlzp.out hone.out ?_; intro w15 r15 o15; have b14 := b14a.trans (o15.below p14); have hq := hQ2.out.later b14; have hact := hq.act; have rA : Row w15 27 g3 ([.int .u8 a.k] ++ (ida ++ BAct.rest a)) := hsA2.out w15 hact; have rP : Row w15 27 g14 ([.int .u8 p.k] ++ (idp ++ BAct.rest p)) := hsP.out w15 g14 r15; have htc5 := (b14.cell (p := ⟨gt, i2, none⟩) (block_lt_of_cell htc)).trans htc; have d7 := r15.cell hp7.out; have d8 := r15.cell hp8.out; have d9 := r15.cell hp9.out; have e7 := hact.cell ha7b.out; have e8 := hact.cell ha8b.out)
                  | (with_reducible refine wl_load_part (o := ⟨some 95, _, _, _, _, _⟩) rfl 24 (.tmp 94) g14 1 27 [.int .u8 p.k] idp (BAct.rest p) _ rfl rfl rP rfl Tryz.underlying24 rfl hidp.out ?_)
                  | (with_reducible refine wl_load_part (o := ⟨some 97, _, _, _, _, _⟩) rfl 24 (.tmp 96) g3 1 27 [.int .u8 a.k] ida (BAct.rest a) _ rfl rfl rA rfl Tryz.underlying24 rfl hida.out ?_)
                  | (refine wl_run (o := ⟨some 98, _, _, _, _, _⟩) rfl (.bool true) (run_eqlS' (.tmp 95) (.tmp 97) rfl hEq rfl rfl (by kernel_rfl)) ?_))
                    have HE := equal_any p.A a.A p.m a.m p.c a.c p.ad a.ad w15 (HBp.out w15 b14) (HBa.out w15 b14)
                    rw [beq_by hpb.out haa.out.hadb] at HE
                    refine HE.mono ?_
                    rintro e w' ⟨rfl, rfl⟩
                    clear HE
                    by_cases hd : p.ad = a.ad
                    case neg =>
                      have hno : Hid (¬ MatchF f a tx hs xss i2) := hide (fun hm => by have h := hm.2.2.1; rw [← Hp.out] at h; exact hd h)
                      rw [decide_eq_false hd]
                      go_wp2_with fail
                      go_roundw
                      case rel => exact ⟨i2 + 1, by omega, by go_num, hQ2.out.later b14, fun j hj => by
                        by_cases hji : j = i2
                        · rw [hji]; exact hno.out
                        · exact hN2.out j (by omega)⟩
                      case measure => simp [intOf]; omega
                    case pos =>
                      rw [decide_eq_true hd]
                      go_wp2_with fail
                      have HE := equal_any p.E T p.l tx.length p.d tc p.tx tx w15 (HBt.out w15 b14) hq.bt
                      rw [beq_by hpt.out htb.out] at HE
                      refine HE.mono ?_
                      rintro e w' ⟨rfl, rfl⟩
                      clear HE
                      by_cases ht : p.tx = tx
                      case neg =>
                        have hno : Hid (¬ MatchF f a tx hs xss i2) := hide (fun hm => by have h := hm.2.2.2.1; rw [← Hp.out] at h; exact ht h)
                        rw [decide_eq_false ht]
                        go_wp2_with fail
                        go_roundw
                        case rel => exact ⟨i2 + 1, by omega, by go_num, hQ2.out.later b14, fun j hj => by
                          by_cases hji : j = i2
                          · rw [hji]; exact hno.out
                          · exact hN2.out j (by omega)⟩
                        case measure => simp [intOf]; omega
                      case pos =>
                        rw [decide_eq_true ht]
                        go_wp2_with fail
                        have HE := equal_any A9 Hd x9.length hs.length c9 hc x9 hs w15 (HB9.out w15 b14) hq.bh
                        rw [beq_by hx9.out Hby.out] at HE
                        refine HE.mono ?_
                        rintro e w' ⟨rfl, rfl⟩
                        clear HE
                        by_cases hh : x9 = hs
                        case neg =>
                          have hno : Hid (¬ MatchF f a tx hs xss i2) := hide (fun hm => by have h := hm.2.2.2.2; rw [hxe.out] at h; exact hh (Option.some.inj h))
                          rw [decide_eq_false hh]
                          go_wp2_with fail
                          go_roundw
                          case rel => exact ⟨i2 + 1, by omega, by go_num, hQ2.out.later b14, fun j hj => by
                            by_cases hji : j = i2
                            · rw [hji]; exact hno.out
                            · exact hN2.out j (by omega)⟩
                          case measure => simp [intOf]; omega
                        case pos =>
                          rw [decide_eq_true hh]
                          go_wp2_with fail
                          refine (bawake_any w15 (hTw.out.later hq.bel)).mono ?_
                          rintro e w20 ⟨rfl, b20⟩
                          go_wp2_with fail
                          go_ret
                          exact ⟨rfl, hq.bel.trans (b20.mono hq.bel.size)⟩
              · obtain rfl : i2 = i := by omega
                exfalso
                obtain ⟨k, hk, hm⟩ := hEx.out
                exact hN k hk hm
end Go.Proofs.YtooooncmjhcdbaaGreatDoor

/-
  The law BoxReal: contract. Own work.
-/
namespace Go.Proofs.YtooooncmjhcdbaaGreatDoor
open Go.RowKit Go.Maps Go.ChangeMaps
/-- The key of an id, or none. -/
def kdX (ss : List Int) (q : Kid) : List Int := if q.ok = true then rkK ss q else Sm.zs32
theorem kdX_len (ss : List Int) (q : Kid) : (kdX ss q).length = 32 := by
  unfold kdX
  split
  · exact rkK_len _ _
  · exact Sm.zs32_len
theorem derive_both (ss : List Int) (q : Kid) (A : Option Addr) (m cc : Nat) (w : World) (hT : TabR w) (hs : Bs w w.heap.size A m ss) (hsb : IsBy ss) (hm : m ≤ 1000000) :
    Calls Tryz.prog 17 #[.slice A m cc, .agg (vk .i64 q.l).toArray] w fun en w' => en = .returned (.tuple #[.agg (bv (kdX ss q)).toArray, .bool q.ok]) ∧ Below w.heap.size w w' := by
  unfold kdX
  by_cases hq : q.ok = true
  · simp only [hq, if_pos rfl]
    exact Sm.derive_any ss A m cc q.a q.b q.c q.d q.e q.f w hT.k hT.s hs hsb hm hq
  · have hq2 : q.ok = false := by simpa using hq
    simp only [hq2]
    exact Sm.derive_no A m cc q.a q.b q.c q.d q.e q.f w hT.k hq2
def nnX (x : Int) : List Int := if 0 ≤ x ∧ x ≤ 1099511627776 then nonL x else zs12
theorem nnX_len (x : Int) : (nnX x).length = 12 := by
  unfold nnX
  split
  · exact nonL_len _
  · rfl
theorem nonce_both (x : Int) (w : World) (hi : isI x) : Calls Tryz.prog 18 #[.int .i64 x] w fun e w' => e = .returned (.tuple #[.agg (bv (nnX x)).toArray, .bool (decide (0 ≤ x ∧ x ≤ 1099511627776))]) ∧ Below w.heap.size w w' := by
  unfold nnX
  by_cases hx : 0 ≤ x ∧ x ≤ 1099511627776
  · rw [if_pos hx, decide_eq_true hx]; exact nonce_yes x w hi hx
  · rw [if_neg hx, decide_eq_false hx]; exact nonce_no x w hi hx
theorem notBox32 : ¬ BoxTy 42 := by unfold BoxTy; decide
theorem notBox12 : ¬ BoxTy 45 := by unfold BoxTy; decide
set_option maxRecDepth 100000 in
set_option maxHeartbeats 8000000 in
theorem boxReal_any (ss : List Int) (a : BAct) (hs : List Int) (S0 Hd : Option Addr) (n0 c0 hc : Nat) (w : World) (hT : TabR w) (hS : Bs w w.heap.size S0 n0 ss) (hSb : IsBy ss) (ha : BOk w w.heap.size a) (hH : Bs w w.heap.size Hd hs.length hs) (hHb : IsBy hs) (hhc : hs.length ≤ hc) :
    Calls Tryz.prog 5 #[.slice S0 n0 c0, .agg a.cells.toArray, .slice Hd hs.length hc] w fun e w' => e = .returned (.bool true) ∧ Below w.heap.size w w' := by
  obtain ⟨ia, hia, hza, hsa⟩ := actI
  have hTw := hide hT
  have haa := hide ha
  have HS := hide hS
  have HH := hide hH
  have hsza := hide (szAct a)
  have hcl := hide (show a.cells.length = 12 from rfl)
  have h7 : Hid (a.cells[7]? = some (.int .i64 a.n)) := hide rfl
  have h8 : Hid (a.cells[8]? = some (.slice a.A a.m a.c)) := hide rfl
  have h9 : Hid (a.cells[9]? = some (.slice a.E a.l a.d)) := hide rfl
  have hida := hide (szKid a.q)
  obtain ⟨ida, hida0⟩ : ∃ ida, ida = vk .i64 a.q.l := ⟨_, rfl⟩
  have Hida := hide hida0
  rw [← hida0] at hida
  have hsA : Hid (∀ wx gx, Row wx 27 gx a.cells → Row wx 27 gx ([.int .u8 a.k] ++ (ida ++ BAct.rest a))) := hide (fun wx gx h => by rw [hida0]; exact h)
  obtain ⟨cs, hcs⟩ : ∃ cs, cs = a.cells := ⟨_, rfl⟩
  rw [← hcs] at hsza hcl h7 h8 h9 hsA ⊢
  have Hcs := hide hcs
  clear hT hS ha hH hcs hida0
  by_cases hb1 : (300 : Int) < (n0 : Int)
  · have hd1 : decide ((300 : Int) < (n0 : Int)) = true := by simp; omega
    go_enter Tryz.func5, Tryz.ntmps5
    go_wp2_with (first
      | (with_reducible refine wl_box (o := ⟨some 4, _, _, _, _, _⟩) rfl 27 (.tmp 1) _ cs rfl rfl rfl ?_; intro g4 w1 r1 p1 l1 b1))
    refine (bawake_any w1 (hTw.out.later b1).k).mono ?_
    rintro e w2 ⟨rfl, b2⟩
    go_wp2_with fail
    go_ret
    exact ⟨rfl, b1.trans (b2.mono b1.size)⟩
  have hd1 : decide ((300 : Int) < (n0 : Int)) = false := by simp; omega
  by_cases hb2 : (300 : Int) < (hs.length : Int)
  · have hd2 : decide ((300 : Int) < (hs.length : Int)) = true := by simp; omega
    go_enter Tryz.func5, Tryz.ntmps5
    go_wp2_with (first
      | (with_reducible refine wl_box (o := ⟨some 4, _, _, _, _, _⟩) rfl 27 (.tmp 1) _ cs rfl rfl rfl ?_; intro g4 w1 r1 p1 l1 b1))
    refine (bawake_any w1 (hTw.out.later b1).k).mono ?_
    rintro e w2 ⟨rfl, b2⟩
    go_wp2_with fail
    go_ret
    exact ⟨rfl, b1.trans (b2.mono b1.size)⟩
  have hd2 : decide ((300 : Int) < (hs.length : Int)) = false := by simp; omega
  have hn0 : n0 ≤ 300 := by omega
  have hl0 : hs.length ≤ 300 := by omega
  go_enter Tryz.func5, Tryz.ntmps5
  go_wp2_with (first
    | (with_reducible refine wl_box (o := ⟨some 4, _, _, _, _, _⟩) rfl 27 (.tmp 1) _ cs rfl rfl rfl ?_; intro g4 w1 r1 p1 l1 b1)
    | (with_reducible refine wg_load_row 8 false 28 rfl rfl rfl 27 (.tmp 4) g4 27 cs _ rfl rfl r1 Tryz.underlying27 rfl hsza.out ?_)
    | (with_reducible refine wg_build1B 8 false 28 rfl rfl rfl 22 (.tmp 29) rfl 27 ia _ cs 12 Tryz.underlying22 hia hza rfl hsa hcl.out (by decide) (by decide) rfl ?_; intro g30 w2 r30 p30 l30 b30))
  have B2 := b1.trans (b30.mono b1.size)
  have r1 := r1.later b30
  refine (few_any w2 _ 1 1 (fun _ => a) 1 (actC_one (by rw [Hcs.out] at r30; exact r30)) (by decide)).mono ?_
  rintro e w' ⟨⟨q2, rfl, hq2⟩, rfl⟩
  cases q2 with
  | false =>
    go_wp2_with fail
    refine (bawake_any w2 (hTw.out.later B2).k).mono ?_
    rintro e w3 ⟨rfl, b3⟩
    go_wp2_with fail
    go_ret
    exact ⟨rfl, B2.trans (b3.mono B2.size)⟩
  | true =>
    have hfa := hide ((hq2 rfl).2 0 (by decide))
    clear hq2 r30 p30 l30
    go_wp2_with fail
    refine (new_real w2 S0 n0 c0 ss (HS.out.later B2) (by omega)).mono ?_
    rintro e w3 ⟨g, b, A1, c1, rfl, X3, b3⟩
    have B3 := B2.trans (b3.mono B2.size)
    have r3 := r1.later b3
    have rA3 := hsA.out _ _ r3
    have HX3 := hide X3
    clear X3 r1
    go_wp2_with (first
      | (with_reducible refine wl_load_part (o := ⟨some 40, _, _, _, _, _⟩) rfl 24 (.tmp 39) g4 1 27 [.int .u8 a.k] ida (BAct.rest a) _ rfl rfl rA3 rfl Tryz.underlying24 rfl hida.out ?_))
    have HD := derive_both ss a.q S0 n0 c0 w3 (hTw.out.later B3) (HS.out.later B3) hSb (by omega)
    rw [← Hida.out] at HD
    have hkl := kdX_len ss a.q
    have hkp : Hid (a.q.ok = true → kdX ss a.q = rkK ss a.q) := hide (fun h => by unfold kdX; rw [if_pos h])
    generalize kdX ss a.q = kd at *
    obtain ⟨okD, hokD⟩ : ∃ okD, okD = a.q.ok := ⟨_, rfl⟩
    rw [← hokD] at HD
    have HokD := hide hokD
    clear hokD
    have hzk := hide (size32R kd hkl)
    have hz32 := zero32R
    have hlz := hide (show (bv (List.replicate 32 0)).length = (bv kd).length by rw [bv_len, bv_len, hkl]; rfl)
    have hone := hide (bv_one kd)
    generalize bv (List.replicate 32 0) = z32 at *
    obtain ⟨kb, hkb⟩ : ∃ kb, kb = bv kd := ⟨_, rfl⟩
    rw [← hkb] at HD hzk hlz hone
    have Hkb := hide hkb
    clear hkb
    refine HD.mono ?_
    rintro e w4 ⟨rfl, b4⟩
    have B4 := B3.trans (b4.mono B3.size)
    have r4 := r3.later b4
    have X4 := HX3.out.later b4
    have HX4 := hide X4
    have c74 := r4.cell h7.out
    clear X4 r3 rA3 HX3 HD
    go_wp2_with (first
      | (with_reducible refine wl_alloc (o := ⟨some 8, _, _, _, _, _⟩) rfl 42 _ z32 rfl hz32 rfl ?_; intro g8 w5 r8 p8 l8 b8)
      | (with_reducible refine wl_store_row rfl 42 (.tmp 8) (.tmp 42) g8 42 _ kb rfl rfl rfl r8 hzk.out hlz.out hone.out ?_; intro w6 r8b o8; have c76 := ((r4.later b8).only o8 (by have := r4.lt; omega)).cell h7.out))
    have b46 := b8.trans (o8.below p8)
    have B6 := B4.trans (b46.mono B4.size)
    have r6 := r4.later b46
    have HX6 := hide (HX4.out.later b46)
    have HN := nonce_both a.n w6 haa.out.hn
    have hnl := nnX_len a.n
    have hnp : Hid (decide (0 ≤ a.n ∧ a.n ≤ 1099511627776) = true → nnX a.n = nonL a.n) := hide (fun h => by unfold nnX; rw [if_pos (of_decide_eq_true h)])
    generalize nnX a.n = nd at *
    obtain ⟨okN, hokN⟩ : ∃ okN, okN = decide (0 ≤ a.n ∧ a.n ≤ 1099511627776) := ⟨_, rfl⟩
    rw [← hokN] at HN
    have HokN := hide hokN
    have hOk : Hid (okU a.q a.n = (okN && okD)) := hide (by rw [hokN, HokD.out]; rfl)
    clear hokN
    have hzn := hide (size12b hnl)
    have hz12 := zero12
    have hlz2 := hide (show (bv zs12).length = (bv nd).length by rw [bv_len, bv_len, hnl]; rfl)
    have hone2 := hide (bv_one nd)
    generalize bv zs12 = z12 at *
    obtain ⟨nb, hnb⟩ : ∃ nb, nb = bv nd := ⟨_, rfl⟩
    rw [← hnb] at HN hzn hlz2 hone2
    have Hnb := hide hnb
    clear hnb c74 r4 HX4 B4
    refine HN.mono ?_
    rintro e w7 ⟨rfl, b7⟩
    have B7 := B6.trans (b7.mono B6.size)
    have r7 := r6.later b7
    have r8c := r8b.later b7
    have HX7 := hide (HX6.out.later b7)
    clear r6 r8b HX6 HN c76
    go_wp2_with (first
      | (with_reducible refine wl_alloc (o := ⟨some 10, _, _, _, _, _⟩) rfl 45 _ z12 rfl hz12 rfl ?_; intro g10 w8 r10 p10 l10 b10)
      | (with_reducible refine wl_store_row rfl 45 (.tmp 10) (.tmp 48) g10 45 _ nb rfl rfl rfl r10 hzn.out hlz2.out hone2.out ?_; intro w9 r10b o10; have r9 := (r7.later b10).only o10 (by have := r7.lt; omega); have rA9 := hsA.out w9 g4 r9; have d7 := r9.cell h7.out; have d8 := r9.cell h8.out; have d9 := r9.cell h9.out)
      | (with_reducible refine wl_load_part (o := ⟨some 53, _, _, _, _, _⟩) rfl 24 (.tmp 52) g4 1 27 [.int .u8 a.k] ida (BAct.rest a) _ rfl rfl rA9 rfl Tryz.underlying24 rfl hida.out ?_))
    have b79 := b10.trans (o10.below p10)
    have B9 := B7.trans (b79.mono B7.size)
    have r8d := r8c.later b79
    have HX9 := HX7.out.later b79
    have X9 : BxRl w9 w.heap.size g b A1 n0 c1 ss 0 (.map []) := ⟨HX9.row, HX9.map, ⟨Nat.le_trans B2.size HX9.lo.1, Nat.le_trans B2.size HX9.lo.2⟩, HX9.sz, HX9.sec, HX9.ty⟩
    have HXn := hide X9
    have HSl := sealR w9 w.heap.size g b A1 n0 c1 ss 0 (.map []) a.q a.n a.A a.E a.m a.c a.l a.d a.ad a.tx X9 (hTw.out.later B9) (fun w' hb => hTw.out.later (B9.trans hb)) haa.out.hn (by decide) (by omega) hSb haa.out.hadb haa.out.htxb haa.out.hmc haa.out.hld (by have := hfa.out.1; omega) (by have := hfa.out.2; omega) B9.size (bs_up (haa.out.had.below B9) B9.size) (bs_up (haa.out.htx.below B9) B9.size) (KpB.old haa.out.had) (KpB.old haa.out.htx)
    rw [← Hida.out] at HSl
    have HSe := hide HSl
    clear HSl HX9 X9 HX7 r7 r8c rA9
    have R8 := hide r8d
    have R9 := hide r9
    have R10 := hide r10b
    clear r8d r9 r10b d7 d8 d9
    refine HSe.out.mono ?_
    intro e w11 hres
    by_cases hk : okU a.q a.n = true
    case neg =>
      simp only [if_neg hk] at hres
      obtain ⟨rfl, b11⟩ := hres
      have B11 := B9.trans (b11.mono B9.size)
      have X11 := HXn.out.later b11
      have R11 := hide (R9.out.later b11)
      have r11 := R11.out
      have rA11 := hsA.out _ _ r11
      have d7 := r11.cell h7.out
      have d8 := r11.cell h8.out
      have HOp := openR w11 w.heap.size g b A1 n0 c1 ss 0 (.map []) a.q a.n a.A Hd a.m a.c hs.length hc a.ad hs X11 (hTw.out.later B11) haa.out.hn (by omega) hSb haa.out.hmc hhc (by have := hfa.out.1; omega) (by omega) (bs_up (haa.out.had.below B11) B11.size) haa.out.hadb (HH.out.later B11) hHb
      rw [← Hida.out] at HOp
      have e1 : roE ss a.q a.n a.ad hs hs.length = 1 := by unfold roE; rw [if_neg hk]
      have e2 : roX ss a.q a.n a.ad hs hs.length = [] := by unfold roX; rw [if_neg hk]
      rw [e1, e2] at HOp
      have HOpn := hide HOp
      clear e1 e2 HOp X11
      go_wp2_with (first
        | (with_reducible refine wl_load_part (o := ⟨some 66, _, _, _, _, _⟩) rfl 24 (.tmp 65) g4 1 27 [.int .u8 a.k] ida (BAct.rest a) _ rfl rfl rA11 rfl Tryz.underlying24 rfl hida.out ?_))
      refine HOpn.out.mono ?_
      rintro e w12 ⟨v, rfl, ⟨A7, c7, rfl, _, _, _⟩, b12⟩
      have B12 := B11.trans (b12.mono B11.size)
      clear HOpn
      cases okD with
      | false =>
        go_wp2_with fail
        refine (bawake_any w12 (hTw.out.later B12).k).mono ?_
        rintro e w13 ⟨rfl, b13⟩
        go_wp2_with fail
        go_ret
        exact ⟨rfl, B12.trans (b13.mono B12.size)⟩
      | true =>
        cases okN with
        | false =>
          go_wp2_with fail
          refine (bawake_any w12 (hTw.out.later B12).k).mono ?_
          rintro e w13 ⟨rfl, b13⟩
          go_wp2_with fail
          go_ret
          exact ⟨rfl, B12.trans (b13.mono B12.size)⟩
        | true => exact absurd (by rw [hOk.out]; rfl) hk
    case pos =>
      simp only [if_pos hk] at hres
      obtain ⟨A9, c9, D', rfl, hs11, X11, T11⟩ := hres
      have B11 := B9.trans (T11.below B9.size)
      have R11 := hide (T11.row R9.out notBoxTyA)
      have R8b := hide (T11.row R8.out notBox32)
      have R10b := hide (T11.row R10.out notBox12)
      have hoks := hOk.out.symm.trans hk
      obtain ⟨rfl, rfl⟩ : okN = true ∧ okD = true := by simpa using hoks
      have hkd := hkp.out HokD.out.symm
      have hnd := hnp.out HokN.out.symm
      have HS11 := hide hs11
      clear hs11 hoks T11
      have r11 := R11.out
      have rA11 := hsA.out _ _ r11
      have d7 := r11.cell h7.out
      have d8 := r11.cell h8.out
      have HOp := openR w11 w.heap.size g b A1 n0 c1 ss (0 + 1) D' a.q a.n a.A Hd a.m a.c hs.length hc a.ad hs X11 (hTw.out.later B11) haa.out.hn (by omega) hSb haa.out.hmc hhc (by have := hfa.out.1; omega) (by omega) (bs_up (haa.out.had.below B11) B11.size) haa.out.hadb (HH.out.later B11) hHb
      rw [← Hida.out] at HOp
      have e1 : roE ss a.q a.n a.ad hs hs.length = aoE (rkK ss a.q) (nonL a.n) a.ad hs hs.length := by unfold roE; rw [if_pos hk]
      have e2 : roX ss a.q a.n a.ad hs hs.length = aoX (rkK ss a.q) (nonL a.n) a.ad hs hs.length := by unfold roX; rw [if_pos hk]
      rw [e1, e2] at HOp
      have HOpn := hide HOp
      have HAo := hide (fun w1 (hb : Below w.heap.size w w1) => aopen_f (rkK ss a.q) (nonL a.n) a.ad hs a.A Hd a.m a.c hs.length hc w1 (hTw.out.later hb).c (rkK_len _ _) (nonL_len _) (rkK_by _ _) (nonL_byR _) (bs_up (haa.out.had.below hb) hb.size) haa.out.hadb haa.out.hmc (HH.out.later hb) hHb hhc (by have := hfa.out.1; omega) (by omega))
      have HAs := hide (fun w1 (hb : Below w.heap.size w w1) => aseal_f (rkK ss a.q) (nonL a.n) a.ad a.tx a.A a.E a.m a.c a.l a.d w1 (hTw.out.later hb).c (rkK_len _ _) (nonL_len _) (rkK_by _ _) (nonL_byR _) (bs_up (haa.out.had.below hb) hb.size) haa.out.hadb haa.out.hmc (bs_up (haa.out.htx.below hb) hb.size) haa.out.htxb haa.out.hld (by have := hfa.out.1; omega) (by have := hfa.out.2; omega))
      have hsl := sealL_len (rkK ss a.q) (nonL a.n) a.ad a.tx
      rw [← hkd, ← hnd, ← Hkb.out, ← Hnb.out] at HAo HAs
      rw [← hkd, ← hnd] at hsl
      rw [← hkd, ← hnd] at HOpn HS11
      generalize Pa.sealL kd nd a.ad a.tx = sl at *
      generalize aoE kd nd a.ad hs hs.length = er at *
      generalize aoX kd nd a.ad hs hs.length = ox at *
      have Hsl := hide hsl
      clear e1 e2 HOp X11 hkd hnd hsl
      go_wp2_with (first
        | (with_reducible refine wl_load_part (o := ⟨some 66, _, _, _, _, _⟩) rfl 24 (.tmp 65) g4 1 27 [.int .u8 a.k] ida (BAct.rest a) _ rfl rfl rA11 rfl Tryz.underlying24 rfl hida.out ?_))
      refine HOpn.out.mono ?_
      rintro e w12 ⟨v, rfl, ⟨A7, c7, rfl, h12, _, _⟩, b12⟩
      have B12 := B11.trans (b12.mono B11.size)
      have R12 := hide (R11.out.later b12)
      have r12 := R12.out
      have k12 := R8b.out.later b12
      have n12 := R10b.out.later b12
      have d8 := r12.cell h8.out
      have d9 := r12.cell h9.out
      have HH12 := hide h12
      clear HOpn h12 r11 rA11 d7
      go_wp2_with (first
        | (with_reducible refine wl_load_row (o := ⟨some 99, _, _, _, _, _⟩) rfl 42 (.tmp 8) g8 42 kb _ rfl rfl k12 Tryz.underlying42 rfl hzk.out ?_)
        | (with_reducible refine wl_load_row (o := ⟨some 100, _, _, _, _, _⟩) rfl 45 (.tmp 10) g10 45 nb _ rfl rfl n12 Tryz.underlying45 rfl hzn.out ?_))
      refine (HAs.out w12 B12).mono ?_
      rintro e w13 ⟨v, rfl, ⟨A13, c13, rfl, h13, _, _⟩, b13⟩
      have B13 := B12.trans (b13.mono B12.size)
      have k13 := k12.later b13
      have n13 := n12.later b13
      have d8 := (r12.later b13).cell h8.out
      have HH13 := hide h13
      clear k12 n12 h13 d9
      go_wp2_with (first
        | (with_reducible refine wl_load_row (o := ⟨some 109, _, _, _, _, _⟩) rfl 42 (.tmp 8) g8 42 kb _ rfl rfl k13 Tryz.underlying42 rfl hzk.out ?_)
        | (with_reducible refine wl_load_row (o := ⟨some 110, _, _, _, _, _⟩) rfl 45 (.tmp 10) g10 45 nb _ rfl rfl n13 Tryz.underlying45 rfl hzn.out ?_))
      refine (HAo.out w13 B13).mono ?_
      rintro e w14 ⟨v, rfl, ⟨A14, c14, rfl, h14, _, _⟩, b14⟩
      have B14 := B13.trans (b14.mono B13.size)
      have b1214 := b13.trans (b14.mono b13.size)
      have HE1 := equal_any A9 A13 (a.tx.length + 16) sl.length c9 c13 sl sl w14 ((HS11.out.later b12).later b1214) (HH13.out.later b14)
      have HE2 := equal_any A7 A14 ox.length ox.length c7 c14 ox ox w14 (HH12.out.later b1214) h14
      rw [beq_self_eq_true] at HE1 HE2
      have he1 : (er == er) = true := by simp
      have he2 : decide (er = er) = true := by simp
      have HE1h := hide HE1
      have HE2h := hide HE2
      clear HE1 HE2 h14 k13 n13 d8
      go_wp2_with fail
      refine HE1h.out.mono ?_
      rintro e w' ⟨rfl, rfl⟩
      go_wp2_with fail
      refine HE2h.out.mono ?_
      rintro e w' ⟨rfl, rfl⟩
      go_wp2_with fail
      refine (bawake_any w14 (hTw.out.later B14).k).mono ?_
      rintro e w15 ⟨rfl, b15⟩
      go_wp2_with fail
      go_ret
      exact ⟨rfl, B14.trans (b15.mono B14.size)⟩
end Go.Proofs.YtooooncmjhcdbaaGreatDoor

/-
  From BoxReal's card's premise to the program's five tables. Own work.
-/
namespace Go.Proofs.YtooooncmjhcdbaaGreatDoor
open Go.RowKit Go.ChangeShapes Go.WideShapes
theorem gHead : Tryz.prog.globalNamed "intaglio/chacha.head" = some 2 := by kernel_rfl
theorem gQuarters : Tryz.prog.globalNamed "intaglio/chacha.quarters" = some 1 := by kernel_rfl
theorem tHead : (Tryz.prog.globals[2]?).map (·.type) = some 135 := by kernel_rfl
theorem tQuarters : (Tryz.prog.globals[1]?).map (·.type) = some 115 := by kernel_rfl
theorem gStart : Tryz.prog.globalNamed "intaglio/sha.start" = some 3 := by kernel_rfl
theorem gRoots : Tryz.prog.globalNamed "intaglio/sha.roots" = some 4 := by kernel_rfl
theorem tStart : (Tryz.prog.globals[3]?).map (·.type) = some 153 := by kernel_rfl
theorem tRoots : (Tryz.prog.globals[4]?).map (·.type) = some 158 := by kernel_rfl
def laid5 : List (String × DataW Unit) := [("intaglio/chacha.head", Rows.laid_intaglio_chacha_head), ("intaglio/chacha.quarters", Rows.laid_intaglio_chacha_quarters), ("intaglio/sha.start", Rows.laid_intaglio_sha_start), ("intaglio/sha.roots", Rows.laid_intaglio_sha_roots), ("intaglio/keys.bounds", Rows.laid_intaglio_keys_bounds)]
theorem cells8 {α : Type} (cs : List α) (h : cs.length = 32) (r : Nat → List α) (hr : ∀ i, i < 8 → (cs.drop (i * 4)).take 4 = r i) : cs = r 0 ++ (r 1 ++ (r 2 ++ (r 3 ++ (r 4 ++ (r 5 ++ (r 6 ++ r 7)))))) := by
  rw [← hr 0 (by omega), ← hr 1 (by omega), ← hr 2 (by omega), ← hr 3 (by omega), ← hr 4 (by omega), ← hr 5 (by omega), ← hr 6 (by omega), ← hr 7 (by omega)]
  have e7 : (cs.drop (7 * 4)).take 4 = cs.drop 28 := List.take_of_length_le (by simp; omega)
  have st : ∀ k, (cs.drop k).take 4 ++ cs.drop (k + 4) = cs.drop k := fun k => by rw [← List.drop_drop, List.take_append_drop]
  rw [e7]
  simp only [show 6 * 4 = 24 from rfl, show 5 * 4 = 20 from rfl, show 4 * 4 = 16 from rfl, show 3 * 4 = 12 from rfl, show 2 * 4 = 8 from rfl, show 1 * 4 = 4 from rfl, show 0 * 4 = 0 from rfl]
  rw [st 24, st 20, st 16, st 12, st 8, st 4, st 0, List.drop_zero]
set_option maxRecDepth 100000 in
theorem tabs5_of_laid {W : World} (h : laidMetH Tryz.prog laid5 W) : TabR W := by
  rw [MakeChecks.laidMetH_plain _ _ _ (by kernel_rfl)] at h
  obtain ⟨ps, ⟨g0, t0, cs0, f0, p0, q0, hg0, ht0, hv0, hd0, ⟨g1, t1, cs1, f1, p1, q1, hg1, ht1, hv1, hd1, ⟨g2, t2, cs2, f2, p2, q2, hg2, ht2, hv2, hd2, ⟨g3, t3, cs3, f3, p3, q3, hg3, ht3, hv3, hd3, ⟨g4, t4, cs4, f4, p4, q4, hg4, ht4, hv4, hd4, _, _⟩, _⟩, _⟩, _⟩, _⟩, _, _⟩ := h
  obtain rfl := Option.some.inj (gHead.symm.trans hg0)
  obtain rfl := Option.some.inj (gQuarters.symm.trans hg1)
  obtain rfl := Option.some.inj (gStart.symm.trans hg2)
  obtain rfl := Option.some.inj (gRoots.symm.trans hg3)
  obtain rfl := Option.some.inj (gBounds.symm.trans hg4)
  obtain rfl := Option.some.inj (tHead.symm.trans ht0)
  obtain rfl := Option.some.inj (tQuarters.symm.trans ht1)
  obtain rfl := Option.some.inj (tStart.symm.trans ht2)
  obtain rfl := Option.some.inj (tRoots.symm.trans ht3)
  obtain rfl := Option.some.inj (tBounds.symm.trans ht4)
  have c4 : Tryz.prog.cellsOf 114 = 4 := by kernel_rfl
  have c1 : Tryz.prog.cellsOf 3 = 1 := by kernel_rfl
  have c32 : Tryz.prog.cellsOf 115 = 32 := by kernel_rfl
  have e0 : cs0.toList = headL.map fun z => Value.int .u32 z := Lib.cells_of_tab (zs := headL) (k := .u32) Tryz.underlying135 Tryz.underlying97 (by kernel_rfl) (by kernel_rfl) hd0
  have e1 : cs1.toList = quartersL.map fun z => Value.int .i64 z := by
    obtain ⟨xs, m1, rfl, hx1, hlen, hn, hel⟩ := DataW.trod_array Tryz.underlying115 hd1
    rw [c32] at hlen
    rw [c4] at hel
    have hxs : xs.map (·.1) = (List.range 8).map fun i => (Lib.tabData .i64 (plL i) : DataW Unit) := by
      have := congrArg Prod.fst hx1
      simp only [Rows.laid_intaglio_chacha_quarters] at this
      injection this with this
      exact this.symm
    have hrow : ∀ i, i < 8 → (cs1.toList.drop (i * 4)).take 4 = (plL i).map fun z => Value.int .i64 z := by
      intro i hi
      have h1 := hel i hi
      rw [List.getElem?_eq_getElem (show i < xs.length by omega)] at h1
      have h2 : (xs[i]'(by omega)).1 = (Lib.tabData .i64 (plL i) : DataW Unit) := by
        have := congrArg (·[i]?) hxs
        simpa [hi, List.getElem?_eq_getElem (show i < xs.length by omega)] using this
      have h3 : xs[i]'(by omega) = ((Lib.tabData .i64 (plL i) : DataW Unit), (xs[i]'(by omega)).2) := by rw [← h2]
      rw [h3] at h1
      exact Lib.cells_of_tab (zs := plL i) (k := .i64) Tryz.underlying114 Tryz.underlying3 c1 c4 h1
    rw [cells8 cs1.toList hlen _ hrow]
    rfl
  have e2 : cs2.toList = Sm.startL.map fun z => Value.int .u32 z := Lib.cells_of_tab (zs := Sm.startL) (k := .u32) Tryz.underlying153 Tryz.underlying97 (by kernel_rfl) (by kernel_rfl) hd2
  have e3 : cs3.toList = Sm.rootsL.map fun z => Value.int .u32 z := Lib.cells_of_tab (zs := Sm.rootsL) (k := .u32) Tryz.underlying158 Tryz.underlying97 (by kernel_rfl) (by kernel_rfl) hd3
  have e4 := tabK_of rfl hd4
  have b0 : 2 < W.heap.size := block_lt_of_cell (v := .int .u32 (headL.getD 0 0)) (by rw [World.var?_cell hg0 hv0 0, ← Array.getElem?_toList, e0]; rfl)
  have b1 : 1 < W.heap.size := block_lt_of_cell (v := .int .i64 (quartersL.getD 0 0)) (by rw [World.var?_cell hg1 hv1 0, ← Array.getElem?_toList, e1]; rfl)
  have b2 : 3 < W.heap.size := block_lt_of_cell (v := .int .u32 (Sm.startL.getD 0 0)) (by rw [World.var?_cell hg2 hv2 0, ← Array.getElem?_toList, e2]; rfl)
  have b3 : 4 < W.heap.size := block_lt_of_cell (v := .int .u32 (Sm.rootsL.getD 0 0)) (by rw [World.var?_cell hg3 hv3 0, ← Array.getElem?_toList, e3]; rfl)
  have b4 : 0 < W.heap.size := block_lt_of_cell (v := .int .i64 (boundsL.getD 0 0)) (by rw [World.var?_cell hg4 hv4 0, ← Array.getElem?_toList, e4]; rfl)
  refine ⟨⟨b4, fun j hj => ?_⟩, ⟨by omega, fun j hj => ?_, fun j hj => ?_⟩, ⟨by omega, fun j hj => ?_, fun j hj => ?_⟩⟩
  · rw [World.var?_cell hg4 hv4 j, ← Array.getElem?_toList, e4]
    exact vk_get (by exact hj)
  · rw [World.var?_cell hg2 hv2 j, ← Array.getElem?_toList, e2]
    simp [List.getD, show j < Sm.startL.length from hj]
  · rw [World.var?_cell hg3 hv3 j, ← Array.getElem?_toList, e3]
    simp [List.getD, show j < Sm.rootsL.length from hj]
  · rw [World.var?_cell hg0 hv0 j, ← Array.getElem?_toList, e0]
    simp [List.getD, show j < headL.length from hj]
  · rw [World.var?_cell hg1 hv1 j, ← Array.getElem?_toList, e1]
    simp [List.getD, show j < quartersL.length from hj]
end Go.Proofs.YtooooncmjhcdbaaGreatDoor

/- Proved: the law BoxReal (P8.1, P8.2) answers true and leaves its arguments as they read before. For every secret, every act and all bytes; no condition but the ties of the five tables of chacha, sha and keys to the program's text. -/
namespace Go.Proofs.YtooooncmjhcdbaaGreatDoor.boxReal
open Go.ChangeShapes Go.WideShapes Go.ChangeAt Go.WideMaps Go.WideElems Go.RowKit

theorem own : ownKnob Tryz.prog.godebug = none := by kernel_rfl
theorem laidOut : laidOutB Tryz.prog = true := by kernel_rfl
theorem door_met (os : Os) (args : Array Value) : laidMetH Tryz.prog laid5 ((World.doorLaid Tryz.prog 400 os).forCall (fun _ _ => 0) ⟨#[], args, []⟩).memory :=
  laidMetH_of_parts3 (fuel := 8) (laidMet_of_run' 8 (by kernel_rfl) (by kernel_rfl)) (by kernel_rfl) (by kernel_rfl)

set_option maxRecDepth 100000 in
theorem lifted (os : Os) (started : os.Started) (H : Type) (enc : TypeId × Value → H) :
    ReturnsInHanded {} Tryz.checked os 5 .any (fun w args => (Rows.boxRealSpec.pre enc Tryz.prog Tryz.f5 [] false w args ∧ laidMetH Tryz.prog laid5 w) ∧ sizedMet enc Tryz.prog Tryz.f5 (OpenSpec.ofChange Rows.boxRealSpec) false w args)
      (Rows.boxRealSpec.post enc Tryz.prog Tryz.f5 false true false false) := by
  refine returnsInHanded_of_change_and (C := Tryz.checked) (X := fun w _ => laidMetH Tryz.prog laid5 w) (fun _ _ _ hh h => h.of_heap hh) own started (by kernel_rfl) Tryz.func5
    (ChangeSpec.witness_shaped (enc := enc) (C := Tryz.checked) (os := os) (X := fun w _ => laidMetH Tryz.prog laid5 w) false (World.doorLaid Tryz.prog 400 os) #[.slice none 0 0, .agg #[.int .u8 0, .int .i64 0, .int .i64 0, .int .i64 0, .int .i64 0, .int .i64 0, .int .i64 0, .int .i64 0, .slice none 0 0, .slice none 0 0, .int .u8 0, .int .u8 0], .slice none 0 0] 8 rfl (World.shaped_of_RefB (by kernel_rfl) (by kernel_rfl)) (by kernel_rfl) (by kernel_rfl) (by kernel_rfl) (door_met os _)) ?_
  intro W base args ds gs before hval0 hW _ _ hL _
  have hval : ∀ (j : Nat) t v, Tryz.f5.params[j]? = some t → args[j]? = some v → Value.okWide Tryz.prog W .any base t v := hval0
  have hW' := hW
  obtain ⟨p, q, hA0, hV, rfl, hfz, hnd⟩ := hW
  have hA : DataW.TrodAll enc Tryz.prog W 0 (fun _ => true) true Tryz.f5.params.toList args.toList ds p := hA0
  rw [Tryz.params5] at hA hval
  obtain ⟨v0, vs0, d0, ds0, p0, q0, hargs, rfl, rfl, h0, r0⟩ := trodAll_cons hA
  obtain ⟨v1, vs1, d1, ds1, p1, q1, rfl, rfl, rfl, h1, r1⟩ := trodAll_cons r0
  obtain ⟨v2, vs2, d2, ds2, p2, q2, rfl, rfl, rfl, h2, r2⟩ := trodAll_cons r1
  obtain ⟨rfl, rfl, rfl⟩ := trodAll_nil r2
  obtain rfl : args = #[v0, v1, v2] := by cases args; simp_all
  obtain ⟨rfl, rfl⟩ := trodVars_none hV
  obtain ⟨a0, len0, cap0, rfl⟩ := okWide_slice Tryz.underlying25 (hval 0 25 v0 rfl rfl)
  have k0 := h0
  have lt0 : ∀ x ∈ p0, x.block < W.heap.size := by obtain ⟨m, hm⟩ := k0; exact DataW.trod_lt m _ _ _ hm
  have k1 := h1
  have lt1 : ∀ x ∈ p1, x.block < W.heap.size := by obtain ⟨m, hm⟩ := k1; exact DataW.trod_lt m _ _ _ hm
  obtain ⟨a2, len2, cap2, rfl⟩ := okWide_slice Tryz.underlying25 (hval 2 25 v2 rfl rfl)
  have k2 := h2
  have lt2 : ∀ x ∈ p2, x.block < W.heap.size := by obtain ⟨m, hm⟩ := k2; exact DataW.trod_lt m _ _ _ hm
  clear hA0 hval0
  have hT : TabR W := tabs5_of_laid hL
  obtain ⟨x0, b0, by0⟩ : ∃ xs, Bs W W.heap.size a0 len0 xs ∧ IsBy xs := by
    obtain ⟨fuel, hf⟩ := k0
    obtain ⟨A', n', c', xs, hv, hb, hby, h1, h2⟩ := trod_bs Tryz.underlying25 Tryz.underlying5 (by kernel_rfl) hf
    simp at hv
    obtain ⟨rfl, rfl, rfl⟩ := hv
    exact ⟨xs, hb, hby⟩
  obtain ⟨x2, b2, by2, m2⟩ : ∃ xs, Bs W W.heap.size a2 len2 xs ∧ IsBy xs ∧ len2 ≤ cap2 := by
    obtain ⟨fuel, hf⟩ := k2
    obtain ⟨A', n', c', xs, hv, hb, hby, h1, h2⟩ := trod_bs Tryz.underlying25 Tryz.underlying5 (by kernel_rfl) hf
    simp at hv
    obtain ⟨rfl, rfl, rfl⟩ := hv
    exact ⟨xs, hb, hby, h1⟩
  obtain ⟨cs, rfl⟩ : ∃ cs : List Value, v1 = .agg cs.toArray := by
    have := hval 1 27 v1 rfl rfl
    obtain ⟨cs, rfl, _⟩ : ∃ cs, v1 = .agg cs ∧ cs.size = Tryz.prog.cellsOf 27 ∧ Row.okWide Tryz.prog W .any base 27 cs := by
      simpa [Value.okWide, Tryz.underlying27] using this
    exact ⟨cs.toList, by simp⟩
  have kk := k1
  obtain ⟨fuel, hf⟩ := kk
  obtain ⟨q, hcs, hok⟩ := open_bact hf
  obtain rfl : cs = q.cells := hcs
  clear hf
  have e2 := b2.1
  subst e2
  refine (boxReal_any x0 q x2 a0 a2 len0 cap0 cap2 W hT b0 by0 hok b2 by2 m2).mono fun e W' ⟨he, bel⟩ => ?_
  subst he
  exact ⟨_, rfl, _, _, _, [], _, [], hW', trodAll_mk1 (shut_bool Tryz.underlying4 _), (trodAll_cons_mk (Below.trod laidOut (by kernel_rfl) (of_decide_eq_true (by kernel_rfl)) k0 bel lt0) (trodAll_cons_mk (Below.trod laidOut (by kernel_rfl) (of_decide_eq_true (by kernel_rfl)) k1 bel lt1) (trodAll_cons_mk (Below.trod laidOut (by kernel_rfl) (of_decide_eq_true (by kernel_rfl)) k2 bel lt2) trodAll_mk0))), rfl, bel.frame _, fun h => by cases h⟩

theorem over : Rows.BoxRealSaid :=
  OpenClaim.holds_of_wide 5 Tryz.f5 rfl rfl rfl rfl rfl rfl rfl ⟨rfl, rfl, rfl, rfl, rfl⟩ rfl rfl rfl rfl rfl (by kernel_rfl) Tryz.func5 (by kernel_rfl)
    (of_decide_eq_true (by kernel_rfl)) (by unfold Func.isWrapper; first | (rw [if_pos (by decide +kernel)]; kernel_rfl) | (rw [if_neg (by decide +kernel)]; exact ⟨rfl, rfl⟩))
    (fun os started H enc _ => lifted os started H enc)

/-- The given statement. -/
theorem proved : Rows.BoxRealCardSaid :=
  Claim7.holds_tied_plain_at .later [] [.data, .data, .data, .data, .data] true (true, "a4e521d8f70eca98a07e36a6dd29b496ca03e3ca0ebfd55ad8c0a9911a3e1dd0") false
    over (fun _ h => by cases h) (by kernel_rfl) (fun _ h => by cases h) boxReal_row_tie rfl ⟨rfl, rfl⟩ (by kernel_rfl) rfl
    (fun f fn hf hfn => by
      obtain rfl : f = 5 := Option.some.inj ((show Tryz.prog.funcNamed "intaglio/intagliolaw08.BoxReal" = some 5 by kernel_rfl).symm.trans hf) |>.symm
      obtain rfl : fn = Tryz.f5 := (Option.some.inj (Tryz.func5.symm.trans hfn)).symm
      exact ⟨by kernel_rfl, fun j t ht => by
        rw [Tryz.params5] at ht
        have hm : t ∈ [25, 27, 25] := by simpa using Array.mem_of_getElem? ht
        have hall : ([25, 27, 25].all fun u => !Tryz.prog.wantsStandIn u) = true := by kernel_rfl
        exact (show Tryz.prog.wantsStandIn t = false by simpa using List.all_eq_true.1 hall t hm)⟩)
    (by kernel_rfl)
#print axioms proved
end Go.Proofs.YtooooncmjhcdbaaGreatDoor.boxReal

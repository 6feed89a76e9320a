/- Proved: the law ValueBack (P15.4) answers true and leaves its arguments as they read before. For every entry and every list of bytes; no condition. -/
import Derived.ChangeArms
import Derived.OpenShut
import Derived.SizedLaws
import Derived.Test.YtpbkejmffddelaaGreatRows
import Derived.WalkKit
import Derived.ProofKit
import Derived.ShutString
import Derived.ChangeOld
import Derived.Below
import Derived.Test.YtpbkejmffddelaaGreatGN
import Derived.Test.YtpbkejmffddelaaGreatGA
set_option linter.unusedVariables false
set_option linter.unusedSimpArgs false
/-
  The document's Decode: contract. Own work.
-/
namespace Go.Proofs.YtpbkejmffddelaaGreat
open Go.RowKit Go.Shelf
theorem builtInD (A : Option Addr) (n c : Nat) : Tryz.prog.built 108 [(0, .slice A n c)] = some ([.slice A n c, .int .i64 0] : List Value).toArray := by kernel_rfl
theorem Id.low {w w' : World} {lo g B : Nat} {xs : List Int} {e : Int} (h : Id w lo g xs e) (hb : Below B w w') (hB : g < B) : Id w' lo g xs e := by
  obtain ⟨A, n, c, h0, h1, h2, h3, h4, h5⟩ := h
  exact ⟨A, n, c, h0, h1.below hb hB, ⟨h2.1, fun h0 => let ⟨b, o, e, h6, h7, hc⟩ := h2.2 h0; ⟨b, o, e, h6, h7, fun j hj => (hb.cell (p := ⟨b, o + j, none⟩) (show b < B by omega)).trans (hc j hj)⟩⟩, h3, h4, h5⟩
theorem Id.lt {w : World} {lo g : Nat} {xs : List Int} {e : Int} (h : Id w lo g xs e) : lo ≤ g ∧ g < w.heap.size := by
  obtain ⟨A, n, c, h0, h1, _⟩ := h
  exact ⟨h0, h1.lt⟩
theorem Sp.upto {w : World} {lo hi hi' n : Nat} {A : Option Addr} {xs : List Int} (h : Sp w lo hi A n xs) (hl : hi ≤ hi') : Sp w lo hi' A n xs := ⟨h.1, fun h0 => let ⟨b, o, e, h1, h2, hc⟩ := h.2 h0; ⟨b, o, e, h1, Nat.lt_of_lt_of_le h2 hl, hc⟩⟩
abbrev IdS (lo g : Nat) (s : Sr) (w : World) : Prop := Id w lo g s.1 s.2
theorem DLb {lo g : Nat} {s : Sr} {xs : List Int} {v : Value} {w w' : World} (h : ByF xs v w ∧ IdS lo g s w) (hb : Below w.heap.size w w') : ByF xs v w' ∧ IdS lo g s w' := ⟨h.1.later hb, h.2.later hb⟩
theorem DLi {lo g : Nat} {s : Sr} {c v : Value} {w w' : World} (h : v = c ∧ IdS lo g s w) (hb : Below w.heap.size w w') : v = c ∧ IdS lo g s w' := ⟨h.1, h.2.later hb⟩
theorem ibytesR_any {lo g : Nat} {s : Sr} {most : Int} (w : World) (h : IdS lo g s w) (hx : s.By) (m0 : 0 ≤ most) (m1 : most ≤ 9223372036854775807) :
    Calls Tryz.prog 60 #[ptr g, .int .i64 most] w fun en w' => ∃ A n c, en = .returned (.slice A n c) ∧ Bs w' w'.heap.size A n (nb (rT most s).1) ∧ IdS lo g (rT most s).2 w' ∧ w.grownBy w' (some g) :=
  (ibytes_any w h hx most (by omega) m1).mono fun en w' ⟨A, n, c, e, hs, hR, hg⟩ => ⟨A, n, c, e, by rw [show (rT most s).1 = bn (tkText most s.1 s.2).1 from rfl, nb_bn (tkText_by hx).1]; exact hs, hR, hg⟩
theorem inumR_any {lo g : Nat} {s : Sr} (w : World) (h : IdS lo g s w) (hx : s.By) (most : Int) (m0 : 0 ≤ most) (m1 : most ≤ 9223372036854775807) :
    Calls Tryz.prog 61 #[ptr g, .int .i64 most] w fun en w' => en = .returned (.int .i64 (rN most s).1) ∧ IdS lo g (rN most s).2 w' ∧ w.grownBy w' (some g) := inum_any w h hx most (by omega) m1
theorem iuR_any {lo g : Nat} {s : Sr} (w : World) (h : IdS lo g s w) (hx : s.By) (n : Nat) (h0 : 0 < n) (h8 : n ≤ 8) :
    Calls Tryz.prog 62 #[ptr g, .int .i64 (n : Int)] w fun en w' => en = .returned (.int .u64 (rU n s).1) ∧ IdS lo g (rU n s).2 w' ∧ w.grownBy w' (some g) := iu_any w h hx n h0 h8
theorem dV_int (s : Sr) : ∀ a ∈ (dV s).1.ss, isI a.s := by
  unfold dV
  intro a ha
  simp only at ha
  split at ha
  · simp at ha
  · split at ha
    · simp at ha
    · split at ha
      · simp at ha
      · split at ha
        · exact dS_int _ _ a ha
        · simp at ha
theorem decOk_err {b : List Int} (h : decOk b) : (dV (dK b).2.2).2 = ([], 0) := by
  obtain ⟨h0, h1⟩ := h
  have := (dE_back _ _ _ h0 (dV_int _)).2.2
  rw [h1] at this
  rw [this]
/-- What the document's Decode leaves. -/
def RDecPost (w : World) (b : List Int) (en : Ending) (w' : World) : Prop :=
  ∃ (key : Nm) (x : Vl) (at_ : Int) (vp vl vs : Value) (ec : Int), en = .returned (.tuple #[enV key x vp vl vs at_, .int .i64 ec]) ∧ VlM w' w'.heap.size x vp vl vs ∧ x.Few ∧ x.t.length ≤ 512 ∧ key.length ≤ 64 ∧ Below w.heap.size w w' ∧
    ((ec = 0 ∧ decOk b ∧ key = (dK b).1 ∧ x = (dV (dK b).2.2).1 ∧ at_ = (dK b).2.1) ∨ (ec = 3 ∧ ¬ decOk b ∧ key = [] ∧ x = v0 ∧ at_ = 0))
def SRDp (g g5 : Nat) (f t : Nm) (ov : Value) (opn : Nat) (v : Value) : Prop :=
  match opn with
  | 0 | 10 => v = .pointer (some ⟨g5, 1, none⟩)
  | 1 | 11 => v = .pointer (some ⟨g5, 3, none⟩)
  | 2 => v = ov
  | 3 => v = encStr f
  | 4 => v = ptr g
  | 6 => v = encStr t
  | 7 => v = .agg [encStr f, encStr t].toArray
  | _ => True

def SRDs (g g5 : Nat) (f : Nm) (u : Int) (ov : Value) (opn : Nat) (v : Value) : Prop :=
  match opn with
  | 0 | 10 => v = .pointer (some ⟨g5, 1, none⟩)
  | 1 | 11 => v = .pointer (some ⟨g5, 5, none⟩)
  | 2 => v = ov
  | 3 => v = encStr f
  | 4 => v = ptr g
  | 5 => v = .int .u64 u
  | 6 => v = .int .i64 (IntKind.i64.wrap u)
  | 7 => v = .agg [encStr f, .int .i64 (IntKind.i64.wrap u)].toArray
  | _ => True

set_option maxRecDepth 100000 in
set_option maxHeartbeats 4000000 in
theorem rdec_any (w : World) (A : Option Addr) (n c : Nat) (b : List Int) (hb : Bs w w.heap.size A n b) (hn : n ≤ 1000000) (hx : IsBy b) :
    Calls Tryz.prog 15 #[.slice A n c] w (RDecPost w b) := by
  have HR := fun wz (hz : Below w.heap.size w wz) => both_new none A 0 n 0 c [] b wz Bs.nil_ (hb.later hz) (by omega)
  obtain ⟨⟨key, s1⟩, h1⟩ : ∃ r, rT 64 (b, 0) = r := ⟨_, rfl⟩
  obtain ⟨⟨at_, s2⟩, h2⟩ : ∃ r, rN 1099511627776 s1 = r := ⟨_, rfl⟩
  obtain ⟨⟨k, s3⟩, h3⟩ : ∃ r, rU 1 s2 = r := ⟨_, rfl⟩
  obtain ⟨⟨m0, s4⟩, h4⟩ : ∃ r, rN 200 s3 = r := ⟨_, rfl⟩
  have hd : dK b = (key, at_, s2) := by unfold dK; rw [h1]; simp only [h2]
  have hx1 : s1.By := by have := rT_by (most := 64) (s := (b, 0)) hx; rw [h1] at this; exact this
  have hx2 : s2.By := by have := rN_by (most := 1099511627776) hx1; rw [h2] at this; exact this
  have hx3 : s3.By := by have := rU_by (n := 1) hx2; rw [h3] at this; exact this
  have hx4 : s4.By := by have := rN_by (most := 200) hx3; rw [h4] at this; exact this
  have hnr : 0 ≤ m0 ∧ m0 ≤ 200 := by have := tkNum_rng (most := 200) (e := s3.2) (by decide) hx3; have e : (tkNum 200 s3.1 s3.2).1 = m0 := congrArg Prod.fst h4; rw [e] at this; exact this
  have hkr : 0 ≤ k ∧ k < 256 := by have := unum_bound (n := 1) (e := s2.2) hx2; have e : unum 1 s2.1 s2.2 = k := congrArg Prod.fst h3; rw [e] at this; exact this
  obtain ⟨m, rfl⟩ := Int.eq_ofNat_of_zero_le hnr.1
  have hm200 : m ≤ 200 := by omega
  have hkl : key.length ≤ 64 := by have := rT_len (most := 64) (s := (b, 0)) hx; rw [h1] at this; exact this
  have HB := fun {lo g : Nat} wz (hz : IdS lo g (b, 0) wz) => ibytesR_any (most := 64) wz hz hx (by decide) (by decide)
  rw [h1] at HB
  have HN := fun {lo g : Nat} wz (hz : IdS lo g s1 wz) => inumR_any wz hz hx1 1099511627776 (by decide) (by decide)
  rw [h2] at HN
  have HU := fun {lo g : Nat} wz (hz : IdS lo g s2 wz) => iuR_any wz hz hx2 1 (by decide) (by decide)
  rw [h3] at HU
  have HM := fun (lo g : Nat) wz (hz : IdS lo g s3 wz) => inumR_any wz hz hx3 200 (by decide) (by decide)
  rw [h4] at HM
  have hwk : IntKind.i64.wrap k = k := wrap_id rfl (by omega) (by omega)
  obtain ⟨Q, hQ⟩ : ∃ Q, Q = RDecPost w b := ⟨_, rfl⟩
  rw [← hQ]
  replace hQ := hide hQ
  replace hd := hide hd
  replace HR := hide HR
  replace h3 := hide h3
  replace h4 := hide h4
  replace HM := hide HM
  replace hwk := hide hwk
  replace hkr := hide hkr
  clear h1 h2 hx1 hx2 hnr
  go_enter Tryz.func15, Tryz.ntmps15
  go_wp2_with (first
    | ((with_reducible refine wl_alloc (o := ⟨some 2, _, _, _, _, _⟩) rfl 28 _ (enC [] v0 nilS nilS nilS 0) rfl zeroEn rfl ?_); intro g2 w1 r2 p2 l2 b1))
  refine (HR.out w1 b1).mono ?_
  rintro en w2 ⟨A3, n3, c3, rfl, hb3, hn3, hc3, b2⟩
  simp only [List.nil_append] at hb3
  have B2 := b1.trans (b2.mono b1.size)
  have r22 := r2.later b2
  have hone0 : ∀ u ∈ enC [] v0 nilS nilS nilS 0, u.oneCell' = true := by simp [Value.oneCell', encStr, v0]
  have hse0 := szEnt [] v0 nilS nilS nilS 0
  have hc3' : c3 ≤ 9223372036854775807 := by simp only [maxLen] at hc3; omega
  have hn3' : n3 ≤ 140737488355328 := by have := hb3.1; have := hb.1; omega
  replace hc3 := hide hc3
  replace hc3' := hide hc3'
  replace hn3' := hide hn3'
  replace hn3 := hide hn3
  go_wp2_with (first
    | (with_reducible refine wl_build (o := ⟨some 13, _, _, _, _, _⟩) rfl 108 [(0, .tmp 12)] rfl [(0, .slice A3 n3 c3)] rfl [.slice A3 n3 c3, .int .i64 0] (builtInD A3 n3 c3) ?_)
    | ((with_reducible refine wl_box (o := ⟨some 14, _, _, _, _, _⟩) rfl 108 (.tmp 13) _ [.slice A3 n3 c3, .int .i64 0] rfl rfl rfl ?_); intro g w3 r3 p3 l3 b3)
    | (with_reducible refine wl_build (o := ⟨some 15, _, _, _, _, _⟩) rfl 28 [] rfl [] rfl (enC [] v0 nilS nilS nilS 0) builtEn0 ?_)
    | ((with_reducible refine wl_alloc (o := ⟨some 5, _, _, _, _, _⟩) rfl 28 _ (enC [] v0 nilS nilS nilS 0) rfl zeroEn rfl ?_); intro g5 w4 r4 p4 l4 b4)
    | ((with_reducible refine wl_store_row rfl 28 (.tmp 5) (.tmp 15) g5 28 _ (enC [] v0 nilS nilS nilS 0) rfl rfl rfl r4 hse0 rfl hone0 ?_); intro w5 r5 o5; have b5 := b4.trans ((o5.below p4).mono (Nat.le_refl _))))
  have hI3 : Id w3 w1.heap.size g b 0 := ⟨A3, n3, c3, Nat.le_trans b2.size p3, r3, (hb3.later b3).upto p3, hn3.out, ⟨hc3'.out, hn3'.out⟩, fun h => absurd rfl h⟩
  have hI5 : IdS w1.heap.size g (b, 0) w5 := hI3.later b5
  have B3 := B2.trans (b3.mono B2.size)
  have B5 := B3.trans (b5.mono B3.size)
  have r25 := (r22.later b3).later b5
  have hgw : w.heap.size ≤ g := Nat.le_trans B2.size p3
  have hg2w : w.heap.size ≤ g2 := p2
  have hg5w : w.heap.size ≤ g5 := Nat.le_trans B3.size p4
  have n2 : g2 ≠ g := Nat.ne_of_lt (Nat.lt_of_lt_of_le r22.lt p3)
  have hgg5 : g < g5 := Nat.lt_of_lt_of_le r3.lt p4
  have n5 : g5 ≠ g := Nat.ne_of_gt hgg5
  have n25 : g2 ≠ g5 := Nat.ne_of_lt (Nat.lt_of_lt_of_le (r22.later b3).lt p4)
  clear hI3 hb3 HR r2 r22 r3 r4 b1 b2 b3 b4 b5 B2 B3 o5 l2 l3 l4
  go_wp2_with fail
  refine (HB w5 hI5).mono ?_
  rintro en w6 ⟨A6, n6, c6, rfl, hs6, hI6, gr6⟩
  have r56 := r5.but (But.gr gr6) n5
  have r26 := r25.but (But.gr gr6) n2
  have B6 := B5.trans (below_of_grown gr6 hgw B5.size)
  clear HB hI5 r5 r25 gr6 B5
  go_wp2_with (first
    | (with_reducible refine wl_run (o := ⟨some 18, _, _, _, _, _⟩) rfl (encStr key) (run_toStrN 31 9 5 (.tmp 17) key rfl rfl hs6 Tryz.underlying31 Tryz.underlying5 Tryz.underlying9) ?_)
    | ((with_reducible refine wl_store rfl 9 (.tmp 19) (.tmp 18) g5 0 28 (enC [] v0 nilS nilS nilS 0) (encStr key) rfl (by kernel_rfl) rfl rfl r56 (by simp) rfl ?_); intro w7 r7 o7; replace r7 : Row w7 28 g5 (enC key v0 nilS nilS nilS 0) := r7; have r27 := r26.only o7 n25; have hI7 := hI6.grown (grown_only o7) (.inr hgg5)))
  refine (HN w7 hI7).mono ?_
  rintro en w8 ⟨rfl, hI8, gr8⟩
  have r58 := r7.but (But.gr gr8) n5
  have r28 := r27.but (But.gr gr8) n2
  have B7 := B6.trans (o7.below hg5w)
  have B8 := B7.trans (below_of_grown gr8 hgw B7.size)
  clear HN hI7 r7 r27 gr8 hs6 hI6 r56 r26 B6 B7 o7
  go_wp2_with (first
    | ((with_reducible refine wl_store rfl 3 (.tmp 22) (.tmp 21) g5 6 28 (enC key v0 nilS nilS nilS 0) (.int .i64 at_) rfl (by kernel_rfl) rfl rfl r58 (by simp) rfl ?_); intro w9 r9 o9; replace r9 : Row w9 28 g5 (enC key v0 nilS nilS nilS at_) := r9; have r29 := r28.only o9 n25; have hI9 := hI8.grown (grown_only o9) (.inr hgg5)))
  refine (HU w9 hI9).mono ?_
  rintro en w10 ⟨rfl, hI10, gr10⟩
  have r510 := r9.but (But.gr gr10) n5
  have r210 := r29.but (But.gr gr10) n2
  have B9 := B8.trans (o9.below hg5w)
  have B10 := B9.trans (below_of_grown gr10 hgw B9.size)
  clear HU hI9 r9 r29 gr10 hI8 r58 r28 B8 B9 o9
  by_cases k1 : k = 1
  · subst k1
    have HT := fun wz (hz : IdS w1.heap.size g s3 wz) => ibytesR_any (most := 512) wz hz hx3 (by decide) (by decide)
    have hTl : (rT 512 s3).1.length ≤ 512 := rT_len hx3
    have hdv := dV_1 h3.out
    obtain ⟨⟨t, s9⟩, h9⟩ : ∃ r, rT 512 s3 = r := ⟨_, rfl⟩
    rw [h9] at HT hTl hdv
    replace hTl := hide hTl
    replace hdv := hide hdv
    clear h9
    go_wp2_with (first
      | ((with_reducible refine wl_store rfl 3 (.tmp 27) (.tmp 25) g5 1 28 (enC key v0 nilS nilS nilS at_) (.int .i64 1) rfl (by kernel_rfl) rfl rfl r510 (by simp) rfl ?_); intro w11 r11 o11; replace r11 : Row w11 28 g5 (enC key ⟨1, [], [], [], []⟩ nilS nilS nilS at_) := r11; have r211 := r210.only o11 n25; have hI11 := hI10.grown (grown_only o11) (.inr hgg5); have c0 := r11.cell (j := 1) rfl))
    refine (HT w11 hI11).mono ?_
    rintro en w12 ⟨A12, n12, c12, rfl, hs12, hI12, gr12⟩
    have r512 := r11.but (But.gr gr12) n5
    have r212 := r211.but (But.gr gr12) n2
    have B11 := B10.trans (o11.below hg5w)
    have B12 := B11.trans (below_of_grown gr12 hgw B11.size)
    clear HT hI11 r11 r211 gr12 hI10 r510 r210 B10 B11 o11 c0
    go_wp2_with (first
      | (with_reducible refine wl_run (o := ⟨some 34, _, _, _, _, _⟩) rfl (encStr t) (run_toStrN 31 9 5 (.tmp 33) t rfl rfl hs12 Tryz.underlying31 Tryz.underlying5 Tryz.underlying9) ?_)
      | ((with_reducible refine wl_store rfl 9 (.tmp 36) (.tmp 34) g5 2 28 (enC key ⟨1, [], [], [], []⟩ nilS nilS nilS at_) (encStr t) rfl (by kernel_rfl) rfl rfl r512 (by simp) rfl ?_); intro w13 r13 o13; replace r13 : Row w13 28 g5 (enC key ⟨1, t, [], [], []⟩ nilS nilS nilS at_) := r13; have r213 := r212.only o13 n25; have hI13 := hI12.grown (grown_only o13) (.inr hgg5)))
    go_loopw [7] (fun iv wr => iv = .int .i64 0 ∧ wr = w13) (fun _ _ => 0)
    case atStart => exact ⟨rfl, rfl⟩
    case round =>
      obtain ⟨rfl, rfl⟩ := hrel
      have B13 := B12.trans (o13.below hg5w)
      have hML := hide (fun (wz : World) (hz : ButZ [g2] wr wz) => (⟨SlV.nil _ _, SlV.nil _ _, SlV.nil _ _⟩ : VlM wz wz.heap.size (⟨1, t, [], [], []⟩ : Vl) nilS nilS nilS))
      have few : (⟨1, t, [], [], []⟩ : Vl).Few := ⟨by simp, by simp, by simp⟩
      have htl : Hid ((⟨1, t, [], [], []⟩ : Vl).t.length ≤ 512) := hTl
      have hcp := hide (show ∃ A c, nilS = .slice A (⟨1, t, [], [], []⟩ : Vl).ss.length c ∧ (⟨1, t, [], [], []⟩ : Vl).ss.length ≤ c from ⟨none, 0, rfl, Nat.le_refl _⟩)
      have hxk := hide (show (⟨1, t, [], [], []⟩ : Vl).k = (dV s2).1.k by rw [hdv.out])
      have hxy := hide (show 1 ≤ (dV s2).1.k → (dV s2).1.k ≤ 5 → (⟨1, t, [], [], []⟩ : Vl) = (dV s2).1 from fun _ _ => by rw [hdv.out])
      have hss := hide (show 1 ≤ (dV s2).1.k → (dV s2).1.k ≤ 5 → s9 = (dV s2).2 from fun _ _ => by rw [hdv.out])
      clear hs12 hI12 r512 r212 B12 o13
      have hse := szEnt key ⟨1, t, [], [], []⟩ nilS nilS nilS at_
      go_wp2_with (first
        | (with_reducible refine wl_load_row (o := ⟨some 88, _, _, _, _, _⟩) rfl 28 (.tmp 5) g5 28 (enC key ⟨1, t, [], [], []⟩ nilS nilS nilS at_) _ rfl rfl r13 Tryz.underlying28 rfl hse ?_))
      refine (rencode_any wr key ⟨1, t, [], [], []⟩ nilS nilS nilS at_ (hML.out wr (.of (Below.refl _ _))) few (Nat.le_trans htl.out (by decide)) hcp.out).mono ?_
      rintro en wu ⟨⟨A8, n8, c8, rfl, hb8⟩, b8⟩
      have BU := B13.trans (b8.mono B13.size)
      have hbb := hb.later BU
      have r5u := r13.later b8
      have r2u := r213.later b8
      have hMU : ∀ wz, ButZ [g2] wu wz → VlM wz wz.heap.size ⟨1, t, [], [], []⟩ nilS nilS nilS := fun wz hz => hML.out wz ((ButZ.of b8).trans hz)
      obtain ⟨Ai, ni, ci, _, hblk, _⟩ := hI13.later b8
      have ce := hblk.cell 1
      simp only [List.getElem?_toArray, List.getElem?_cons_zero, List.getElem?_cons_succ] at ce
      clear hblk
      have hdk : decOk b ↔ entC key at_ (dV s2).1.rchk = 0 ∧ encB key (dV s2).1 at_ = b := by unfold decOk; rw [hd.out]
      have herr : decOk b → (dV s2).2 = ([], 0) := fun h => by have := decOk_err h; rw [hd.out] at this; exact this
      have hxk' := hxk.out
      have hxy' := hxy.out
      have hss := hss.out
      have heq := ec_zero (key := key) (at_ := at_) hxk' (fun a b => hxy' a b)
      replace hMU := hide hMU
      have he9 : decOk b → s9.2 = 0 := fun h => by
        obtain ⟨q1, q2⟩ := rchk_kind (entC_zero (hdk.1 h).1).1
        rw [hss q1 q2, herr h]
      have hsame : entC key at_ (⟨1, t, [], [], []⟩ : Vl).rchk = 0 → (⟨1, t, [], [], []⟩ : Vl) = (dV s2).1 := fun h => ec_same hxk' hxy' h
      obtain ⟨ec, hec⟩ : ∃ ec, ec = entC key at_ (⟨1, t, [], [], []⟩ : Vl).rchk := ⟨_, rfl⟩
      rw [← hec] at heq hb8 hsame ⊢
      obtain ⟨e9, hee⟩ : ∃ e9, e9 = s9.2 := ⟨_, rfl⟩
      rw [← hee] at he9 ce
      replace hee := hide hee
      clear r13 r213 hI13 B13 b8 hML hxk hxy hxk' hxy' hss herr
      by_cases h9 : e9 = 0
      · subst h9
        by_cases h0 : ec = 0
        · subst h0
          have hxe := hsame rfl
          rw [if_pos rfl] at hb8
          have HQ := rsame_any A8 A n8 c8 n c (encB key ⟨1, t, [], [], []⟩ at_) b wu hb8 hbb (by have := hb8.1; have := (encB_len key ⟨1, t, [], [], []⟩ at_ (entC_zero hec.symm).2.1 (rchk_few (entC_zero hec.symm).1) (rchk_ok (entC_zero hec.symm).1).2); omega) hn
          by_cases he : encB key ⟨1, t, [], [], []⟩ at_ = b
          · rw [decide_eq_true he] at HQ
            have hok := hide (hdk.2 ⟨heq.1 rfl, by rw [← hxe]; exact he⟩)
            replace hec := hide hec
            replace he := hide he
            replace hxe := hide hxe
            clear heq hb8 hbb hb hdk he9 hsame
            go_wp2_with fail
            refine HQ.mono ?_
            rintro en wv ⟨rfl, bv⟩
            have r5v := r5u.later bv
            have r2v := r2u.later bv
            have hMV : ∀ wz, Only g2 wv wz → VlM wz wz.heap.size ⟨1, t, [], [], []⟩ nilS nilS nilS := fun wz hz => hMU.out wz ((ButZ.of bv).only hz (.inr (by simp)))
            replace hMV := hide hMV
            have hone7 := (show ∀ u ∈ (enC key ⟨1, t, [], [], []⟩ nilS nilS nilS at_), u.oneCell' = true by simp [Value.oneCell', encStr])
            go_wp2_with (first
              | (with_reducible refine wl_load_row (o := ⟨some 108, _, _, _, _, _⟩) rfl 28 (.tmp 5) g5 28 (enC key ⟨1, t, [], [], []⟩ nilS nilS nilS at_) _ rfl rfl r5v Tryz.underlying28 rfl hse ?_)
              | ((with_reducible refine wl_store_row rfl 28 (.tmp 2) (.tmp 108) g2 28 _ (enC key ⟨1, t, [], [], []⟩ nilS nilS nilS at_) rfl rfl rfl r2v hse rfl hone7 ?_); intro wx rx ox))
            rw [hQ.out]
            refine bodyPost_ret (v := .tuple #[enV key ⟨1, t, [], [], []⟩ nilS nilS nilS at_, .int .i64 0]) ?_ rfl ⟨key, ⟨1, t, [], [], []⟩, at_, nilS, nilS, nilS, 0, rfl, hMV.out _ ox, few, htl.out, hkl, (BU.trans (bv.mono BU.size)).trans (ox.below hg2w), .inl ⟨rfl, hok.out, by rw [hd.out], by rw [hd.out]; exact hxe.out, by rw [hd.out]⟩⟩
            exact results_rt2 Tryz.results15 _ _ g2 28 _ _ _ rfl rx Tryz.underlying28 rfl hse rfl
          · rw [decide_eq_false he] at HQ
            have hok : ¬ decOk b := fun h => he (by rw [hxe]; exact (hdk.1 h).2)
            replace hec := hide hec
            replace hxe := hide hxe
            clear heq hb8 hbb hb he hdk he9 hsame
            go_wp2_with fail
            refine HQ.mono ?_
            rintro en wt' ⟨rfl, bv⟩
            have r2v := r2u.later bv
            have BU := BU.trans (bv.mono BU.size)
            go_wp2_with (first
              | (with_reducible refine wl_build (o := ⟨some 107, _, _, _, _, _⟩) rfl 28 [] rfl [] rfl (enC [] v0 nilS nilS nilS 0) builtEn0 ?_)
              | ((with_reducible refine wl_store_row rfl 28 (.tmp 2) (.tmp 107) g2 28 _ (enC [] v0 nilS nilS nilS 0) rfl rfl rfl r2v hse0 rfl hone0 ?_); intro wv rv ov))
            rw [hQ.out]
            refine bodyPost_ret (v := .tuple #[enV [] v0 nilS nilS nilS 0, .int .i64 3]) ?_ rfl ⟨[], v0, 0, nilS, nilS, nilS, 3, rfl, ⟨SlV.nil _ _, SlV.nil _ _, SlV.nil _ _⟩, ⟨by simp [v0], by simp [v0], by simp [v0]⟩, by simp [v0], by simp, (BU.trans (ov.below hg2w)), .inr ⟨rfl, hok, rfl, rfl, rfl⟩⟩
            exact results_rt2 Tryz.results15 _ _ g2 28 _ _ _ rfl rv Tryz.underlying28 rfl (szEnt [] v0 nilS nilS nilS 0) rfl
        · have hok : ¬ decOk b := fun h => h0 (heq.2 (hdk.1 h).1)
          have hne : (ec != 0) = true := by rw [bne_iff_ne]; exact h0
          replace hec := hide hec
          replace h0 := hide h0
          clear heq hb8 hbb hb hdk he9 hsame
          go_wp2_with (first
            | (with_reducible refine wl_build (o := ⟨some 107, _, _, _, _, _⟩) rfl 28 [] rfl [] rfl (enC [] v0 nilS nilS nilS 0) builtEn0 ?_)
            | ((with_reducible refine wl_store_row rfl 28 (.tmp 2) (.tmp 107) g2 28 _ (enC [] v0 nilS nilS nilS 0) rfl rfl rfl r2u hse0 rfl hone0 ?_); intro wv rv ov))
          rw [hQ.out]
          refine bodyPost_ret (v := .tuple #[enV [] v0 nilS nilS nilS 0, .int .i64 3]) ?_ rfl ⟨[], v0, 0, nilS, nilS, nilS, 3, rfl, ⟨SlV.nil _ _, SlV.nil _ _, SlV.nil _ _⟩, ⟨by simp [v0], by simp [v0], by simp [v0]⟩, by simp [v0], by simp, (BU.trans (ov.below hg2w)), .inr ⟨rfl, hok, rfl, rfl, rfl⟩⟩
          exact results_rt2 Tryz.results15 _ _ g2 28 _ _ _ rfl rv Tryz.underlying28 rfl (szEnt [] v0 nilS nilS nilS 0) rfl
      · have hok : ¬ decOk b := fun h => h9 (he9 h)
        have hne : (e9 != 0) = true := by rw [bne_iff_ne]; exact h9
        replace hec := hide hec
        replace h9 := hide h9
        clear heq hb8 hbb hb hdk he9 hsame
        go_wp2_with (first
          | (with_reducible refine wl_build (o := ⟨some 107, _, _, _, _, _⟩) rfl 28 [] rfl [] rfl (enC [] v0 nilS nilS nilS 0) builtEn0 ?_)
          | ((with_reducible refine wl_store_row rfl 28 (.tmp 2) (.tmp 107) g2 28 _ (enC [] v0 nilS nilS nilS 0) rfl rfl rfl r2u hse0 rfl hone0 ?_); intro wv rv ov))
        rw [hQ.out]
        refine bodyPost_ret (v := .tuple #[enV [] v0 nilS nilS nilS 0, .int .i64 3]) ?_ rfl ⟨[], v0, 0, nilS, nilS, nilS, 3, rfl, ⟨SlV.nil _ _, SlV.nil _ _, SlV.nil _ _⟩, ⟨by simp [v0], by simp [v0], by simp [v0]⟩, by simp [v0], by simp, (BU.trans (ov.below hg2w)), .inr ⟨rfl, hok, rfl, rfl, rfl⟩⟩
        exact results_rt2 Tryz.results15 _ _ g2 28 _ _ _ rfl rv Tryz.underlying28 rfl (szEnt [] v0 nilS nilS nilS 0) rfl
  · by_cases k2 : k = 2
    · subst k2
      obtain ⟨ip, hip, hiz, his, hib⟩ := pairI
      clear k1
      go_wp2_with (first
        | ((with_reducible refine wl_store rfl 3 (.tmp 27) (.tmp 25) g5 1 28 (enC key v0 nilS nilS nilS at_) (.int .i64 2) rfl (by kernel_rfl) rfl rfl r510 (by simp) rfl ?_); intro w11 r11 o11; replace r11 : Row w11 28 g5 (enC key ⟨2, [], [], [], []⟩ nilS nilS nilS at_) := r11; have r211 := r210.only o11 n25; have hI11 := hI10.grown (grown_only o11) (.inr hgg5); have c0 := r11.cell (j := 1) rfl))
      refine (HM.out _ _ w11 hI11).mono ?_
      rintro en w13 ⟨rfl, hI13, gr13⟩
      have r513 := r11.but (But.gr gr13) n5
      have r213 := r211.but (But.gr gr13) n2
      have B11 := B10.trans (o11.below hg5w)
      have B13 := B11.trans (below_of_grown gr13 hgw B11.size)
      have hgw13 : g < w13.heap.size := hI13.lt.2
      have hg5w13 : g5 < w13.heap.size := r513.lt
      have hg2w13 : g2 < w13.heap.size := r213.lt
      clear HM hI11 r11 r211 gr13 hI10 r510 r210 B10 B11 o11 c0
      have hmI : (m : Int) ≤ 200 := by omega
      go_wp2_with fail
      go_loopw [7] (fun iv wr => ∃ (i : Nat) (ov : Value), i ≤ m ∧ iv = .int .i64 (i : Int) ∧ Row wr 28 g5 (enC key ⟨2, [], [], [], []⟩ ov nilS nilS at_) ∧ OwnP wr w13.heap.size ov (dP i s4).1 ∧ IdS w1.heap.size g (dP i s4).2 wr ∧ ButZ [g, g5] w13 wr) (fun iv _ => m - (intOf iv).toNat)
      case atStart => exact ⟨0, nilS, by omega, rfl, r513, World.ownsRow_nil _ _ _ _, hI13, ⟨rfl, rfl, rfl, Nat.le_refl _, fun _ _ _ => rfl⟩⟩
      case round =>
        clear r513
        obtain ⟨i, ov, hi, rfl, r5, own3, hI, UW⟩ := hrel
        by_cases hlt : i < m
        · have hltI : (i : Int) < (m : Int) := by omega
          have hx5 := dP_by hx4 i
          have hlen := dP_len i s4
          obtain ⟨⟨ls, s5⟩, hd5⟩ : ∃ r, dP i s4 = r := ⟨_, rfl⟩
          obtain ⟨⟨f, s6⟩, hf⟩ : ∃ r, rT 512 s5 = r := ⟨_, rfl⟩
          have hx5' : s5.By := by rw [hd5] at hx5; exact hx5
          have HT := fun wz (hz : IdS w1.heap.size g s5 wz) => ibytesR_any (most := 512) wz hz hx5' (by decide) (by decide)
          rw [hf] at HT
          have hx6 : s6.By := by have := rT_by (most := 512) hx5'; rw [hf] at this; exact this
          obtain ⟨⟨t, s7⟩, ht⟩ : ∃ r, rT 512 s6 = r := ⟨_, rfl⟩
          have hstep := dP_succ hd5 hf ht
          have HC := fun wz (hz : IdS w1.heap.size g s6 wz) => ibytesR_any (most := 512) wz hz hx6 (by decide) (by decide)
          rw [ht] at HC
          replace HC := hide HC
          clear ht
          rw [hd5] at own3 hI hlen
          simp only at own3 hI hlen
          have hm1 : ls.length + 1 ≤ maxLen := by simp only [maxLen]; omega
          have hm2 : (ls.length + 1) * 32 ≤ 140737488355328 := by omega
          replace hstep := hide hstep
          replace hlen := hide hlen
          clear hd5 hf hx5 hx5' hx6
          have hlt9 := hide hlt
          go_wp2_with fail
          refine (HT wr hI).mono ?_
          rintro en w8 ⟨A8, n8, c8, rfl, hs8, hI8, gr8⟩
          have r58 := r5.but (But.gr gr8) n5
          have own8 := own_butB own3 (.gr gr8) (fun k hk => by simp only [List.mem_singleton] at hk; omega)
          have U8 : ButZ [g, g5] w13 w8 := UW.trans (ButZ.gr gr8).more
          have c0 := r58.cell (j := 1) rfl
      
          clear HT r5 own3 hI UW gr8
          go_wp2_with (first
            | (with_reducible refine wl_run (o := ⟨some 46, _, _, _, _, _⟩) rfl (encStr f) (run_toStrN 31 9 5 (.tmp 45) f rfl rfl hs8 Tryz.underlying31 Tryz.underlying5 Tryz.underlying9) ?_))
          rename_i K9 hK9
          refine wp_region_vals [5, 8, 9, 12] (SRDp g g5 f t ov) (JD w13 g (IdS w1.heap.size g s6) (fun v w => ByF (nb t) v w ∧ IdS w1.heap.size g s7 w) (IdS w1.heap.size g s7) 87 2 ls.length ov (prC ls) [encStr f, encStr t] 28 g5 [encStr key, .int .i64 2, encStr []] [nilS, nilS, .int .i64 at_]) (by kernel_rfl) (by kernel_rfl) (by kernel_rfl) (by kernel_rfl) (by kernel_rfl) (JD.start (hI8.later (Below.refl _ _).drew) U8 own8 r58) ?obs9 ?he9
          case obs9 =>
            have hglt := hgw13
            have hg3lt := hg5w13
            have hg3 := n5
            have hgg3 := hgg5
            refine ⟨?_, ?_, ?_, ?_, ?_, ?_, ?_, ?_, ?_, ?_, ?_, ?_, ?_, trivial⟩
            · refine .inl ⟨by kernel_rfl, fun L a1 w1 n h => ⟨.pointer (some ⟨g5, 1, none⟩), rfl, ?_⟩⟩
              have e0 : a1.eval (.tmp 5) = _ := h.var n 5 (by kernel_rfl)
              unfold execOp
              simp only [e0]
              go_simp
            · refine .inl ⟨by kernel_rfl, fun L a1 w1 n h => ⟨.pointer (some ⟨g5, 3, none⟩), rfl, ?_⟩⟩
              have e0 : a1.eval (.tmp 51) = _ := h.dep n 0 51 (by kernel_rfl) rfl
              unfold execOp
              simp only [e0]
              go_simp
            · exact .inl ⟨by kernel_rfl, fun L a1 w1 n h => ⟨_, rfl, run_load1 22 (.tmp 52) g5 3 _ rfl Tryz.isAgg22 (h.dep n 1 52 (by kernel_rfl) rfl) ((h.inv.2.2.2.2.2.2.1 ((bits_at rfl).trans (n.later (by kernel_rfl)))).cell (j := 3) rfl)⟩⟩
            · exact .inl ⟨by kernel_rfl, fun L a1 w1 n h => ⟨_, rfl, run_move (.tmp 8) rfl (h.var n 8 (by kernel_rfl))⟩⟩
            · exact .inl ⟨by kernel_rfl, fun L a1 w1 n h => ⟨_, rfl, run_move (.tmp 4) rfl (h.var n 4 (by kernel_rfl))⟩⟩
            · refine .inr fun L a1 w1 n h K hK => ?_
              have no0 : L.getD 5 false = false := n.not_yet
              have no1 : L.getD 8 false = false := n.later (by kernel_rfl)
              have no2 : L.getD 9 false = false := n.later (by kernel_rfl)
              have no3 : L.getD 12 false = false := n.later (by kernel_rfl)
              have hD := h.inv.2.1 ((bits_at rfl).trans no0)
              have y0 : a1.eval (.tmp 55) = ptr g := h.dep n 4 55 (by kernel_rfl) rfl
              refine st_call 60 _ _ #[ptr g, .int .i64 512] rfl Tryz.call60 (by simp only [List.map_toArray, List.map_cons, List.map_nil, y0]; rfl) (HC.out w1 hD) ?_
              rintro e9 w9 ⟨A9, n9, c9, rfl, hB9, hR9, gr9⟩
              exact ⟨_, rfl, hK _ w9 trivial (JD.called h.inv (ButZ.gr gr9) ⟨⟨A9, n9, c9, rfl, hB9⟩, hR9⟩ hglt hg3 ((bits_at rfl).trans no2) ((bits_at rfl).trans no3) rfl no1 no2 no3)⟩
            · refine .inl ⟨by kernel_rfl, fun L a1 w1 n h => ⟨encStr t, rfl, ?_⟩⟩
              obtain ⟨⟨A9, n9, c9, ev, hB⟩, _⟩ := h.inv.2.2.1 ((bits_at rfl).trans (n.dep (by kernel_rfl))) ((bits_at rfl).trans (n.later (by kernel_rfl)))
              exact run_toStrN 31 9 5 (.tmp 56) t rfl ev hB Tryz.underlying31 Tryz.underlying5 Tryz.underlying9
            · refine .inl ⟨by kernel_rfl, fun L a1 w1 n h => ⟨.agg [encStr f, encStr t].toArray, rfl, ?_⟩⟩
              have e0 : a1.eval (.tmp 54) = encStr f := h.dep n 3 54 (by kernel_rfl) rfl
              have e1 : a1.eval (.tmp 57) = encStr t := h.dep n 6 57 (by kernel_rfl) rfl
              exact run_buildX 87 [(0, .tmp 54), (1, .tmp 57)] rfl [(0, encStr f), (1, encStr t)] (by simp only [List.map_cons, List.map_nil, e0, e1]) _ (builtPr f t)
            · refine .inr fun L a1 w1 n h K hK => ?_
              have yes0 : L.getD 5 false = true := n.dep (by kernel_rfl)
              have no2 : L.getD 9 false = false := n.later (by kernel_rfl)
              have no3 : L.getD 12 false = false := n.later (by kernel_rfl)
              have y0 : a1.eval (.tmp 58) = .agg [encStr f, encStr t].toArray := h.dep n 7 58 (by kernel_rfl) rfl
              refine st_build1B 22 (.tmp 58) rfl 87 ip _ [encStr f, encStr t] 2 Tryz.underlying22 hip hiz rfl his rfl (by decide) (by decide) y0 ?_
              intro g9 w9 r9 p9 l9 b9
              exact hK _ w9 trivial (JD.built h.inv b9 rfl r9 (fun u hu => DLb hu b9) ((bits_at rfl).trans yes0) ((bits_at rfl).trans no2) ((bits_at rfl).trans no3) rfl yes0 no2 no3)
            · refine .inr fun L a1 w1 n h K hK => ?_
              have yes0 : L.getD 5 false = true := n.dep (by kernel_rfl)
              have yes1 : L.getD 8 false = true := n.dep (by kernel_rfl)
              have no2 : L.getD 9 false = false := n.not_yet
              have no3 : L.getD 12 false = false := n.later (by kernel_rfl)
              obtain ⟨g2, eu, r2⟩ := h.inv.2.2.2.1 ((bits_at rfl).trans yes1) ((bits_at rfl).trans no2)
              have own2 := h.inv.2.2.2.2.1 ((bits_at rfl).trans no2)
              have hsz2 := h.inv.1.size
              refine st_append_at (.tmp 53) (.tmp 59) 22 rfl _ 87 ip _ 2 32 Tryz.underlying22 hip hiz his hib rfl (by decide) ov ls.length (prC ls) (h.dep n 2 53 (by kernel_rfl) rfl) own2 ⟨g2, 0, none⟩ 1 1 [encStr f, encStr t] eu rfl (row_src r2) (by simp [Value.oneCell', encStr]) hm1 hm2 hsz2 ?_
              intro v9 w9 own9 gr9 at9
              exact hK _ w9 trivial (JD.appended h.inv gr9 own9 (by decide) (fun u hu b => (fun hu b => hu.2.low b hglt) hu b) ((bits_at rfl).trans yes0) ((bits_at rfl).trans no2) ((bits_at rfl).trans no3) yes0 rfl no3)
            · refine .inl ⟨by kernel_rfl, fun L a1 w1 n h => ⟨.pointer (some ⟨g5, 1, none⟩), rfl, ?_⟩⟩
              have e0 : a1.eval (.tmp 5) = _ := h.var n 5 (by kernel_rfl)
              unfold execOp
              simp only [e0]
              go_simp
            · refine .inl ⟨by kernel_rfl, fun L a1 w1 n h => ⟨.pointer (some ⟨g5, 3, none⟩), rfl, ?_⟩⟩
              have e0 : a1.eval (.tmp 61) = _ := h.dep n 10 61 (by kernel_rfl) rfl
              unfold execOp
              simp only [e0]
              go_simp
            · refine .inr fun L a1 w1 n h K hK => ?_
              have yes0 : L.getD 5 false = true := n.dep (by kernel_rfl)
              have yes2 : L.getD 9 false = true := n.dep (by kernel_rfl)
              have no3 : L.getD 12 false = false := n.not_yet
              have own2 := (h.inv.2.2.2.2.2.1 ((bits_at rfl).trans yes2)).1
              refine st_store 22 (.tmp 62) (.tmp 60) g5 3 28 ([encStr key, .int .i64 2, encStr []] ++ ov :: [nilS, nilS, .int .i64 at_]) (a1.eval (.tmp 60)) rfl (by kernel_rfl) (h.dep n 11 62 (by kernel_rfl) rfl) rfl (h.inv.2.2.2.2.2.2.1 ((bits_at rfl).trans no3)) (by simp) (own_one own2) ?_
              intro w9 r9 o9
              exact hK undef w9 trivial (JD.stored h.inv o9 r9 hg3lt (fun hu => (fun hu o => Id.grown hu (grown_only o) (.inr hgg3)) hu o9) ((bits_at rfl).trans yes2) rfl yes0 yes2 rfl)
          case he9 =>
            intro V w9 hV hJ
            obtain ⟨U9, ov9, own9, hD9, r9⟩ := JD.final hJ
            clear hV hJ
            simp only [putOps, List.setIfInBounds_toArray, List.set_cons_succ, List.set_cons_zero, Nat.reduceAdd]
            refine hK9 _ _ ?_
            have own10 : OwnP w9 w13.heap.size ov9 (ls ++ [⟨f, t⟩]) := by rw [OwnP, List.length_append, prC_app]; exact own9
            clear own9 own8 U8 hI8 r58 c0 hs8
            go_wp2_with fail
            go_roundw
            case rel => exact ⟨i + 1, ov9, by have := hlt9.out; omega, by go_num, r9, by rw [hstep.out]; exact own10, by rw [hstep.out]; exact hD9, U9⟩
            case measure => have := hlt9.out; simp [intOf]; omega
        · obtain rfl : i = m := by omega
          have hlen := dP_len i s4
          obtain ⟨⟨ls, s9⟩, hd5⟩ : ∃ r, dP i s4 = r := ⟨_, rfl⟩
          rw [hd5] at own3 hI hlen
          simp only at own3 hI hlen
          have onev := own_one own3
          have hcap := own_cap own3
          have r2w := r213.butz' UW (by simp only [List.mem_cons, List.not_mem_nil, or_false]; omega)
          have BT := B13.trans ((ButZ.below UW (B := w.heap.size) (by simp only [List.mem_cons, List.not_mem_nil, or_false]; rintro k (rfl | rfl); exact hgw; exact hg5w) B13.size))
          replace r5 : Row wr 28 g5 (enC key ⟨2, [], ls, [], []⟩ ov nilS nilS at_) := r5
          have hML := hide (fun (wz : World) (hz : ButZ [g2] wr wz) => (have own9 := own_butB own3 hz (fun k hk => by simp only [List.mem_singleton] at hk; omega); ⟨OwnP.slv own9, SlV.nil _ _, SlV.nil _ _⟩ : VlM wz wz.heap.size (⟨2, [], ls, [], []⟩ : Vl) ov nilS nilS))
          have few : (⟨2, [], ls, [], []⟩ : Vl).Few := ⟨by show ls.length ≤ 220; omega, by simp, by simp⟩
          have htl := hide (show ((⟨2, [], ls, [], []⟩ : Vl).t.length ≤ 512) by simp)
          have hcp := hide (show ∃ A c, nilS = .slice A (⟨2, [], ls, [], []⟩ : Vl).ss.length c ∧ (⟨2, [], ls, [], []⟩ : Vl).ss.length ≤ c from ⟨none, 0, rfl, Nat.le_refl _⟩)
          have hdv := dV_2 h3.out h4.out
          rw [Int.toNat_natCast, hd5] at hdv
          have hxk := hide (show (⟨2, [], ls, [], []⟩ : Vl).k = (dV s2).1.k by rw [hdv])
          have hxy := hide (show 1 ≤ (dV s2).1.k → (dV s2).1.k ≤ 5 → (⟨2, [], ls, [], []⟩ : Vl) = (dV s2).1 from fun _ _ => by rw [hdv])
          have hss := hide (show 1 ≤ (dV s2).1.k → (dV s2).1.k ≤ 5 → s9 = (dV s2).2 from fun _ _ => by rw [hdv])
          have hxx := hdv
          clear hdv
          replace hlen := hide hlen
          replace hcap := hide hcap
          clear hd5 own3 UW B13 r213 hI13 hxx
          have hse := szEnt key (⟨2, [], ls, [], []⟩ : Vl) ov nilS nilS at_
          go_wp2_with (first
            | (with_reducible refine wl_load_row (o := ⟨some 88, _, _, _, _, _⟩) rfl 28 (.tmp 5) g5 28 (enC key (⟨2, [], ls, [], []⟩ : Vl) ov nilS nilS at_) _ rfl rfl r5 Tryz.underlying28 rfl hse ?_))
          refine (rencode_any wr key (⟨2, [], ls, [], []⟩ : Vl) ov nilS nilS at_ (hML.out wr (.of (Below.refl _ _))) few (Nat.le_trans htl.out (by decide)) hcp.out).mono ?_
          rintro en wu ⟨⟨A8, n8, c8, rfl, hb8⟩, b8⟩
          have BU := BT.trans (b8.mono BT.size)
          have hbb := hb.later BU
          have r5u := r5.later b8
          have r2u := r2w.later b8
          have hMU : ∀ wz, ButZ [g2] wu wz → VlM wz wz.heap.size (⟨2, [], ls, [], []⟩ : Vl) ov nilS nilS := fun wz hz => hML.out wz ((ButZ.of b8).trans hz)
          obtain ⟨Ai, ni, ci, _, hblk, _⟩ := hI.later b8
          have ce := hblk.cell 1
          simp only [List.getElem?_toArray, List.getElem?_cons_zero, List.getElem?_cons_succ] at ce
          clear hblk
          have hdk : decOk b ↔ entC key at_ (dV s2).1.rchk = 0 ∧ encB key (dV s2).1 at_ = b := by unfold decOk; rw [hd.out]
          have herr : decOk b → (dV s2).2 = ([], 0) := fun h => by have := decOk_err h; rw [hd.out] at this; exact this
          have hxk' := hxk.out
          have hxy' := hxy.out
          have hss := hss.out
          have heq := ec_zero (key := key) (at_ := at_) hxk' (fun a b => hxy' a b)
          replace hMU := hide hMU
          have he9 : decOk b → s9.2 = 0 := fun h => by
            obtain ⟨q1, q2⟩ := rchk_kind (entC_zero (hdk.1 h).1).1
            rw [hss q1 q2, herr h]
          have hsame : entC key at_ (⟨2, [], ls, [], []⟩ : Vl).rchk = 0 → (⟨2, [], ls, [], []⟩ : Vl) = (dV s2).1 := fun h => ec_same hxk' hxy' h
          obtain ⟨ec, hec⟩ : ∃ ec, ec = entC key at_ (⟨2, [], ls, [], []⟩ : Vl).rchk := ⟨_, rfl⟩
          rw [← hec] at heq hb8 hsame ⊢
          obtain ⟨e9, hee⟩ : ∃ e9, e9 = s9.2 := ⟨_, rfl⟩
          rw [← hee] at he9 ce
          replace hee := hide hee
          clear r5 r2w hI BT b8 hML hxk hxy hxk' hxy' hss herr
          by_cases h9 : e9 = 0
          · subst h9
            by_cases h0 : ec = 0
            · subst h0
              have hxe := hsame rfl
              rw [if_pos rfl] at hb8
              have HQ := rsame_any A8 A n8 c8 n c (encB key (⟨2, [], ls, [], []⟩ : Vl) at_) b wu hb8 hbb (by have := hb8.1; have := (encB_len key (⟨2, [], ls, [], []⟩ : Vl) at_ (entC_zero hec.symm).2.1 (rchk_few (entC_zero hec.symm).1) (rchk_ok (entC_zero hec.symm).1).2); omega) hn
              by_cases he : encB key (⟨2, [], ls, [], []⟩ : Vl) at_ = b
              · rw [decide_eq_true he] at HQ
                have hok := hide (hdk.2 ⟨heq.1 rfl, by rw [← hxe]; exact he⟩)
                replace hec := hide hec
                replace he := hide he
                replace hxe := hide hxe
                clear heq hb8 hbb hb hdk he9 hsame
                go_wp2_with fail
                refine HQ.mono ?_
                rintro en wv ⟨rfl, bv⟩
                have r5v := r5u.later bv
                have r2v := r2u.later bv
                have hMV : ∀ wz, Only g2 wv wz → VlM wz wz.heap.size (⟨2, [], ls, [], []⟩ : Vl) ov nilS nilS := fun wz hz => hMU.out wz ((ButZ.of bv).only hz (.inr (by simp)))
                replace hMV := hide hMV
                have hone7 := (show ∀ u ∈ (enC key ⟨2, [], ls, [], []⟩ ov nilS nilS at_), u.oneCell' = true from fun u hu => by simp only [List.cons_append, List.nil_append, List.mem_cons, List.not_mem_nil, or_false] at hu; rcases hu with rfl | rfl | rfl | rfl | rfl | rfl | rfl <;> first | exact onev | rfl)
                go_wp2_with (first
                  | (with_reducible refine wl_load_row (o := ⟨some 108, _, _, _, _, _⟩) rfl 28 (.tmp 5) g5 28 (enC key (⟨2, [], ls, [], []⟩ : Vl) ov nilS nilS at_) _ rfl rfl r5v Tryz.underlying28 rfl hse ?_)
                  | ((with_reducible refine wl_store_row rfl 28 (.tmp 2) (.tmp 108) g2 28 _ (enC key (⟨2, [], ls, [], []⟩ : Vl) ov nilS nilS at_) rfl rfl rfl r2v hse rfl hone7 ?_); intro wx rx ox))
                rw [hQ.out]
                refine bodyPost_ret (v := .tuple #[enV key (⟨2, [], ls, [], []⟩ : Vl) ov nilS nilS at_, .int .i64 0]) ?_ rfl ⟨key, (⟨2, [], ls, [], []⟩ : Vl), at_, ov, nilS, nilS, 0, rfl, hMV.out _ ox, few, htl.out, hkl, (BU.trans (bv.mono BU.size)).trans (ox.below hg2w), .inl ⟨rfl, hok.out, by rw [hd.out], by rw [hd.out]; exact hxe.out, by rw [hd.out]⟩⟩
                exact results_rt2 Tryz.results15 _ _ g2 28 _ _ _ rfl rx Tryz.underlying28 rfl hse rfl
              · rw [decide_eq_false he] at HQ
                have hok : ¬ decOk b := fun h => he (by rw [hxe]; exact (hdk.1 h).2)
                replace hec := hide hec
                replace hxe := hide hxe
                clear heq hb8 hbb hb he hdk he9 hsame
                go_wp2_with fail
                refine HQ.mono ?_
                rintro en wt' ⟨rfl, bv⟩
                have r2v := r2u.later bv
                have BU := BU.trans (bv.mono BU.size)
                go_wp2_with (first
                  | (with_reducible refine wl_build (o := ⟨some 107, _, _, _, _, _⟩) rfl 28 [] rfl [] rfl (enC [] v0 nilS nilS nilS 0) builtEn0 ?_)
                  | ((with_reducible refine wl_store_row rfl 28 (.tmp 2) (.tmp 107) g2 28 _ (enC [] v0 nilS nilS nilS 0) rfl rfl rfl r2v hse0 rfl hone0 ?_); intro wv rv ov))
                rw [hQ.out]
                refine bodyPost_ret (v := .tuple #[enV [] v0 nilS nilS nilS 0, .int .i64 3]) ?_ rfl ⟨[], v0, 0, nilS, nilS, nilS, 3, rfl, ⟨SlV.nil _ _, SlV.nil _ _, SlV.nil _ _⟩, ⟨by simp [v0], by simp [v0], by simp [v0]⟩, by simp [v0], by simp, (BU.trans (ov.below hg2w)), .inr ⟨rfl, hok, rfl, rfl, rfl⟩⟩
                exact results_rt2 Tryz.results15 _ _ g2 28 _ _ _ rfl rv Tryz.underlying28 rfl (szEnt [] v0 nilS nilS nilS 0) rfl
            · have hok : ¬ decOk b := fun h => h0 (heq.2 (hdk.1 h).1)
              have hne : (ec != 0) = true := by rw [bne_iff_ne]; exact h0
              replace hec := hide hec
              replace h0 := hide h0
              clear heq hb8 hbb hb hdk he9 hsame
              go_wp2_with (first
                | (with_reducible refine wl_build (o := ⟨some 107, _, _, _, _, _⟩) rfl 28 [] rfl [] rfl (enC [] v0 nilS nilS nilS 0) builtEn0 ?_)
                | ((with_reducible refine wl_store_row rfl 28 (.tmp 2) (.tmp 107) g2 28 _ (enC [] v0 nilS nilS nilS 0) rfl rfl rfl r2u hse0 rfl hone0 ?_); intro wv rv ov))
              rw [hQ.out]
              refine bodyPost_ret (v := .tuple #[enV [] v0 nilS nilS nilS 0, .int .i64 3]) ?_ rfl ⟨[], v0, 0, nilS, nilS, nilS, 3, rfl, ⟨SlV.nil _ _, SlV.nil _ _, SlV.nil _ _⟩, ⟨by simp [v0], by simp [v0], by simp [v0]⟩, by simp [v0], by simp, (BU.trans (ov.below hg2w)), .inr ⟨rfl, hok, rfl, rfl, rfl⟩⟩
              exact results_rt2 Tryz.results15 _ _ g2 28 _ _ _ rfl rv Tryz.underlying28 rfl (szEnt [] v0 nilS nilS nilS 0) rfl
          · have hok : ¬ decOk b := fun h => h9 (he9 h)
            have hne : (e9 != 0) = true := by rw [bne_iff_ne]; exact h9
            replace hec := hide hec
            replace h9 := hide h9
            clear heq hb8 hbb hb hdk he9 hsame
            go_wp2_with (first
              | (with_reducible refine wl_build (o := ⟨some 107, _, _, _, _, _⟩) rfl 28 [] rfl [] rfl (enC [] v0 nilS nilS nilS 0) builtEn0 ?_)
              | ((with_reducible refine wl_store_row rfl 28 (.tmp 2) (.tmp 107) g2 28 _ (enC [] v0 nilS nilS nilS 0) rfl rfl rfl r2u hse0 rfl hone0 ?_); intro wv rv ov))
            rw [hQ.out]
            refine bodyPost_ret (v := .tuple #[enV [] v0 nilS nilS nilS 0, .int .i64 3]) ?_ rfl ⟨[], v0, 0, nilS, nilS, nilS, 3, rfl, ⟨SlV.nil _ _, SlV.nil _ _, SlV.nil _ _⟩, ⟨by simp [v0], by simp [v0], by simp [v0]⟩, by simp [v0], by simp, (BU.trans (ov.below hg2w)), .inr ⟨rfl, hok, rfl, rfl, rfl⟩⟩
            exact results_rt2 Tryz.results15 _ _ g2 28 _ _ _ rfl rv Tryz.underlying28 rfl (szEnt [] v0 nilS nilS nilS 0) rfl
    · by_cases k5 : k = 5
      · subst k5
        obtain ⟨ip, hip, hiz, his, hib⟩ := score_info
        clear k1 k2
        go_wp2_with (first
          | ((with_reducible refine wl_store rfl 3 (.tmp 27) (.tmp 25) g5 1 28 (enC key v0 nilS nilS nilS at_) (.int .i64 5) rfl (by kernel_rfl) rfl rfl r510 (by simp) rfl ?_); intro w11 r11 o11; replace r11 : Row w11 28 g5 (enC key ⟨5, [], [], [], []⟩ nilS nilS nilS at_) := r11; have r211 := r210.only o11 n25; have hI11 := hI10.grown (grown_only o11) (.inr hgg5); have c0 := r11.cell (j := 1) rfl))
        refine (HM.out _ _ w11 hI11).mono ?_
        rintro en w13 ⟨rfl, hI13, gr13⟩
        have r513 := r11.but (But.gr gr13) n5
        have r213 := r211.but (But.gr gr13) n2
        have B11 := B10.trans (o11.below hg5w)
        have B13 := B11.trans (below_of_grown gr13 hgw B11.size)
        have hgw13 : g < w13.heap.size := hI13.lt.2
        have hg5w13 : g5 < w13.heap.size := r513.lt
        have hg2w13 : g2 < w13.heap.size := r213.lt
        clear HM hI11 r11 r211 gr13 hI10 r510 r210 B10 B11 o11 c0
        have hmI : (m : Int) ≤ 200 := by omega
        go_wp2_with fail
        go_loopw [7] (fun iv wr => ∃ (i : Nat) (ov : Value), i ≤ m ∧ iv = .int .i64 (i : Int) ∧ Row wr 28 g5 (enC key ⟨5, [], [], [], []⟩ nilS nilS ov at_) ∧ OwnS wr w13.heap.size ov (dS i s4).1 ∧ IdS w1.heap.size g (dS i s4).2 wr ∧ ButZ [g, g5] w13 wr) (fun iv _ => m - (intOf iv).toNat)
        case atStart => exact ⟨0, nilS, by omega, rfl, r513, World.ownsRow_nil _ _ _ _, hI13, ⟨rfl, rfl, rfl, Nat.le_refl _, fun _ _ _ => rfl⟩⟩
        case round =>
          clear r513
          obtain ⟨i, ov, hi, rfl, r5, own3, hI, UW⟩ := hrel
          by_cases hlt : i < m
          · have hltI : (i : Int) < (m : Int) := by omega
            have hx5 := dS_by hx4 i
            have hlen := dS_len i s4
            obtain ⟨⟨ls, s5⟩, hd5⟩ : ∃ r, dS i s4 = r := ⟨_, rfl⟩
            obtain ⟨⟨f, s6⟩, hf⟩ : ∃ r, rT 512 s5 = r := ⟨_, rfl⟩
            have hx5' : s5.By := by rw [hd5] at hx5; exact hx5
            have HT := fun wz (hz : IdS w1.heap.size g s5 wz) => ibytesR_any (most := 512) wz hz hx5' (by decide) (by decide)
            rw [hf] at HT
            have hx6 : s6.By := by have := rT_by (most := 512) hx5'; rw [hf] at this; exact this
            obtain ⟨⟨u, s7⟩, ht⟩ : ∃ r, rU 8 s6 = r := ⟨_, rfl⟩
            have hstep := dS_succ hd5 hf ht
            have HC := fun wz (hz : IdS w1.heap.size g s6 wz) => iuR_any wz hz hx6 8 (by decide) (by decide)
            rw [ht] at HC
            replace HC := hide HC
            clear ht
            rw [hd5] at own3 hI hlen
            simp only at own3 hI hlen
            have hm1 : ls.length + 1 ≤ maxLen := by simp only [maxLen]; omega
            have hm2 : (ls.length + 1) * 24 ≤ 140737488355328 := by omega
            replace hstep := hide hstep
            replace hlen := hide hlen
            clear hd5 hf hx5 hx5' hx6
            have hlt9 := hide hlt
            go_wp2_with fail
            refine (HT wr hI).mono ?_
            rintro en w8 ⟨A8, n8, c8, rfl, hs8, hI8, gr8⟩
            have r58 := r5.but (But.gr gr8) n5
            have own8 := own_butB own3 (.gr gr8) (fun k hk => by simp only [List.mem_singleton] at hk; omega)
            have U8 : ButZ [g, g5] w13 w8 := UW.trans (ButZ.gr gr8).more
            have c0 := r58.cell (j := 1) rfl
        
            clear HT r5 own3 hI UW gr8
            go_wp2_with (first
              | (with_reducible refine wl_run (o := ⟨some 46, _, _, _, _, _⟩) rfl (encStr f) (run_toStrN 31 9 5 (.tmp 45) f rfl rfl hs8 Tryz.underlying31 Tryz.underlying5 Tryz.underlying9) ?_))
            rename_i K9 hK9
            refine wp_region_vals [5, 8, 9, 12] (SRDs g g5 f u ov) (JD w13 g (IdS w1.heap.size g s6) (fun v w => v = .int .u64 u ∧ IdS w1.heap.size g s7 w) (IdS w1.heap.size g s7) 99 2 ls.length ov (scsC ls) [encStr f, .int .i64 (IntKind.i64.wrap u)] 28 g5 [encStr key, .int .i64 5, encStr [], nilS, nilS] [.int .i64 at_]) (by kernel_rfl) (by kernel_rfl) (by kernel_rfl) (by kernel_rfl) (by kernel_rfl) (JD.start (hI8.later (Below.refl _ _).drew) U8 own8 r58) ?obs9 ?he9
            case obs9 =>
              have hglt := hgw13
              have hg3lt := hg5w13
              have hg3 := n5
              have hgg3 := hgg5
              refine ⟨?_, ?_, ?_, ?_, ?_, ?_, ?_, ?_, ?_, ?_, ?_, ?_, ?_, trivial⟩
              · refine .inl ⟨by kernel_rfl, fun L a1 w1 n h => ⟨.pointer (some ⟨g5, 1, none⟩), rfl, ?_⟩⟩
                have e0 : a1.eval (.tmp 5) = _ := h.var n 5 (by kernel_rfl)
                unfold execOp
                simp only [e0]
                go_simp
              · refine .inl ⟨by kernel_rfl, fun L a1 w1 n h => ⟨.pointer (some ⟨g5, 5, none⟩), rfl, ?_⟩⟩
                have e0 : a1.eval (.tmp 67) = _ := h.dep n 0 67 (by kernel_rfl) rfl
                unfold execOp
                simp only [e0]
                go_simp
              · exact .inl ⟨by kernel_rfl, fun L a1 w1 n h => ⟨_, rfl, run_load1 24 (.tmp 68) g5 5 _ rfl Tryz.isAgg24 (h.dep n 1 68 (by kernel_rfl) rfl) ((h.inv.2.2.2.2.2.2.1 ((bits_at rfl).trans (n.later (by kernel_rfl)))).cell (j := 5) rfl)⟩⟩
              · exact .inl ⟨by kernel_rfl, fun L a1 w1 n h => ⟨_, rfl, run_move (.tmp 8) rfl (h.var n 8 (by kernel_rfl))⟩⟩
              · exact .inl ⟨by kernel_rfl, fun L a1 w1 n h => ⟨_, rfl, run_move (.tmp 4) rfl (h.var n 4 (by kernel_rfl))⟩⟩
              · refine .inr fun L a1 w1 n h K hK => ?_
                have no0 : L.getD 5 false = false := n.not_yet
                have no1 : L.getD 8 false = false := n.later (by kernel_rfl)
                have no2 : L.getD 9 false = false := n.later (by kernel_rfl)
                have no3 : L.getD 12 false = false := n.later (by kernel_rfl)
                have hD := h.inv.2.1 ((bits_at rfl).trans no0)
                have y0 : a1.eval (.tmp 71) = ptr g := h.dep n 4 71 (by kernel_rfl) rfl
                refine st_call 62 _ _ #[ptr g, .int .i64 8] rfl Tryz.call62 (by simp only [List.map_toArray, List.map_cons, List.map_nil, y0]; rfl) (HC.out w1 hD) ?_
                rintro e9 w9 ⟨rfl, hR9, gr9⟩
                exact ⟨_, rfl, hK _ w9 rfl (JD.called h.inv (ButZ.gr gr9) ⟨rfl, hR9⟩ hglt hg3 ((bits_at rfl).trans no2) ((bits_at rfl).trans no3) rfl no1 no2 no3)⟩
              · refine .inl ⟨by kernel_rfl, fun L a1 w1 n h => ⟨.int .i64 (IntKind.i64.wrap u), rfl, ?_⟩⟩
                have e0 : a1.eval (.tmp 72) = _ := h.dep n 5 72 (by kernel_rfl) rfl
                unfold execOp
                simp only [e0]
                go_simp
              · refine .inl ⟨by kernel_rfl, fun L a1 w1 n h => ⟨.agg [encStr f, .int .i64 (IntKind.i64.wrap u)].toArray, rfl, ?_⟩⟩
                have e0 : a1.eval (.tmp 70) = encStr f := h.dep n 3 70 (by kernel_rfl) rfl
                have e1 : a1.eval (.tmp 73) = .int .i64 (IntKind.i64.wrap u) := h.dep n 6 73 (by kernel_rfl) rfl
                exact run_buildX 99 [(0, .tmp 70), (1, .tmp 73)] rfl [(0, encStr f), (1, .int .i64 (IntKind.i64.wrap u))] (by simp only [List.map_cons, List.map_nil, e0, e1]) _ (builtSc f _)
              · refine .inr fun L a1 w1 n h K hK => ?_
                have yes0 : L.getD 5 false = true := n.dep (by kernel_rfl)
                have no2 : L.getD 9 false = false := n.later (by kernel_rfl)
                have no3 : L.getD 12 false = false := n.later (by kernel_rfl)
                have y0 : a1.eval (.tmp 74) = .agg [encStr f, .int .i64 (IntKind.i64.wrap u)].toArray := h.dep n 7 74 (by kernel_rfl) rfl
                refine st_build1B 24 (.tmp 74) rfl 99 ip _ [encStr f, .int .i64 (IntKind.i64.wrap u)] 2 Tryz.underlying24 hip hiz rfl his rfl (by decide) (by decide) y0 ?_
                intro g9 w9 r9 p9 l9 b9
                exact hK _ w9 trivial (JD.built h.inv b9 rfl r9 (fun u hu => DLi hu b9) ((bits_at rfl).trans yes0) ((bits_at rfl).trans no2) ((bits_at rfl).trans no3) rfl yes0 no2 no3)
              · refine .inr fun L a1 w1 n h K hK => ?_
                have yes0 : L.getD 5 false = true := n.dep (by kernel_rfl)
                have yes1 : L.getD 8 false = true := n.dep (by kernel_rfl)
                have no2 : L.getD 9 false = false := n.not_yet
                have no3 : L.getD 12 false = false := n.later (by kernel_rfl)
                obtain ⟨g2, eu, r2⟩ := h.inv.2.2.2.1 ((bits_at rfl).trans yes1) ((bits_at rfl).trans no2)
                have own2 := h.inv.2.2.2.2.1 ((bits_at rfl).trans no2)
                have hsz2 := h.inv.1.size
                refine st_append_at (.tmp 69) (.tmp 75) 24 rfl _ 99 ip _ 2 24 Tryz.underlying24 hip hiz his hib rfl (by decide) ov ls.length (scsC ls) (h.dep n 2 69 (by kernel_rfl) rfl) own2 ⟨g2, 0, none⟩ 1 1 [encStr f, .int .i64 (IntKind.i64.wrap u)] eu rfl (row_src r2) (by simp [Value.oneCell', encStr]) hm1 hm2 hsz2 ?_
                intro v9 w9 own9 gr9 at9
                exact hK _ w9 trivial (JD.appended h.inv gr9 own9 (by decide) (fun u hu b => (fun hu b => hu.2.low b hglt) hu b) ((bits_at rfl).trans yes0) ((bits_at rfl).trans no2) ((bits_at rfl).trans no3) yes0 rfl no3)
              · refine .inl ⟨by kernel_rfl, fun L a1 w1 n h => ⟨.pointer (some ⟨g5, 1, none⟩), rfl, ?_⟩⟩
                have e0 : a1.eval (.tmp 5) = _ := h.var n 5 (by kernel_rfl)
                unfold execOp
                simp only [e0]
                go_simp
              · refine .inl ⟨by kernel_rfl, fun L a1 w1 n h => ⟨.pointer (some ⟨g5, 5, none⟩), rfl, ?_⟩⟩
                have e0 : a1.eval (.tmp 77) = _ := h.dep n 10 77 (by kernel_rfl) rfl
                unfold execOp
                simp only [e0]
                go_simp
              · refine .inr fun L a1 w1 n h K hK => ?_
                have yes0 : L.getD 5 false = true := n.dep (by kernel_rfl)
                have yes2 : L.getD 9 false = true := n.dep (by kernel_rfl)
                have no3 : L.getD 12 false = false := n.not_yet
                have own2 := (h.inv.2.2.2.2.2.1 ((bits_at rfl).trans yes2)).1
                refine st_store 24 (.tmp 78) (.tmp 76) g5 5 28 ([encStr key, .int .i64 5, encStr [], nilS, nilS] ++ ov :: [.int .i64 at_]) (a1.eval (.tmp 76)) rfl (by kernel_rfl) (h.dep n 11 78 (by kernel_rfl) rfl) rfl (h.inv.2.2.2.2.2.2.1 ((bits_at rfl).trans no3)) (by simp) (own_one own2) ?_
                intro w9 r9 o9
                exact hK undef w9 trivial (JD.stored h.inv o9 r9 hg3lt (fun hu => (fun hu o => Id.grown hu (grown_only o) (.inr hgg3)) hu o9) ((bits_at rfl).trans yes2) rfl yes0 yes2 rfl)
            case he9 =>
              intro V w9 hV hJ
              obtain ⟨U9, ov9, own9, hD9, r9⟩ := JD.final hJ
              clear hV hJ
              simp only [putOps, List.setIfInBounds_toArray, List.set_cons_succ, List.set_cons_zero, Nat.reduceAdd]
              refine hK9 _ _ ?_
              have own10 : OwnS w9 w13.heap.size ov9 (ls ++ [⟨f, IntKind.i64.wrap u⟩]) := by rw [OwnS, List.length_append, scsC_app]; exact own9
              clear own9 own8 U8 hI8 r58 c0 hs8
              go_wp2_with fail
              go_roundw
              case rel => exact ⟨i + 1, ov9, by have := hlt9.out; omega, by go_num, r9, by rw [hstep.out]; exact own10, by rw [hstep.out]; exact hD9, U9⟩
              case measure => have := hlt9.out; simp [intOf]; omega
          · obtain rfl : i = m := by omega
            have hlen := dS_len i s4
            obtain ⟨⟨ls, s9⟩, hd5⟩ : ∃ r, dS i s4 = r := ⟨_, rfl⟩
            rw [hd5] at own3 hI hlen
            simp only at own3 hI hlen
            have onev := own_one own3
            have hcap := own_cap own3
            have r2w := r213.butz' UW (by simp only [List.mem_cons, List.not_mem_nil, or_false]; omega)
            have BT := B13.trans ((ButZ.below UW (B := w.heap.size) (by simp only [List.mem_cons, List.not_mem_nil, or_false]; rintro k (rfl | rfl); exact hgw; exact hg5w) B13.size))
            replace r5 : Row wr 28 g5 (enC key ⟨5, [], [], [], ls⟩ nilS nilS ov at_) := r5
            have hML := hide (fun (wz : World) (hz : ButZ [g2] wr wz) => (have own9 := own_butB own3 hz (fun k hk => by simp only [List.mem_singleton] at hk; omega); ⟨SlV.nil _ _, SlV.nil _ _, OwnS.slvS own9⟩ : VlM wz wz.heap.size (⟨5, [], [], [], ls⟩ : Vl) nilS nilS ov))
            have few : (⟨5, [], [], [], ls⟩ : Vl).Few := ⟨by simp, by simp, by show ls.length ≤ 220; omega⟩
            have htl := hide (show ((⟨5, [], [], [], ls⟩ : Vl).t.length ≤ 512) by simp)
            have hcp := hide (show ∃ A c, ov = .slice A (⟨5, [], [], [], ls⟩ : Vl).ss.length c ∧ (⟨5, [], [], [], ls⟩ : Vl).ss.length ≤ c from hcap)
            have hdv := dV_5 h3.out h4.out
            rw [Int.toNat_natCast, hd5] at hdv
            have hxk := hide (show (⟨5, [], [], [], ls⟩ : Vl).k = (dV s2).1.k by rw [hdv])
            have hxy := hide (show 1 ≤ (dV s2).1.k → (dV s2).1.k ≤ 5 → (⟨5, [], [], [], ls⟩ : Vl) = (dV s2).1 from fun _ _ => by rw [hdv])
            have hss := hide (show 1 ≤ (dV s2).1.k → (dV s2).1.k ≤ 5 → s9 = (dV s2).2 from fun _ _ => by rw [hdv])
            have hxx := hdv
            clear hdv
            replace hlen := hide hlen
            replace hcap := hide hcap
            clear hd5 own3 UW B13 r213 hI13 hxx
            have hse := szEnt key (⟨5, [], [], [], ls⟩ : Vl) nilS nilS ov at_
            go_wp2_with (first
              | (with_reducible refine wl_load_row (o := ⟨some 88, _, _, _, _, _⟩) rfl 28 (.tmp 5) g5 28 (enC key (⟨5, [], [], [], ls⟩ : Vl) nilS nilS ov at_) _ rfl rfl r5 Tryz.underlying28 rfl hse ?_))
            refine (rencode_any wr key (⟨5, [], [], [], ls⟩ : Vl) nilS nilS ov at_ (hML.out wr (.of (Below.refl _ _))) few (Nat.le_trans htl.out (by decide)) hcp.out).mono ?_
            rintro en wu ⟨⟨A8, n8, c8, rfl, hb8⟩, b8⟩
            have BU := BT.trans (b8.mono BT.size)
            have hbb := hb.later BU
            have r5u := r5.later b8
            have r2u := r2w.later b8
            have hMU : ∀ wz, ButZ [g2] wu wz → VlM wz wz.heap.size (⟨5, [], [], [], ls⟩ : Vl) nilS nilS ov := fun wz hz => hML.out wz ((ButZ.of b8).trans hz)
            obtain ⟨Ai, ni, ci, _, hblk, _⟩ := hI.later b8
            have ce := hblk.cell 1
            simp only [List.getElem?_toArray, List.getElem?_cons_zero, List.getElem?_cons_succ] at ce
            clear hblk
            have hdk : decOk b ↔ entC key at_ (dV s2).1.rchk = 0 ∧ encB key (dV s2).1 at_ = b := by unfold decOk; rw [hd.out]
            have herr : decOk b → (dV s2).2 = ([], 0) := fun h => by have := decOk_err h; rw [hd.out] at this; exact this
            have hxk' := hxk.out
            have hxy' := hxy.out
            have hss := hss.out
            have heq := ec_zero (key := key) (at_ := at_) hxk' (fun a b => hxy' a b)
            replace hMU := hide hMU
            have he9 : decOk b → s9.2 = 0 := fun h => by
              obtain ⟨q1, q2⟩ := rchk_kind (entC_zero (hdk.1 h).1).1
              rw [hss q1 q2, herr h]
            have hsame : entC key at_ (⟨5, [], [], [], ls⟩ : Vl).rchk = 0 → (⟨5, [], [], [], ls⟩ : Vl) = (dV s2).1 := fun h => ec_same hxk' hxy' h
            obtain ⟨ec, hec⟩ : ∃ ec, ec = entC key at_ (⟨5, [], [], [], ls⟩ : Vl).rchk := ⟨_, rfl⟩
            rw [← hec] at heq hb8 hsame ⊢
            obtain ⟨e9, hee⟩ : ∃ e9, e9 = s9.2 := ⟨_, rfl⟩
            rw [← hee] at he9 ce
            replace hee := hide hee
            clear r5 r2w hI BT b8 hML hxk hxy hxk' hxy' hss herr
            by_cases h9 : e9 = 0
            · subst h9
              by_cases h0 : ec = 0
              · subst h0
                have hxe := hsame rfl
                rw [if_pos rfl] at hb8
                have HQ := rsame_any A8 A n8 c8 n c (encB key (⟨5, [], [], [], ls⟩ : Vl) at_) b wu hb8 hbb (by have := hb8.1; have := (encB_len key (⟨5, [], [], [], ls⟩ : Vl) at_ (entC_zero hec.symm).2.1 (rchk_few (entC_zero hec.symm).1) (rchk_ok (entC_zero hec.symm).1).2); omega) hn
                by_cases he : encB key (⟨5, [], [], [], ls⟩ : Vl) at_ = b
                · rw [decide_eq_true he] at HQ
                  have hok := hide (hdk.2 ⟨heq.1 rfl, by rw [← hxe]; exact he⟩)
                  replace hec := hide hec
                  replace he := hide he
                  replace hxe := hide hxe
                  clear heq hb8 hbb hb hdk he9 hsame
                  go_wp2_with fail
                  refine HQ.mono ?_
                  rintro en wv ⟨rfl, bv⟩
                  have r5v := r5u.later bv
                  have r2v := r2u.later bv
                  have hMV : ∀ wz, Only g2 wv wz → VlM wz wz.heap.size (⟨5, [], [], [], ls⟩ : Vl) nilS nilS ov := fun wz hz => hMU.out wz ((ButZ.of bv).only hz (.inr (by simp)))
                  replace hMV := hide hMV
                  have hone7 := (show ∀ u ∈ (enC key ⟨5, [], [], [], ls⟩ nilS nilS ov at_), u.oneCell' = true from fun u hu => by simp only [List.cons_append, List.nil_append, List.mem_cons, List.not_mem_nil, or_false] at hu; rcases hu with rfl | rfl | rfl | rfl | rfl | rfl | rfl <;> first | exact onev | rfl)
                  go_wp2_with (first
                    | (with_reducible refine wl_load_row (o := ⟨some 108, _, _, _, _, _⟩) rfl 28 (.tmp 5) g5 28 (enC key (⟨5, [], [], [], ls⟩ : Vl) nilS nilS ov at_) _ rfl rfl r5v Tryz.underlying28 rfl hse ?_)
                    | ((with_reducible refine wl_store_row rfl 28 (.tmp 2) (.tmp 108) g2 28 _ (enC key (⟨5, [], [], [], ls⟩ : Vl) nilS nilS ov at_) rfl rfl rfl r2v hse rfl hone7 ?_); intro wx rx ox))
                  rw [hQ.out]
                  refine bodyPost_ret (v := .tuple #[enV key (⟨5, [], [], [], ls⟩ : Vl) nilS nilS ov at_, .int .i64 0]) ?_ rfl ⟨key, (⟨5, [], [], [], ls⟩ : Vl), at_, nilS, nilS, ov, 0, rfl, hMV.out _ ox, few, htl.out, hkl, (BU.trans (bv.mono BU.size)).trans (ox.below hg2w), .inl ⟨rfl, hok.out, by rw [hd.out], by rw [hd.out]; exact hxe.out, by rw [hd.out]⟩⟩
                  exact results_rt2 Tryz.results15 _ _ g2 28 _ _ _ rfl rx Tryz.underlying28 rfl hse rfl
                · rw [decide_eq_false he] at HQ
                  have hok : ¬ decOk b := fun h => he (by rw [hxe]; exact (hdk.1 h).2)
                  replace hec := hide hec
                  replace hxe := hide hxe
                  clear heq hb8 hbb hb he hdk he9 hsame
                  go_wp2_with fail
                  refine HQ.mono ?_
                  rintro en wt' ⟨rfl, bv⟩
                  have r2v := r2u.later bv
                  have BU := BU.trans (bv.mono BU.size)
                  go_wp2_with (first
                    | (with_reducible refine wl_build (o := ⟨some 107, _, _, _, _, _⟩) rfl 28 [] rfl [] rfl (enC [] v0 nilS nilS nilS 0) builtEn0 ?_)
                    | ((with_reducible refine wl_store_row rfl 28 (.tmp 2) (.tmp 107) g2 28 _ (enC [] v0 nilS nilS nilS 0) rfl rfl rfl r2v hse0 rfl hone0 ?_); intro wv rv ov))
                  rw [hQ.out]
                  refine bodyPost_ret (v := .tuple #[enV [] v0 nilS nilS nilS 0, .int .i64 3]) ?_ rfl ⟨[], v0, 0, nilS, nilS, nilS, 3, rfl, ⟨SlV.nil _ _, SlV.nil _ _, SlV.nil _ _⟩, ⟨by simp [v0], by simp [v0], by simp [v0]⟩, by simp [v0], by simp, (BU.trans (ov.below hg2w)), .inr ⟨rfl, hok, rfl, rfl, rfl⟩⟩
                  exact results_rt2 Tryz.results15 _ _ g2 28 _ _ _ rfl rv Tryz.underlying28 rfl (szEnt [] v0 nilS nilS nilS 0) rfl
              · have hok : ¬ decOk b := fun h => h0 (heq.2 (hdk.1 h).1)
                have hne : (ec != 0) = true := by rw [bne_iff_ne]; exact h0
                replace hec := hide hec
                replace h0 := hide h0
                clear heq hb8 hbb hb hdk he9 hsame
                go_wp2_with (first
                  | (with_reducible refine wl_build (o := ⟨some 107, _, _, _, _, _⟩) rfl 28 [] rfl [] rfl (enC [] v0 nilS nilS nilS 0) builtEn0 ?_)
                  | ((with_reducible refine wl_store_row rfl 28 (.tmp 2) (.tmp 107) g2 28 _ (enC [] v0 nilS nilS nilS 0) rfl rfl rfl r2u hse0 rfl hone0 ?_); intro wv rv ov))
                rw [hQ.out]
                refine bodyPost_ret (v := .tuple #[enV [] v0 nilS nilS nilS 0, .int .i64 3]) ?_ rfl ⟨[], v0, 0, nilS, nilS, nilS, 3, rfl, ⟨SlV.nil _ _, SlV.nil _ _, SlV.nil _ _⟩, ⟨by simp [v0], by simp [v0], by simp [v0]⟩, by simp [v0], by simp, (BU.trans (ov.below hg2w)), .inr ⟨rfl, hok, rfl, rfl, rfl⟩⟩
                exact results_rt2 Tryz.results15 _ _ g2 28 _ _ _ rfl rv Tryz.underlying28 rfl (szEnt [] v0 nilS nilS nilS 0) rfl
            · have hok : ¬ decOk b := fun h => h9 (he9 h)
              have hne : (e9 != 0) = true := by rw [bne_iff_ne]; exact h9
              replace hec := hide hec
              replace h9 := hide h9
              clear heq hb8 hbb hb hdk he9 hsame
              go_wp2_with (first
                | (with_reducible refine wl_build (o := ⟨some 107, _, _, _, _, _⟩) rfl 28 [] rfl [] rfl (enC [] v0 nilS nilS nilS 0) builtEn0 ?_)
                | ((with_reducible refine wl_store_row rfl 28 (.tmp 2) (.tmp 107) g2 28 _ (enC [] v0 nilS nilS nilS 0) rfl rfl rfl r2u hse0 rfl hone0 ?_); intro wv rv ov))
              rw [hQ.out]
              refine bodyPost_ret (v := .tuple #[enV [] v0 nilS nilS nilS 0, .int .i64 3]) ?_ rfl ⟨[], v0, 0, nilS, nilS, nilS, 3, rfl, ⟨SlV.nil _ _, SlV.nil _ _, SlV.nil _ _⟩, ⟨by simp [v0], by simp [v0], by simp [v0]⟩, by simp [v0], by simp, (BU.trans (ov.below hg2w)), .inr ⟨rfl, hok, rfl, rfl, rfl⟩⟩
              exact results_rt2 Tryz.results15 _ _ g2 28 _ _ _ rfl rv Tryz.underlying28 rfl (szEnt [] v0 nilS nilS nilS 0) rfl
      · obtain ⟨ip, hip, hiz, his, hib⟩ := wordI
        have e1 : (k == 1) = false := beq_eq_false_iff_ne.2 k1
        have e2 : (k == 2) = false := beq_eq_false_iff_ne.2 k2
        have e5 : (k == 5) = false := beq_eq_false_iff_ne.2 k5
        have hwk := hwk.out
        replace k1 := hide k1
        replace k2 := hide k2
        replace k5 := hide k5
        go_wp2_with (first
          | ((with_reducible refine wl_store rfl 3 (.tmp 27) (.tmp 25) g5 1 28 (enC key v0 nilS nilS nilS at_) (.int .i64 k) rfl (by kernel_rfl) rfl rfl r510 (by simp) rfl ?_); intro w11 r11 o11; replace r11 : Row w11 28 g5 (enC key ⟨k, [], [], [], []⟩ nilS nilS nilS at_) := r11; have r211 := r210.only o11 n25; have hI11 := hI10.grown (grown_only o11) (.inr hgg5); have c0 := r11.cell (j := 1) rfl))
        refine (HM.out _ _ w11 hI11).mono ?_
        rintro en w13 ⟨rfl, hI13, gr13⟩
        have r513 := r11.but (But.gr gr13) n5
        have r213 := r211.but (But.gr gr13) n2
        have B11 := B10.trans (o11.below hg5w)
        have B13 := B11.trans (below_of_grown gr13 hgw B11.size)
        have hgw13 : g < w13.heap.size := hI13.lt.2
        have hg5w13 : g5 < w13.heap.size := r513.lt
        have hg2w13 : g2 < w13.heap.size := r213.lt
        clear HM hI11 r11 r211 gr13 hI10 r510 r210 B10 B11 o11 c0
        have hmI : (m : Int) ≤ 200 := by omega
        go_wp2_with fail
        go_loopw [7] (fun iv wr => ∃ (i : Nat) (ov : Value), i ≤ m ∧ iv = .int .i64 (i : Int) ∧ Row wr 28 g5 (enC key ⟨k, [], [], [], []⟩ nilS ov nilS at_) ∧ OwnW wr w13.heap.size ov (dL i s4).1 ∧ IdS w1.heap.size g (dL i s4).2 wr ∧ ButZ [g, g5] w13 wr) (fun iv _ => m - (intOf iv).toNat)
        case atStart => exact ⟨0, nilS, by omega, rfl, r513, World.ownsRow_nil _ _ _ _, hI13, ⟨rfl, rfl, rfl, Nat.le_refl _, fun _ _ _ => rfl⟩⟩
        case round =>
          clear r513
          obtain ⟨i, ov, hi, rfl, r5, own3, hI, UW⟩ := hrel
          by_cases hlt : i < m
          · have hltI : (i : Int) < (m : Int) := by omega
            have hx5 := dL_by hx4 i
            have hlen := dL_len i s4
            obtain ⟨⟨ls, s5⟩, hd5⟩ : ∃ r, dL i s4 = r := ⟨_, rfl⟩
            obtain ⟨⟨f, s6⟩, hf⟩ : ∃ r, rT 512 s5 = r := ⟨_, rfl⟩
            have hx5' : s5.By := by rw [hd5] at hx5; exact hx5
            have HT := fun wz (hz : IdS w1.heap.size g s5 wz) => ibytesR_any (most := 512) wz hz hx5' (by decide) (by decide)
            rw [hf] at HT
            have hx6 : s6.By := by have := rT_by (most := 512) hx5'; rw [hf] at this; exact this
            have hstep := dL_succ hd5 hf
            rw [hd5] at own3 hI hlen
            simp only at own3 hI hlen
            have hm1 : ls.length + 1 ≤ maxLen := by simp only [maxLen]; omega
            have hm2 : (ls.length + 1) * 16 ≤ 140737488355328 := by omega
            replace hstep := hide hstep
            replace hlen := hide hlen
            clear hd5 hf hx5 hx5' hx6
            have hlt9 := hide hlt
            go_wp2_with fail
            refine (HT wr hI).mono ?_
            rintro en w8 ⟨A8, n8, c8, rfl, hs8, hI8, gr8⟩
            have r58 := r5.but (But.gr gr8) n5
            have own8 := own_butB own3 (.gr gr8) (fun k hk => by simp only [List.mem_singleton] at hk; omega)
            have U8 : ButZ [g, g5] w13 w8 := UW.trans (ButZ.gr gr8).more
            have c0 := r58.cell (j := 1) rfl
            have c3 := r58.cell (j := 4) rfl
            have hone : ∀ u ∈ [encStr f], u.oneCell' = true := by simp [Value.oneCell', encStr]
            clear HT r5 own3 hI UW gr8
            go_wp2_with (first
              | (with_reducible refine wl_run (o := ⟨some 46, _, _, _, _, _⟩) rfl (encStr f) (run_toStrN 31 9 5 (.tmp 45) f rfl rfl hs8 Tryz.underlying31 Tryz.underlying5 Tryz.underlying9) ?_)
              | ((with_reducible refine wl_build1 (o := ⟨some 83, _, _, _, _, _⟩) rfl 23 (.tmp 82) rfl 9 ip _ (encStr f) Tryz.underlying23 hip hiz his rfl rfl rfl ?_); intro g10 w10 r10 p10 l10 b10; have own10 := own_later own8 b10; have r310 := r58.later b10; have hs10 := Nat.le_trans U8.size b10.size)
              | ((at_builtin; with_reducible refine wl_append_at (o := ⟨some 84, _, _, _, _, _⟩) rfl (.tmp 81) (.tmp 83) 23 rfl w13.heap.size 9 ip _ 1 16 Tryz.underlying23 hip hiz his hib rfl (by decide) ov _ _ rfl own10 ⟨g10, 0, none⟩ 1 1 [encStr f] rfl rfl (row_src r10) hone hm1 hm2 hs10 ?_); intro v11 w11 own11 gr11 at11; have r311 := r310.grownS own10 (by decide) gr11)
              | ((with_reducible refine wl_store rfl 23 (.tmp 86) (.tmp 84) g5 4 28 (enC key ⟨k, [], [], [], []⟩ nilS ov nilS at_) v11 rfl (by kernel_rfl) rfl rfl r311 (by simp) (own_one own11) ?_); intro w12 r12 o12; replace r12 : Row w12 28 g5 (enC key ⟨k, [], [], [], []⟩ nilS v11 nilS at_) := r12))
            have own12 : OwnW w12 w13.heap.size v11 (ls ++ [f]) := by
              rw [OwnW, List.length_append, List.map_append]
              exact own_butB own11 (Only.butZ o12) (fun k hk => by simp only [List.mem_singleton] at hk; omega)
            have U12 : ButZ [g, g5] w13 w12 := ((U8.trans (.of b10)).trans2 gr11 own10).only o12 (.inr (by simp))
            have hI12 : IdS w1.heap.size g s6 w12 := ((hI8.later b10).low (below_of_gr gr11 own10 hs10) hgw13).grown (grown_only o12) (.inr hgg5)
            go_roundw
            case rel => exact ⟨i + 1, v11, by have := hlt9.out; omega, by go_num, r12, by rw [hstep.out]; exact own12, by rw [hstep.out]; exact hI12, U12⟩
            case measure => have := hlt9.out; simp [intOf]; omega
          · obtain rfl : i = m := by omega
            have hlen := dL_len i s4
            obtain ⟨⟨ls, s9⟩, hd5⟩ : ∃ r, dL i s4 = r := ⟨_, rfl⟩
            rw [hd5] at own3 hI hlen
            simp only at own3 hI hlen
            have onev := own_one own3
            have hcap := own_cap own3
            have r2w := r213.butz' UW (by simp only [List.mem_cons, List.not_mem_nil, or_false]; omega)
            have BT := B13.trans ((ButZ.below UW (B := w.heap.size) (by simp only [List.mem_cons, List.not_mem_nil, or_false]; rintro k (rfl | rfl); exact hgw; exact hg5w) B13.size))
            replace r5 : Row wr 28 g5 (enC key ⟨k, [], [], ls, []⟩ nilS ov nilS at_) := r5
            have hML := hide (fun (wz : World) (hz : ButZ [g2] wr wz) => (have own9 := own_butB own3 hz (fun k hk => by simp only [List.mem_singleton] at hk; omega); ⟨SlV.nil _ _, OwnW.slv own9, SlV.nil _ _⟩ : VlM wz wz.heap.size (⟨k, [], [], ls, []⟩ : Vl) nilS ov nilS))
            have few : (⟨k, [], [], ls, []⟩ : Vl).Few := ⟨by simp, by show ls.length ≤ 220; omega, by simp⟩
            have htl := hide (show ((⟨k, [], [], ls, []⟩ : Vl).t.length ≤ 512) by simp)
            have hcp := hide (show ∃ A c, nilS = .slice A (⟨k, [], [], ls, []⟩ : Vl).ss.length c ∧ (⟨k, [], [], ls, []⟩ : Vl).ss.length ≤ c from ⟨none, 0, rfl, Nat.le_refl _⟩)
            have hkk := dV_no h3.out
            have hxx : 1 ≤ k → k ≤ 5 → dV s2 = (⟨k, [], [], ls, []⟩, s9) := fun q1 q5 => by
              have := k1.out; have := k2.out; have := k5.out
              have hdv := dV_L (show k = 3 ∨ k = 4 by omega) h3.out h4.out
              rw [Int.toNat_natCast, hd5] at hdv
              exact hdv
            have hxk := hide (show (⟨k, [], [], ls, []⟩ : Vl).k = (dV s2).1.k by rw [hkk])
            have hxy := hide (show 1 ≤ (dV s2).1.k → (dV s2).1.k ≤ 5 → (⟨k, [], [], ls, []⟩ : Vl) = (dV s2).1 from fun a b => by rw [hxx (by rw [hkk] at a; exact a) (by rw [hkk] at b; exact b)])
            have hss := hide (show 1 ≤ (dV s2).1.k → (dV s2).1.k ≤ 5 → s9 = (dV s2).2 from fun a b => by rw [hxx (by rw [hkk] at a; exact a) (by rw [hkk] at b; exact b)])
            clear hkk
            replace hlen := hide hlen
            replace hcap := hide hcap
            clear hd5 own3 UW B13 r213 hI13 hxx
            have hse := szEnt key (⟨k, [], [], ls, []⟩ : Vl) nilS ov nilS at_
            go_wp2_with (first
              | (with_reducible refine wl_load_row (o := ⟨some 88, _, _, _, _, _⟩) rfl 28 (.tmp 5) g5 28 (enC key (⟨k, [], [], ls, []⟩ : Vl) nilS ov nilS at_) _ rfl rfl r5 Tryz.underlying28 rfl hse ?_))
            refine (rencode_any wr key (⟨k, [], [], ls, []⟩ : Vl) nilS ov nilS at_ (hML.out wr (.of (Below.refl _ _))) few (Nat.le_trans htl.out (by decide)) hcp.out).mono ?_
            rintro en wu ⟨⟨A8, n8, c8, rfl, hb8⟩, b8⟩
            have BU := BT.trans (b8.mono BT.size)
            have hbb := hb.later BU
            have r5u := r5.later b8
            have r2u := r2w.later b8
            have hMU : ∀ wz, ButZ [g2] wu wz → VlM wz wz.heap.size (⟨k, [], [], ls, []⟩ : Vl) nilS ov nilS := fun wz hz => hML.out wz ((ButZ.of b8).trans hz)
            obtain ⟨Ai, ni, ci, _, hblk, _⟩ := hI.later b8
            have ce := hblk.cell 1
            simp only [List.getElem?_toArray, List.getElem?_cons_zero, List.getElem?_cons_succ] at ce
            clear hblk
            have hdk : decOk b ↔ entC key at_ (dV s2).1.rchk = 0 ∧ encB key (dV s2).1 at_ = b := by unfold decOk; rw [hd.out]
            have herr : decOk b → (dV s2).2 = ([], 0) := fun h => by have := decOk_err h; rw [hd.out] at this; exact this
            have hxk' := hxk.out
            have hxy' := hxy.out
            have hss := hss.out
            have heq := ec_zero (key := key) (at_ := at_) hxk' (fun a b => hxy' a b)
            replace hMU := hide hMU
            have he9 : decOk b → s9.2 = 0 := fun h => by
              obtain ⟨q1, q2⟩ := rchk_kind (entC_zero (hdk.1 h).1).1
              rw [hss q1 q2, herr h]
            have hsame : entC key at_ (⟨k, [], [], ls, []⟩ : Vl).rchk = 0 → (⟨k, [], [], ls, []⟩ : Vl) = (dV s2).1 := fun h => ec_same hxk' hxy' h
            obtain ⟨ec, hec⟩ : ∃ ec, ec = entC key at_ (⟨k, [], [], ls, []⟩ : Vl).rchk := ⟨_, rfl⟩
            rw [← hec] at heq hb8 hsame ⊢
            obtain ⟨e9, hee⟩ : ∃ e9, e9 = s9.2 := ⟨_, rfl⟩
            rw [← hee] at he9 ce
            replace hee := hide hee
            clear r5 r2w hI BT b8 hML hxk hxy hxk' hxy' hss herr
            by_cases h9 : e9 = 0
            · subst h9
              by_cases h0 : ec = 0
              · subst h0
                have hxe := hsame rfl
                rw [if_pos rfl] at hb8
                have HQ := rsame_any A8 A n8 c8 n c (encB key (⟨k, [], [], ls, []⟩ : Vl) at_) b wu hb8 hbb (by have := hb8.1; have := (encB_len key (⟨k, [], [], ls, []⟩ : Vl) at_ (entC_zero hec.symm).2.1 (rchk_few (entC_zero hec.symm).1) (rchk_ok (entC_zero hec.symm).1).2); omega) hn
                by_cases he : encB key (⟨k, [], [], ls, []⟩ : Vl) at_ = b
                · rw [decide_eq_true he] at HQ
                  have hok := hide (hdk.2 ⟨heq.1 rfl, by rw [← hxe]; exact he⟩)
                  replace hec := hide hec
                  replace he := hide he
                  replace hxe := hide hxe
                  clear heq hb8 hbb hb hdk he9 hsame
                  go_wp2_with fail
                  refine HQ.mono ?_
                  rintro en wv ⟨rfl, bv⟩
                  have r5v := r5u.later bv
                  have r2v := r2u.later bv
                  have hMV : ∀ wz, Only g2 wv wz → VlM wz wz.heap.size (⟨k, [], [], ls, []⟩ : Vl) nilS ov nilS := fun wz hz => hMU.out wz ((ButZ.of bv).only hz (.inr (by simp)))
                  replace hMV := hide hMV
                  have hone7 := (show ∀ u ∈ (enC key ⟨k, [], [], ls, []⟩ nilS ov nilS at_), u.oneCell' = true from fun u hu => by simp only [List.cons_append, List.nil_append, List.mem_cons, List.not_mem_nil, or_false] at hu; rcases hu with rfl | rfl | rfl | rfl | rfl | rfl | rfl <;> first | exact onev | rfl)
                  go_wp2_with (first
                    | (with_reducible refine wl_load_row (o := ⟨some 108, _, _, _, _, _⟩) rfl 28 (.tmp 5) g5 28 (enC key (⟨k, [], [], ls, []⟩ : Vl) nilS ov nilS at_) _ rfl rfl r5v Tryz.underlying28 rfl hse ?_)
                    | ((with_reducible refine wl_store_row rfl 28 (.tmp 2) (.tmp 108) g2 28 _ (enC key (⟨k, [], [], ls, []⟩ : Vl) nilS ov nilS at_) rfl rfl rfl r2v hse rfl hone7 ?_); intro wx rx ox))
                  rw [hQ.out]
                  refine bodyPost_ret (v := .tuple #[enV key (⟨k, [], [], ls, []⟩ : Vl) nilS ov nilS at_, .int .i64 0]) ?_ rfl ⟨key, (⟨k, [], [], ls, []⟩ : Vl), at_, nilS, ov, nilS, 0, rfl, hMV.out _ ox, few, htl.out, hkl, (BU.trans (bv.mono BU.size)).trans (ox.below hg2w), .inl ⟨rfl, hok.out, by rw [hd.out], by rw [hd.out]; exact hxe.out, by rw [hd.out]⟩⟩
                  exact results_rt2 Tryz.results15 _ _ g2 28 _ _ _ rfl rx Tryz.underlying28 rfl hse rfl
                · rw [decide_eq_false he] at HQ
                  have hok : ¬ decOk b := fun h => he (by rw [hxe]; exact (hdk.1 h).2)
                  replace hec := hide hec
                  replace hxe := hide hxe
                  clear heq hb8 hbb hb he hdk he9 hsame
                  go_wp2_with fail
                  refine HQ.mono ?_
                  rintro en wt' ⟨rfl, bv⟩
                  have r2v := r2u.later bv
                  have BU := BU.trans (bv.mono BU.size)
                  go_wp2_with (first
                    | (with_reducible refine wl_build (o := ⟨some 107, _, _, _, _, _⟩) rfl 28 [] rfl [] rfl (enC [] v0 nilS nilS nilS 0) builtEn0 ?_)
                    | ((with_reducible refine wl_store_row rfl 28 (.tmp 2) (.tmp 107) g2 28 _ (enC [] v0 nilS nilS nilS 0) rfl rfl rfl r2v hse0 rfl hone0 ?_); intro wv rv ov))
                  rw [hQ.out]
                  refine bodyPost_ret (v := .tuple #[enV [] v0 nilS nilS nilS 0, .int .i64 3]) ?_ rfl ⟨[], v0, 0, nilS, nilS, nilS, 3, rfl, ⟨SlV.nil _ _, SlV.nil _ _, SlV.nil _ _⟩, ⟨by simp [v0], by simp [v0], by simp [v0]⟩, by simp [v0], by simp, (BU.trans (ov.below hg2w)), .inr ⟨rfl, hok, rfl, rfl, rfl⟩⟩
                  exact results_rt2 Tryz.results15 _ _ g2 28 _ _ _ rfl rv Tryz.underlying28 rfl (szEnt [] v0 nilS nilS nilS 0) rfl
              · have hok : ¬ decOk b := fun h => h0 (heq.2 (hdk.1 h).1)
                have hne : (ec != 0) = true := by rw [bne_iff_ne]; exact h0
                replace hec := hide hec
                replace h0 := hide h0
                clear heq hb8 hbb hb hdk he9 hsame
                go_wp2_with (first
                  | (with_reducible refine wl_build (o := ⟨some 107, _, _, _, _, _⟩) rfl 28 [] rfl [] rfl (enC [] v0 nilS nilS nilS 0) builtEn0 ?_)
                  | ((with_reducible refine wl_store_row rfl 28 (.tmp 2) (.tmp 107) g2 28 _ (enC [] v0 nilS nilS nilS 0) rfl rfl rfl r2u hse0 rfl hone0 ?_); intro wv rv ov))
                rw [hQ.out]
                refine bodyPost_ret (v := .tuple #[enV [] v0 nilS nilS nilS 0, .int .i64 3]) ?_ rfl ⟨[], v0, 0, nilS, nilS, nilS, 3, rfl, ⟨SlV.nil _ _, SlV.nil _ _, SlV.nil _ _⟩, ⟨by simp [v0], by simp [v0], by simp [v0]⟩, by simp [v0], by simp, (BU.trans (ov.below hg2w)), .inr ⟨rfl, hok, rfl, rfl, rfl⟩⟩
                exact results_rt2 Tryz.results15 _ _ g2 28 _ _ _ rfl rv Tryz.underlying28 rfl (szEnt [] v0 nilS nilS nilS 0) rfl
            · have hok : ¬ decOk b := fun h => h9 (he9 h)
              have hne : (e9 != 0) = true := by rw [bne_iff_ne]; exact h9
              replace hec := hide hec
              replace h9 := hide h9
              clear heq hb8 hbb hb hdk he9 hsame
              go_wp2_with (first
                | (with_reducible refine wl_build (o := ⟨some 107, _, _, _, _, _⟩) rfl 28 [] rfl [] rfl (enC [] v0 nilS nilS nilS 0) builtEn0 ?_)
                | ((with_reducible refine wl_store_row rfl 28 (.tmp 2) (.tmp 107) g2 28 _ (enC [] v0 nilS nilS nilS 0) rfl rfl rfl r2u hse0 rfl hone0 ?_); intro wv rv ov))
              rw [hQ.out]
              refine bodyPost_ret (v := .tuple #[enV [] v0 nilS nilS nilS 0, .int .i64 3]) ?_ rfl ⟨[], v0, 0, nilS, nilS, nilS, 3, rfl, ⟨SlV.nil _ _, SlV.nil _ _, SlV.nil _ _⟩, ⟨by simp [v0], by simp [v0], by simp [v0]⟩, by simp [v0], by simp, (BU.trans (ov.below hg2w)), .inr ⟨rfl, hok, rfl, rfl, rfl⟩⟩
              exact results_rt2 Tryz.results15 _ _ g2 28 _ _ _ rfl rv Tryz.underlying28 rfl (szEnt [] v0 nilS nilS nilS 0) rfl
end Go.Proofs.YtpbkejmffddelaaGreat

/-
  An entry's cells. Own work.
-/
namespace Go.Proofs.YtpbkejmffddelaaGreat
open Go.RowKit Go.Shelf
set_option maxRecDepth 100000 in
theorem entI : ∃ i, Tryz.prog.info? 28 = some i ∧ i.zero = some (.agg (enC [] v0 nilS nilS nilS 0).toArray) ∧ i.size = 7 :=
  ⟨_, rfl, by kernel_rfl, by kernel_rfl⟩
theorem oneEn {w : World} {B : Nat} {key : Nm} {x : Vl} {vp vl vs : Value} {at_ : Int} (h : VlM w B x vp vl vs) : ∀ u ∈ enC key x vp vl vs at_, u.oneCell' = true := by
  intro u hu
  rcases List.mem_append.1 hu with hu | hu
  · obtain rfl : u = encStr key := by simpa using hu
    rfl
  · rcases List.mem_append.1 hu with hu | hu
    · exact h.one u hu
    · obtain rfl : u = .int .i64 at_ := by simpa using hu
      rfl
end Go.Proofs.YtpbkejmffddelaaGreat

/-
  The law ValueBack. Own work.
-/
namespace Go.Proofs.YtpbkejmffddelaaGreat
open Go.RowKit Go.Shelf
theorem decOk_enc {key : Nm} {x : Vl} {at_ : Int} (h : entC key at_ x.rchk = 0) (hs : ∀ a ∈ x.ss, isI a.s) : decOk (encB key x at_) ∧ (dK (encB key x at_)).1 = key ∧ (dV (dK (encB key x at_)).2.2).1 = x ∧ (dK (encB key x at_)).2.1 = at_ := by
  obtain ⟨h1, h2, h3⟩ := dE_back key x at_ h hs
  refine ⟨⟨?_, ?_⟩, h1, by rw [h3], h2⟩
  · rw [h1, h2, h3]; exact h
  · rw [h1, h2, h3]
theorem wg_build1B {P : Program} {ops : Array Oper} {rest : List Oper} {o : Oper} {a : Act} {w : World} {Q : Exit → Act → World → Prop} (g' : Nat) (b : Bool) (d' : Nat) (hg : o.guard = some (g', b)) (hd' : (ops[g']?).bind (·.dst) = some d') (hv : a.tmps[d']? = some (.bool b)) (t : TypeId) (x : Operand) (ho : o.op = .buildSlice t 1 #[(0, x)]) (e : TypeId) (i : TypeInfo) (z : Value) (M : List Value) (n : Nat) (ht : P.underlying t = some (.slice e)) (hi : P.info? e = some i) (hz : i.zero = some z) (hzs : z.cells.size = n) (hsz : i.size = n) (hl : M.length = n) (h0 : 0 < n) (hn : n ≤ 1000) (hx : a.eval x = .agg M.toArray)
    (hk : ∀ g w', Row w' e g M → w.heap.size ≤ g → g < w'.heap.size → Below w.heap.size w w' → wpList P ops Q rest (a.put o.dst (.slice (some ⟨g, 0, none⟩) 1 1)) w') : wpList P ops Q (o :: rest) a w :=
  wpList_guarded g' b d' hg hd' hv fun K hK => st_build1B t x ho e i z M n ht hi hz hzs hsz hl h0 hn hx fun g w' h1 h2 h3 h4 => hK _ _ (hk g w' h1 h2 h3 h4)
set_option maxRecDepth 100000 in
set_option maxHeartbeats 4000000 in
theorem valueBack_any (w : World) (key : Nm) (x : Vl) (vp vl vs : Value) (at_ : Int) (hx : VlM w w.heap.size x vp vl vs) (fx : x.Fits) (hsI : ∀ a ∈ x.ss, isI a.s) (hky : key.length ≤ 140737488355328) (A : Option Addr) (n c : Nat) (b : List Int) (hb : Bs w w.heap.size A n b) (hxb : IsBy b) :
    Calls Tryz.prog 5 #[enV key x vp vl vs at_, .slice A n c] w fun e w' => e = .returned (.bool true) ∧ Below w.heap.size w w' := by
  have HA := awake_any
  have hsz := szVl x vp vl vs
  have hse := szEnt key x vp vl vs at_
  have hst := str_len key
  obtain ⟨ie, hie, hze, hsie⟩ := entI
  replace hsI := hide hsI
  replace hb := hide hb
  replace hxb := hide hxb
  go_enter Tryz.func5, Tryz.ntmps5
  go_wp2_with (first
    | ((with_reducible refine wl_box (o := ⟨some 2, _, _, _, _, _⟩) rfl 28 (.tmp 0) _ (enC key x vp vl vs at_) rfl rfl rfl ?_); intro g2 w1 r1 p1 l1 b1)
    | (with_reducible refine wl_load_part (o := ⟨some 14, _, _, _, _, _⟩) rfl 26 (.tmp 13) g2 1 28 [encStr key] (vlC x vp vl vs) [.int .i64 at_] _ rfl rfl r1 rfl Tryz.underlying26 rfl hsz ?_))
  refine (light_any w1 x vp vl vs (hx.later b1) fx).mono ?_
  rintro e w2 ⟨⟨bl, rfl, hfew⟩, b2⟩
  have B2 := b1.trans (b2.mono b1.size)
  have r2 := r1.later b2
  have c0 := r2.cell (j := 0) rfl
  cases bl with
  | false =>
    go_wp2_with fail
    refine (HA w2).mono ?_
    rintro e wa ⟨rfl, ba⟩
    go_wp2_with fail
    go_ret
    exact ⟨rfl, B2.trans (ba.mono B2.size)⟩
  | true =>
    have few := hfew rfl
    have h2 := hx.later B2
    clear hfew
    by_cases hk : 200 < key.length
    · have hkI : (200 : Int) < (key.length : Int) := by omega
      go_wp2_with fail
      refine (HA w2).mono ?_
      rintro e wa ⟨rfl, ba⟩
      go_wp2_with fail
      go_ret
      exact ⟨rfl, B2.trans (ba.mono B2.size)⟩
    · have hkI : ¬ (200 : Int) < (key.length : Int) := by omega
      by_cases hbn : 5000 < n
      · have hbI : (5000 : Int) < (n : Int) := by omega
        go_wp2_with fail
        refine (HA w2).mono ?_
        rintro e wa ⟨rfl, ba⟩
        go_wp2_with fail
        go_ret
        exact ⟨rfl, B2.trans (ba.mono B2.size)⟩
      · have hbI : ¬ (5000 : Int) < (n : Int) := by omega
        have HD2 := hide (fun wz (hz : Below w.heap.size w wz) => dec_any wz A n c b (hb.out.later hz) (by omega) hxb.out)
        have HE := enc_any w2 key x vp vl vs at_ h2 few fx.t
        obtain ⟨ec, hec⟩ : ∃ ec, ec = entC key at_ x.rchk := ⟨_, rfl⟩
        rw [← hec] at HE
        by_cases h0 : ec = 0
        · subst h0
          obtain ⟨hd1, hd2, hd3, hd4⟩ := decOk_enc hec.symm hsI.out
          rw [if_pos rfl] at HE
          have hlen := encB_len key x at_ (entC_zero hec.symm).2.1 (rchk_few (entC_zero hec.symm).1) (rchk_ok (entC_zero hec.symm).1).2
          replace hlen := hide hlen
          replace hec := hide hec
          replace hd2 := hide hd2
          replace hd3 := hide hd3
          replace hd4 := hide hd4
          clear hx hky r1
          go_wp2_with (first
            | (with_reducible refine wl_load_row (o := ⟨some 30, _, _, _, _, _⟩) rfl 28 (.tmp 2) g2 28 (enC key x vp vl vs at_) _ rfl rfl r2 Tryz.underlying28 rfl hse ?_))
          refine HE.mono ?_
          rintro e w3 ⟨⟨A3, n3, c3, rfl, hb3⟩, b3⟩
          have B3 := B2.trans (b3.mono B2.size)
          have r3 := r2.later b3
          have h3 := h2.later b3
          clear c0 HE
          go_wp2_with fail
          refine (dec_any w3 A3 n3 c3 _ hb3 (by have := hb3.1; have := hlen.out; omega) (by_encB _ _ _)).mono ?_
          rintro en w4 ⟨key', x', at', vp', vl', vs', ec', rfl, hM4, few', htl', hkl', hcp', b4, hor⟩
          have hall : key' = key ∧ x' = x ∧ at' = at_ ∧ ec' = 0 := by
            rcases hor with ⟨e1, h1, e2, e3, e4⟩ | ⟨e1, h1, _⟩
            · exact ⟨e2.trans hd2.out, e3.trans hd3.out, e4.trans hd4.out, e1⟩
            · exact absurd hd1 h1
          obtain ⟨rfl, rfl, rfl, rfl⟩ := hall
          have hone' := oneEn (key := key') (at_ := at') hM4
          have hsz' := szEnt key' x' vp' vl' vs' at'
          have B4 := B3.trans (b4.mono B3.size)
          have r4 := r3.later b4
          have h4 := h3.later b4
          clear hor hcp' hb3 hd1
          go_wp2_with (first
            | ((with_reducible refine wl_alloc (o := ⟨some 7, _, _, _, _, _⟩) rfl 28 _ (enC [] v0 nilS nilS nilS 0) rfl zeroEn rfl ?_); intro g5 w5 r5 p5 l5 b5)
            | ((with_reducible refine wl_store_row rfl 28 (.tmp 7) (.tmp 37) g5 28 _ (enC key' x' vp' vl' vs' at') rfl rfl rfl r5 hsz' rfl hone' ?_); intro w6 r6 o6; have b6 := b5.trans ((o6.below p5).mono (Nat.le_refl _)); have r46 := r4.later b6)
            | (with_reducible refine wg_load_row 5 false 44 rfl rfl rfl 28 (.tmp 7) g5 28 (enC key' x' vp' vl' vs' at') _ rfl rfl r6 Tryz.underlying28 rfl hsz' ?_)
            | ((with_reducible refine wg_build1B (o := ⟨some 46, _, _, _, _, _⟩) 5 false 44 rfl rfl rfl 44 (.tmp 45) rfl 28 ie _ (enC key' x' vp' vl' vs' at') 7 Tryz.underlying44 hie hze rfl hsie rfl (by decide) (by decide) rfl ?_); intro g7 w7 r7 p7 l7 b7; have r47 := r46.later b7)
            | (with_reducible refine wg_load_row (o := ⟨some 47, _, _, _, _, _⟩) 5 false 44 rfl rfl rfl 28 (.tmp 2) g2 28 (enC key' x' vp vl vs at') _ rfl rfl r47 Tryz.underlying28 rfl hse ?_)
            | ((with_reducible refine wg_build1B (o := ⟨some 48, _, _, _, _, _⟩) 5 false 44 rfl rfl rfl 44 (.tmp 47) rfl 28 ie _ (enC key' x' vp vl vs at') 7 Tryz.underlying44 hie hze rfl hsie rfl (by decide) (by decide) rfl ?_); intro g8 w8 r8 p8 l8 b8))
          have b48 := b6.trans ((b7.trans (b8.mono b7.size)).mono b6.size)
          refine (sameEn_any w8 g7 g8 key' x' vp' vl' vs' vp vl vs at' (r7.later b8) r8 (hM4.later b48) (h4.later b48) fx).mono ?_
          rintro en w5 ⟨rfl, b9⟩
          have B8 := B4.trans (b48.mono B4.size)
          have B5 := B8.trans (b9.mono B8.size)
          clear r4 r5 r6 r46 r47 r7 r8 hM4 h4 h3 h2 r3 r2 few few' hd2 hd3 hd4 hec b4 b3 b2 b1 b5 b6 b7 b8 b9 b48 B4 B3 B2 B8
          go_wp2_with fail
          refine (HD2.out w5 B5).mono ?_
          rintro en w6 ⟨k2, x2, at2, vp2, vl2, vs2, ec2, rfl, hM6, few6, htl6, hkl6, hcp6, b6, hor6⟩
          have hsz6 := szEnt k2 x2 vp2 vl2 vs2 at2
          have hone6 := oneEn (key := k2) (at_ := at2) hM6
          have B6 := B5.trans (b6.mono B5.size)
          replace hcp6 := hide hcp6
          rcases hor6 with ⟨rfl, hok6, e62, e63, e64⟩ | ⟨rfl, hok6, rfl, rfl, rfl⟩
          · have hE := fun wz (hz : Below w6.heap.size w6 wz) => enc_any wz k2 x2 vp2 vl2 vs2 at2 (hM6.later hz) few6 (Nat.le_trans htl6 (by decide))
            have hz2 : entC k2 at2 x2.rchk = 0 := by rw [e62, e63, e64]; exact hok6.1
            have hb2 : encB k2 x2 at2 = b := by rw [e62, e63, e64]; exact hok6.2
            rw [hz2, hb2, if_pos rfl] at hE
            replace hE := hide hE
            clear e62 e63 e64 hok6 hz2 hb2
            go_wp2_with (first
              | ((with_reducible refine wl_alloc (o := ⟨some 9, _, _, _, _, _⟩) rfl 28 _ (enC [] v0 nilS nilS nilS 0) rfl zeroEn rfl ?_); intro g9 w7 r9 p9 l9 b7)
              | ((with_reducible refine wl_store_row rfl 28 (.tmp 9) (.tmp 56) g9 28 _ (enC k2 x2 vp2 vl2 vs2 at2) rfl rfl rfl r9 hsz6 rfl hone6 ?_); intro w8 r8 o8; have b8 := b7.trans ((o8.below p9).mono (Nat.le_refl _)))
              | (with_reducible refine wl_load_row (o := ⟨some 78, _, _, _, _, _⟩) rfl 28 (.tmp 9) g9 28 (enC k2 x2 vp2 vl2 vs2 at2) _ rfl rfl r8 Tryz.underlying28 rfl hsz6 ?_))
            have B8 := B6.trans (b8.mono B6.size)
            refine (hE.out w8 b8).mono ?_
            rintro en w9 ⟨⟨A9, n9, c9, rfl, hb9⟩, b9⟩
            have B9 := B8.trans (b9.mono B8.size)
            have HQ := equal_any A9 A n9 n c9 c b b w9 hb9 (hb.out.later B9)
            rw [beq_self_eq_true] at HQ
            clear r8 r9 hM6 few6 hb9 b7 b8 b9 b6 o8
            go_wp2_with fail
            refine HQ.mono ?_
            rintro e w10 ⟨rfl, rfl⟩
            go_wp2_with fail
            refine (HA w9).mono ?_
            rintro e wa ⟨rfl, ba⟩
            go_wp2_with fail
            go_ret
            exact ⟨rfl, B9.trans (ba.mono B9.size)⟩
          · go_wp2_with (first
              | ((with_reducible refine wl_alloc (o := ⟨some 9, _, _, _, _, _⟩) rfl 28 _ (enC [] v0 nilS nilS nilS 0) rfl zeroEn rfl ?_); intro g9 w7 r9 p9 l9 b7)
              | ((with_reducible refine wl_store_row rfl 28 (.tmp 9) (.tmp 56) g9 28 _ (enC [] v0 vp2 vl2 vs2 0) rfl rfl rfl r9 hsz6 rfl hone6 ?_); intro w8 r8 o8; have b8 := b7.trans ((o8.below p9).mono (Nat.le_refl _)); have d0 := r8.cell (j := 0) rfl; have d1 := r8.cell (j := 1) rfl; have d6 := r8.cell (j := 6) rfl))
            have B8 := B6.trans (b8.mono B6.size)
            clear r8 r9 hM6 few6 b7 b8 b6 o8
            go_wp2_with fail
            refine (HA w8).mono ?_
            rintro e wa ⟨rfl, ba⟩
            go_wp2_with fail
            go_ret
            exact ⟨rfl, B8.trans (ba.mono B8.size)⟩
        · rw [if_neg h0] at HE
          have hne : (ec == 0) = false := beq_eq_false_iff_ne.2 h0
          replace h0 := hide h0
          replace hec := hide hec
          clear hx hky r1
          go_wp2_with (first
            | (with_reducible refine wl_load_row (o := ⟨some 30, _, _, _, _, _⟩) rfl 28 (.tmp 2) g2 28 (enC key x vp vl vs at_) _ rfl rfl r2 Tryz.underlying28 rfl hse ?_))
          refine HE.mono ?_
          rintro e w3 ⟨⟨A3, n3, c3, rfl, hb3⟩, b3⟩
          have B3 := B2.trans (b3.mono B2.size)
          clear c0 HE
          go_wp2_with fail
          refine (dec_any w3 A3 n3 c3 _ hb3 (by have := hb3.1; simp at this; omega) by_nil).mono ?_
          rintro en w4 ⟨key', x', at', vp', vl', vs', ec', rfl, hM4, few', htl', hkl', hcp', b4, hor⟩
          have hone' := oneEn (key := key') (at_ := at') hM4
          have hsz' := szEnt key' x' vp' vl' vs' at'
          have B4 := B3.trans (b4.mono B3.size)
          clear hor hcp' hb3
          go_wp2_with (first
            | ((with_reducible refine wl_alloc (o := ⟨some 7, _, _, _, _, _⟩) rfl 28 _ (enC [] v0 nilS nilS nilS 0) rfl zeroEn rfl ?_); intro g5 w5 r5 p5 l5 b5)
            | ((with_reducible refine wl_store_row rfl 28 (.tmp 7) (.tmp 37) g5 28 _ (enC key' x' vp' vl' vs' at') rfl rfl rfl r5 hsz' rfl hone' ?_); intro w6 r6 o6; have b6 := b5.trans ((o6.below p5).mono (Nat.le_refl _))))
          have B5 := B4.trans (b6.mono B4.size)
          clear r5 r6 hM4 h2 r2 few few' hec b4 b3 b2 b1 b5 b6 B4 B3 B2 o6
          refine (HD2.out w6 B5).mono ?_
          rintro en wq ⟨k2, x2, at2, vp2, vl2, vs2, ec2, rfl, hM6, fewq, htl6, hkl6, hcp6, b6, hor6⟩
          have hsz6 := szEnt k2 x2 vp2 vl2 vs2 at2
          have hone6 := oneEn (key := k2) (at_ := at2) hM6
          have B6 := B5.trans (b6.mono B5.size)
          replace hcp6 := hide hcp6
          rcases hor6 with ⟨rfl, hok6, e62, e63, e64⟩ | ⟨rfl, hok6, rfl, rfl, rfl⟩
          · have hE := fun wz (hz : Below wq.heap.size wq wz) => enc_any wz k2 x2 vp2 vl2 vs2 at2 (hM6.later hz) fewq (Nat.le_trans htl6 (by decide))
            have hz2 : entC k2 at2 x2.rchk = 0 := by rw [e62, e63, e64]; exact hok6.1
            have hb2 : encB k2 x2 at2 = b := by rw [e62, e63, e64]; exact hok6.2
            rw [hz2, hb2, if_pos rfl] at hE
            replace hE := hide hE
            clear e62 e63 e64 hok6 hz2 hb2
            go_wp2_with (first
              | ((with_reducible refine wl_alloc (o := ⟨some 9, _, _, _, _, _⟩) rfl 28 _ (enC [] v0 nilS nilS nilS 0) rfl zeroEn rfl ?_); intro g9 w7 r9 p9 l9 b7)
              | ((with_reducible refine wl_store_row rfl 28 (.tmp 9) (.tmp 56) g9 28 _ (enC k2 x2 vp2 vl2 vs2 at2) rfl rfl rfl r9 hsz6 rfl hone6 ?_); intro w8 r8 o8; have b8 := b7.trans ((o8.below p9).mono (Nat.le_refl _)))
              | (with_reducible refine wl_load_row (o := ⟨some 78, _, _, _, _, _⟩) rfl 28 (.tmp 9) g9 28 (enC k2 x2 vp2 vl2 vs2 at2) _ rfl rfl r8 Tryz.underlying28 rfl hsz6 ?_))
            have B8 := B6.trans (b8.mono B6.size)
            refine (hE.out w8 b8).mono ?_
            rintro en w9 ⟨⟨A9, n9, c9, rfl, hb9⟩, b9⟩
            have B9 := B8.trans (b9.mono B8.size)
            have HQ := equal_any A9 A n9 n c9 c b b w9 hb9 (hb.out.later B9)
            rw [beq_self_eq_true] at HQ
            clear r8 r9 hM6 fewq hb9 b7 b8 b9 b6 o8
            go_wp2_with fail
            refine HQ.mono ?_
            rintro e w10 ⟨rfl, rfl⟩
            go_wp2_with fail
            refine (HA w9).mono ?_
            rintro e wa ⟨rfl, ba⟩
            go_wp2_with fail
            go_ret
            exact ⟨rfl, B9.trans (ba.mono B9.size)⟩
          · go_wp2_with (first
              | ((with_reducible refine wl_alloc (o := ⟨some 9, _, _, _, _, _⟩) rfl 28 _ (enC [] v0 nilS nilS nilS 0) rfl zeroEn rfl ?_); intro g9 w7 r9 p9 l9 b7)
              | ((with_reducible refine wl_store_row rfl 28 (.tmp 9) (.tmp 56) g9 28 _ (enC [] v0 vp2 vl2 vs2 0) rfl rfl rfl r9 hsz6 rfl hone6 ?_); intro w8 r8 o8; have b8 := b7.trans ((o8.below p9).mono (Nat.le_refl _)); have d0 := r8.cell (j := 0) rfl; have d1 := r8.cell (j := 1) rfl; have d6 := r8.cell (j := 6) rfl))
            have B8 := B6.trans (b8.mono B6.size)
            clear r8 r9 hM6 fewq b7 b8 b6 o8
            go_wp2_with fail
            refine (HA w8).mono ?_
            rintro e wa ⟨rfl, ba⟩
            go_wp2_with fail
            go_ret
            exact ⟨rfl, B8.trans (ba.mono B8.size)⟩
end Go.Proofs.YtpbkejmffddelaaGreat

/-
  Entries that came in as arguments: scores are ints. Own work.
-/
namespace Go.Proofs.YtpbkejmffddelaaGreat
open Go.RowKit Go.Shelf Go.ChangeShapes Go.WideShapes
section
variable {H : Type} {enc : TypeId × Value → H} {w : World} {spare : Nat → Bool} {held : Bool}
set_option maxRecDepth 100000 in
theorem open_slSI {fuel : Nat} {v : Value} {x : DataW H × List MemPlace} (h : DataW.trod enc Tryz.prog w 0 spare held fuel 24 [v] = some x) (hz : ∀ n ∈ x.1.weights Tryz.prog 24, n ≤ reachBytes) :
    ∃ l : List Sc, SlV Sc.cells 2 w w.heap.size v l ∧ l.length ≤ 140737488355328 ∧ (∃ A c, v = .slice A l.length c ∧ l.length ≤ c) ∧ (∀ a ∈ l, isI a.s) := by
  rcases Go.Deep.open_slice Tryz.underlying24 h with ⟨hcs, _⟩ | ⟨a, len, cap, m, n, D, Pl, hcs, _, hl, hm, hmm, rfl, hx⟩
  · simp only [List.cons.injEq, and_true] at hcs
    subst hcs
    exact ⟨[], SlV.nil _ _, by simp, ⟨none, 0, rfl, Nat.le_refl _⟩, fun a h => absurd h (by simp)⟩
  · simp only [List.cons.injEq, and_true] at hcs
    subst hcs
    have hnm : len ≤ m := by rw [hmm]; split <;> omega
    have hb := hz ((((List.range len).map D).length + ((List.range (m - len)).map fun j => D (len + j)).length) * Tryz.prog.bytesOf 99) (by simp [DataW.weights, Tryz.underlying24])
    rw [show Tryz.prog.bytesOf 99 = 24 by kernel_rfl] at hb
    simp only [List.length_map, List.length_range, reachBytes] at hb
    have key : ∀ i, i < len → ∃ q : Sc, isI q.s ∧ (∀ j v, (Sc.cells q)[j]? = some v → w.cell? ((a.add (i * 2)).add j) = some v) := by
      intro i hi
      obtain ⟨cs', h1, h2⟩ := hx i (by omega)
      rw [show Tryz.prog.cellsOf 99 = 2 by kernel_rfl] at h1
      obtain ⟨_, hlen, hat⟩ := World.cells?_some h1
      obtain ⟨q, rfl, hqi⟩ := open_score h2
      refine ⟨q, hqi, fun j v hj => ?_⟩
      have hj6 := (List.getElem?_eq_some_iff.1 hj).1
      have := hat j hj6
      rw [this]
      exact hj
    obtain ⟨q, hq⟩ := Go.Deep.choose_lt (α := Sc) key
    refine ⟨(List.range len).map q, ⟨some a, cap, by simp, fun h0 => ?_⟩, by simp; omega, ⟨some a, cap, by simp, by simpa using hl⟩, fun y hy => by obtain ⟨i, hi, rfl⟩ := List.mem_map.1 hy; exact (hq i (List.mem_range.1 hi)).1⟩
    simp only [List.length_map, List.length_range] at h0
    obtain ⟨b, off, spot⟩ := a
    have hc0 := (hq 0 h0).2 0 _ rfl
    have hspot : spot = none := by simpa [Addr.add] using World.cell?_spot hc0
    subst hspot
    refine ⟨b, off, rfl, ?_, fun i y hy j u hu => ?_⟩
    · have := block_lt_of_cell hc0
      simpa [Addr.add] using this
    · have hi : i < len := by have := (List.getElem?_eq_some_iff.1 hy).1; simpa using this
      rw [List.getElem?_map, List.getElem?_range hi] at hy
      obtain rfl : q i = y := by simpa using hy
      have := (hq i hi).2 j u hu
      rw [addr_plain, addr_plain] at this
      exact this
set_option maxRecDepth 100000 in
theorem open_valI {fuel : Nat} {cs : List Value} {x : DataW H × List MemPlace} (h : DataW.trod enc Tryz.prog w 0 spare held fuel 26 cs = some x) (hz : ∀ n ∈ x.1.weights Tryz.prog 26, n ≤ reachBytes) :
    ∃ (q : Vl) (vp vl vs : Value), cs = vlC q vp vl vs ∧ VlM w w.heap.size q vp vl vs ∧ q.Fits ∧ (∃ A c, vs = .slice A q.ss.length c ∧ q.ss.length ≤ c) ∧ (∀ a ∈ q.ss, isI a.s) := by
  obtain ⟨xs, n, _, rfl, hl, hlen, hf⟩ := DataW.trod_struct (fs := Tryz.prog.fieldsOf 26) Tryz.underlying26 h
  rw [show Tryz.prog.cellsOf 26 = 5 by kernel_rfl] at hl
  have hzz : ∀ n ∈ DataW.weightsEach Tryz.prog ((Tryz.prog.fieldsOf 26).toList.map (·.type)) (xs.map (·.1)), n ≤ reachBytes := by
    intro n hn
    refine hz n ?_
    show n ∈ DataW.weights Tryz.prog 26 (.agg (xs.map (·.1)))
    simp only [DataW.weights, Tryz.underlying26]
    exact hn
  have wt : ∀ (i : Nat) (t : TypeId) (d : DataW H), ((Tryz.prog.fieldsOf 26).toList.map (·.type))[i]? = some t → (xs.map (·.1))[i]? = some d → ∀ n ∈ d.weights Tryz.prog t, n ≤ reachBytes :=
    fun i t d ht hd n hn => hzz n (DataW.weights_mem_each ht hd n hn)
  obtain ⟨v0, x0, g0, h0, d0⟩ := field_two hlen hf 0 (show (Tryz.prog.fieldsOf 26)[0]?.map (fun f => (f.offset, f.type)) = some (0, 3) by kernel_rfl) (by kernel_rfl) (by omega)
  obtain ⟨v1, x1, g1, h1, d1⟩ := field_two hlen hf 1 (show (Tryz.prog.fieldsOf 26)[1]?.map (fun f => (f.offset, f.type)) = some (1, 9) by kernel_rfl) (by kernel_rfl) (by omega)
  obtain ⟨v2, x2, g2, h2, d2⟩ := field_two hlen hf 2 (show (Tryz.prog.fieldsOf 26)[2]?.map (fun f => (f.offset, f.type)) = some (2, 22) by kernel_rfl) (by kernel_rfl) (by omega)
  obtain ⟨v3, x3, g3, h3, d3⟩ := field_two hlen hf 3 (show (Tryz.prog.fieldsOf 26)[3]?.map (fun f => (f.offset, f.type)) = some (3, 23) by kernel_rfl) (by kernel_rfl) (by omega)
  obtain ⟨v4, x4, g4, h4, d4⟩ := field_two hlen hf 4 (show (Tryz.prog.fieldsOf 26)[4]?.map (fun f => (f.offset, f.type)) = some (4, 24) by kernel_rfl) (by kernel_rfl) (by omega)
  obtain ⟨z, e0, _, hz0⟩ := DataW.trod_int Tryz.underlying3 h0
  obtain ⟨s1, e1, ex1, _⟩ := DataW.trod_string Tryz.underlying9 h1
  obtain ⟨ps, hps, hpl, _⟩ := open_slP h2 (wt 2 _ _ (by kernel_rfl) d2)
  obtain ⟨ls, hls, hll, _⟩ := open_slW h3 (wt 3 _ _ (by kernel_rfl) d3)
  obtain ⟨ss, hss, hsl, hsc, hsi⟩ := open_slSI h4 (wt 4 _ _ (by kernel_rfl) d4)
  have ht := wt 1 9 _ (by kernel_rfl) d1 s1.data.toList.length (by rw [ex1]; simp [DataW.weights])
  simp only [reachBytes] at ht
  refine ⟨⟨z, s1.data.toList, ps, ls, ss⟩, v2, v3, v4, ?_, ⟨hps, hls, hss⟩, ⟨hpl, hll, hsl, by show s1.data.toList.length ≤ _; omega⟩, hsc, hsi⟩
  simp only [List.cons.injEq, and_true] at e0 e1
  subst e0 e1
  match cs, hl with
  | [u0, u1, u2, u3, u4], _ =>
    simp at g0 g1 g2 g3 g4
    rw [g0, g1, g2, g3, g4]
set_option maxRecDepth 100000 in
theorem open_entryI {fuel : Nat} {cs : List Value} {x : DataW H × List MemPlace} (h : DataW.trod enc Tryz.prog w 0 spare held fuel 28 cs = some x) (hz : ∀ n ∈ x.1.weights Tryz.prog 28, n ≤ reachBytes) :
    ∃ (key : Nm) (q : Vl) (vp vl vs : Value) (at_ : Int), cs = [encStr key] ++ (vlC q vp vl vs ++ [.int .i64 at_]) ∧ VlM w w.heap.size q vp vl vs ∧ q.Fits ∧ (∃ A c, vs = .slice A q.ss.length c ∧ q.ss.length ≤ c) ∧ key.length ≤ 140737488355328 ∧ isI at_ ∧ (∀ a ∈ q.ss, isI a.s) := by
  obtain ⟨xs, n, _, rfl, hl, hlen, hf⟩ := DataW.trod_struct (fs := Tryz.prog.fieldsOf 28) Tryz.underlying28 h
  rw [show Tryz.prog.cellsOf 28 = 7 by kernel_rfl] at hl
  have hzz : ∀ n ∈ DataW.weightsEach Tryz.prog ((Tryz.prog.fieldsOf 28).toList.map (·.type)) (xs.map (·.1)), n ≤ reachBytes := by
    intro n hn
    refine hz n ?_
    show n ∈ DataW.weights Tryz.prog 28 (.agg (xs.map (·.1)))
    simp only [DataW.weights, Tryz.underlying28]
    exact hn
  have wt : ∀ (i : Nat) (t : TypeId) (d : DataW H), ((Tryz.prog.fieldsOf 28).toList.map (·.type))[i]? = some t → (xs.map (·.1))[i]? = some d → ∀ n ∈ d.weights Tryz.prog t, n ≤ reachBytes :=
    fun i t d ht hd n hn => hzz n (DataW.weights_mem_each ht hd n hn)
  obtain ⟨v0, x0, g0, h0, d0⟩ := field_two hlen hf 0 (show (Tryz.prog.fieldsOf 28)[0]?.map (fun f => (f.offset, f.type)) = some (0, 9) by kernel_rfl) (by kernel_rfl) (by omega)
  obtain ⟨v2, x2, g2, h2, d2⟩ := field_two hlen hf 2 (show (Tryz.prog.fieldsOf 28)[2]?.map (fun f => (f.offset, f.type)) = some (6, 3) by kernel_rfl) (by kernel_rfl) (by omega)
  obtain ⟨f1, hf1, hf1t⟩ := Option.map_eq_some_iff.1 (show (Tryz.prog.fieldsOf 28)[1]?.map (fun f => (f.offset, f.type)) = some (1, 26) by kernel_rfl)
  injection hf1t with e1 e2
  have hlt : 1 < xs.length := by rw [hlen]; exact (Array.getElem?_eq_some_iff.1 hf1).1
  have h1 := hf 1 f1 hf1
  rw [e1, e2, show Tryz.prog.cellsOf 26 = 5 by kernel_rfl, List.getElem?_eq_getElem hlt] at h1
  obtain ⟨q, vp, vl, vs, hq, hm, hfit, hcap, hsi⟩ := open_valI h1 (wt 1 _ _ (by kernel_rfl) (by rw [List.getElem?_map, List.getElem?_eq_getElem hlt]; rfl))
  obtain ⟨z, e0, _, hz0⟩ := DataW.trod_int Tryz.underlying3 h2
  obtain ⟨s1, es1, ex1, _⟩ := DataW.trod_string Tryz.underlying9 h0
  have ht := wt 0 9 _ (by kernel_rfl) d0 s1.data.toList.length (by rw [ex1]; simp [DataW.weights])
  simp only [reachBytes] at ht
  refine ⟨s1.data.toList, q, vp, vl, vs, z, ?_, hm, hfit, hcap, by omega, wf_i64 hz0, hsi⟩
  simp only [List.cons.injEq, and_true] at e0 es1
  subst e0 es1
  match cs, hl with
  | [u0, u1, u2, u3, u4, u5, u6], _ =>
    simp at g0 g2
    simp only [List.drop_succ_cons, List.drop_zero, List.take_succ_cons, List.take_zero, List.cons.injEq, and_true] at hq
    obtain ⟨a1, a2, a3, a4, a5⟩ := hq
    rw [g0, g2, a1, a2, a3, a4, a5]
    rfl
end
end Go.Proofs.YtpbkejmffddelaaGreat

/- Proved: the law ValueBack (P15.4) answers true and leaves its arguments as they read before. For every entry and every list of bytes; no condition. -/
namespace Go.Proofs.YtpbkejmffddelaaGreat.valueBack
open Go.ChangeShapes Go.WideShapes Go.ChangeAt Go.RowKit

theorem own : ownKnob Tryz.prog.godebug = none := by kernel_rfl
theorem laidOut : laidOutB Tryz.prog = true := by kernel_rfl

set_option maxRecDepth 100000 in
theorem lifted (os : Os) (started : os.Started) (H : Type) (enc : TypeId × Value → H) :
    ReturnsInHanded {} Tryz.checked os 5 .any (Rows.valueBackSpec.pre6 enc Tryz.prog Tryz.f5 Rows.valueBackRow.domain false) (Rows.valueBackSpec.post enc Tryz.prog Tryz.f5 false true false false) := by
  refine returnsInHanded_of_change_sized (C := Tryz.checked) own started (by kernel_rfl) Tryz.func5
    (ChangeSpec.witness6 (enc := enc) (C := Tryz.checked) false ⟨#[], #[.agg #[.string ByteArray.empty, .int .i64 0, .string ByteArray.empty, .slice none 0 0, .slice none 0 0, .slice none 0 0, .int .i64 0], .slice none 0 0], []⟩ 8 (by kernel_rfl) (by kernel_rfl) (by kernel_rfl) (by kernel_rfl)) ?_
  intro W base args ds gs before hval0 hW hcnd hsz0 _
  have hsz : (DataW.weightsEach Tryz.prog (Tryz.f5.params.toList ++ Rows.valueBackSpec.plain.varTypes Tryz.prog) (ds ++ gs)).all (· ≤ reachBytes) = true := hsz0
  have hval : ∀ (j : Nat) t v, Tryz.f5.params[j]? = some t → args[j]? = some v → Value.okWide Tryz.prog W .any base t v := hval0
  have hW' := hW
  obtain ⟨p, q, hA0, hV, rfl, hfz, hnd⟩ := hW
  have hA : DataW.TrodAll enc Tryz.prog W 0 (fun _ => true) true Tryz.f5.params.toList args.toList ds p := hA0
  rw [Tryz.params5] at hA hval hsz
  obtain ⟨v0, vs0, d0, ds0, p0, q0, hargs, rfl, rfl, h0, r0⟩ := trodAll_cons hA
  obtain ⟨v1, vs1, d1, ds1, p1, q1, rfl, rfl, rfl, h1, r1⟩ := trodAll_cons r0
  obtain ⟨rfl, rfl, rfl⟩ := trodAll_nil r1
  obtain rfl : args = #[v0, v1] := by cases args; simp_all
  obtain ⟨rfl, rfl⟩ := trodVars_none hV
  have k0 := h0
  have lt0 : ∀ x ∈ p0, x.block < W.heap.size := by obtain ⟨m, hm⟩ := k0; exact DataW.trod_lt m _ _ _ hm
  obtain ⟨a1, len1, cap1, rfl⟩ := okWide_slice Tryz.underlying31 (hval 1 31 v1 rfl rfl)
  have k1 := h1
  have lt1 : ∀ x ∈ p1, x.block < W.heap.size := by obtain ⟨m, hm⟩ := k1; exact DataW.trod_lt m _ _ _ hm
  clear hA0 hval0 hsz0
  obtain ⟨cs0, rfl⟩ : ∃ cs : List Value, v0 = .agg cs.toArray := by
    have := hval 0 28 v0 rfl rfl
    obtain ⟨cs, rfl, _⟩ : ∃ cs, v0 = .agg cs ∧ cs.size = Tryz.prog.cellsOf 28 ∧ Row.okWide Tryz.prog W .any base 28 cs := by
      simpa [Value.okWide, Tryz.underlying28] using this
    exact ⟨cs.toList, by simp⟩
  have kk0 := k0
  obtain ⟨fuel0, hf0⟩ := kk0
  have z0 : ∀ n ∈ d0.weights Tryz.prog 28, n ≤ reachBytes := fun n hn => by
    have := List.all_eq_true.1 hsz n (DataW.weights_mem_each (j := 0) rfl rfl n hn)
    simpa using this
  obtain ⟨y0, q0, p0p, p0l, p0s, t0, hcs0, m0, f0, c0, b0, i0, s0⟩ := open_entryI hf0 z0
  obtain rfl : cs0 = _ := hcs0
  obtain ⟨x1, bb1, by1⟩ : ∃ xs, Bs W W.heap.size a1 len1 xs ∧ IsBy xs := by
    obtain ⟨fuel, hf⟩ := k1
    obtain ⟨A', n', c', xs, hv, hb, hby, _, _⟩ := trod_bs Tryz.underlying31 Tryz.underlying5 (by kernel_rfl) hf
    simp at hv
    obtain ⟨rfl, rfl, rfl⟩ := hv
    exact ⟨xs, hb, hby⟩
  refine (valueBack_any W y0 q0 _ _ _ t0 m0 f0 s0 b0 a1 len1 cap1 x1 bb1 by1).mono fun e W' ⟨he, bel⟩ => ?_
  subst he
  exact ⟨_, rfl, _, _, _, [], _, [], hW', trodAll_mk1 (shut_bool Tryz.underlying4 _), (trodAll_cons_mk (Below.trod laidOut (by kernel_rfl) (of_decide_eq_true (by kernel_rfl)) k0 bel lt0) (trodAll_cons_mk (Below.trod laidOut (by kernel_rfl) (of_decide_eq_true (by kernel_rfl)) k1 bel lt1) trodAll_mk0)), rfl, bel.frame _, fun h => by cases h⟩

theorem over : Rows.valueBackRow.holds Tryz.pinned (OpenSpec.ofChange Rows.valueBackSpec) :=
  OpenClaim.holds_of_wide 5 Tryz.f5 rfl rfl rfl rfl rfl rfl rfl ⟨rfl, rfl, rfl, rfl, rfl⟩ rfl rfl rfl rfl rfl (by kernel_rfl) Tryz.func5 (by kernel_rfl)
    (of_decide_eq_true (by kernel_rfl)) (by unfold Func.isWrapper; first | (rw [if_pos (by decide +kernel)]; kernel_rfl) | (rw [if_neg (by decide +kernel)]; exact ⟨rfl, rfl⟩))
    (fun os started H enc _ => lifted os started H enc)

/-- The given statement. -/
theorem proved : Rows.ValueBackSaid := over
#print axioms proved
end Go.Proofs.YtpbkejmffddelaaGreat.valueBack

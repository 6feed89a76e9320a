/-
  Several own texts in one: ValFj, SameB. Own work.
-/
import Derived.Test.YtpbkejmffddelaaGreatGM
set_option linter.unusedVariables false
set_option linter.unusedSimpArgs false
/-
  The program's Decode: contract. Own work.
-/
namespace Go.Proofs.YtpbkejmffddelaaGreat
open Go.RowKit Go.Shelf
theorem bytesOf_eq {xs ys : List Int} (hx : IsBy xs) (hy : IsBy ys) : (Lib.bytesOf xs == Lib.bytesOf ys) = decide (xs = ys) := by
  have h : Lib.bytesOf xs = Lib.bytesOf ys ↔ xs = ys := by
    constructor
    · intro h
      have h2 : nb (bn xs) = nb (bn ys) := congrArg nb h
      rwa [nb_bn hx, nb_bn hy] at h2
    · exact fun h => by rw [h]
  rw [Bool.eq_iff_iff, beq_iff_eq, decide_eq_true_eq]
  exact h
theorem by_nil : IsBy [] := fun x hx => absurd hx (by simp)
theorem by_app {xs ys : List Int} (h : IsBy xs) (k : IsBy ys) : IsBy (xs ++ ys) := fun x hx => (List.mem_append.1 hx).elim (h x) (k x)
theorem by_high (x : Int) (n : Nat) : IsBy (highB x n) := fun b hb => lowB_byte x n b (by simpa [highB] using hb)
theorem by_putT {b : List Int} (h : IsBy b) (t : Nm) : IsBy (putT b t) := by_app (by_app h (by_high _ _)) (nb_by t)
theorem by_encP : ∀ (l : List Pr) {b : List Int}, IsBy b → IsBy (encP b l)
  | [], b, h => h
  | p :: r, b, h => by_encP r (by_putT (by_putT h _) _)
theorem by_encL : ∀ (l : List Nm) {b : List Int}, IsBy b → IsBy (encL b l)
  | [], b, h => h
  | p :: r, b, h => by_encL r (by_putT h _)
theorem by_encS : ∀ (l : List Sc) {b : List Int}, IsBy b → IsBy (encS b l)
  | [], b, h => h
  | p :: r, b, h => by_encS r (by_app (by_putT h _) (by_high _ _))
theorem by_encH (key : Nm) (at_ k : Int) : IsBy (encH key at_ k) := by
  refine by_app (by_app (by_putT by_nil _) (by_high _ _)) fun x hx => ?_
  obtain rfl : x = IntKind.u8.wrap k := by simpa using hx
  show 0 ≤ k % 256 ∧ k % 256 < 256
  omega
theorem by_encB (key : Nm) (x : Vl) (at_ : Int) : IsBy (encB key x at_) := by
  unfold encB encC
  split
  · exact by_putT (by_encH _ _ _) _
  · exact by_encS _ (by_encL _ (by_encP _ (by_app (by_encH _ _ _) (by_high _ _))))
/-- Are these an entry's bytes? -/
def decOk (b : List Int) : Prop := entC (dK b).1 (dK b).2.1 (dV (dK b).2.2).1.rchk = 0 ∧ encB (dK b).1 (dV (dK b).2.2).1 (dK b).2.1 = b
instance (b : List Int) : Decidable (decOk b) := by unfold decOk; infer_instance
def v0 : Vl := ⟨0, [], [], [], []⟩
/-- What Decode leaves. -/
def DecPost (w : World) (b : List Int) (en : Ending) (w' : World) : Prop :=
  ∃ (key : Nm) (x : Vl) (at_ : Int) (vp vl vs : Value) (ec : Int), en = .returned (.tuple #[enV key x vp vl vs at_, .int .i64 ec]) ∧ VlM w' w'.heap.size x vp vl vs ∧ x.Few ∧ x.t.length ≤ 512 ∧ key.length ≤ 64 ∧ (∃ A c, vs = .slice A x.ss.length c ∧ x.ss.length ≤ c) ∧ Below w.heap.size w w' ∧
    ((ec = 0 ∧ decOk b ∧ key = (dK b).1 ∧ x = (dV (dK b).2.2).1 ∧ at_ = (dK b).2.1) ∨ (ec = 3 ∧ ¬ decOk b ∧ key = [] ∧ x = v0 ∧ at_ = 0))
theorem zeroEn : (Tryz.prog.info? 28).map (fun i => i.zero) = some (some (.agg (enC [] v0 nilS nilS nilS 0).toArray)) := by kernel_rfl
theorem builtEn0 : Tryz.prog.built 28 [] = some (enC [] v0 nilS nilS nilS 0).toArray := by kernel_rfl
theorem ec_zero {key : Nm} {at_ : Int} {x y : Vl} (hk : x.k = y.k) (h : 1 ≤ y.k → y.k ≤ 5 → x = y) : entC key at_ x.rchk = 0 ↔ entC key at_ y.rchk = 0 := by
  constructor
  · intro h0
    obtain ⟨h1, _⟩ := entC_zero h0
    obtain ⟨k1, k5⟩ := rchk_kind h1
    rw [← h (by omega) (by omega)]
    exact h0
  · intro h0
    obtain ⟨h1, _⟩ := entC_zero h0
    obtain ⟨k1, k5⟩ := rchk_kind h1
    rw [h k1 k5]
    exact h0
theorem ec_same {key : Nm} {at_ : Int} {x y : Vl} (hk : x.k = y.k) (h : 1 ≤ y.k → y.k ≤ 5 → x = y) (h0 : entC key at_ x.rchk = 0) : x = y := by
  obtain ⟨h1, _⟩ := entC_zero h0
  obtain ⟨k1, k5⟩ := rchk_kind h1
  exact h (by omega) (by omega)
theorem run_toStrN {P : Program} {w : World} {a : Act} {o : Oper} (src dst e : TypeId) (x : Operand) {B n c : Nat} {A : Option Addr} (t : Nm) (ho : o.op = .convert src dst x) (hx : a.eval x = .slice A n c) (h : Bs w B A n (nb t)) (hs : P.underlying src = some (.slice e)) (he : P.underlying e = some (.int .u8)) (hd : P.underlying dst = some .string) :
    (execOp a.eval o).run P w = .ok (.value (encStr t)) w := by
  rw [nb_str]
  exact run_toStr src dst e x ho hx h hs he hd
set_option maxRecDepth 100000 in
set_option maxHeartbeats 4000000 in
theorem dec_any (w : World) (A : Option Addr) (n c : Nat) (b : List Int) (hb : Bs w w.heap.size A n b) (hn : n ≤ 1000000) (hx : IsBy b) :
    Calls Tryz.prog 14 #[.slice A n c] w (DecPost w b) := by
  have HR := fun wz (hz : Below w.heap.size w wz) => read_any A n c b wz (hb.later hz) hn
  obtain ⟨⟨key, s1⟩, h1⟩ : ∃ r, rT 64 (b, 0) = r := ⟨_, rfl⟩
  obtain ⟨⟨at_, s2⟩, h2⟩ : ∃ r, rN 1099511627776 s1 = r := ⟨_, rfl⟩
  have hd : dK b = (key, at_, s2) := by unfold dK; rw [h1]; simp only [h2]
  have hx1 : s1.By := by have := rT_by (most := 64) (s := (b, 0)) hx; rw [h1] at this; exact this
  have hx2 : s2.By := by have := rN_by (most := 1099511627776) hx1; rw [h2] at this; exact this
  have hkl : key.length ≤ 64 := by have := rT_len (most := 64) (s := (b, 0)) hx; rw [h1] at this; exact this
  have hdk : decOk b ↔ entC key at_ (dV s2).1.rchk = 0 ∧ encB key (dV s2).1 at_ = b := by unfold decOk; rw [hd]
  have HB : ∀ {lo g : Nat} wz (hz : Rd wz lo g b 0), Calls Tryz.prog 56 #[.pointer (some ⟨g, 0, none⟩), .int .i64 64] wz fun en w' => ∃ A n c, en = .returned (.slice A n c) ∧ Bs w' w'.heap.size A n (nb key) ∧ Rd w' lo g s1.1 s1.2 ∧ wz.grownBy w' (some g) := fun {lo g} wz hz => (bytes_any wz hz hx 64 (by decide) (by decide)).mono fun en w' ⟨A, n, c, e, hs, hR, hg⟩ => ⟨A, n, c, e, by
      have q : bn (tkText 64 b 0).1 = key := congrArg Prod.fst h1
      rw [← q, nb_bn (tkText_by hx).1]
      exact hs.lt_size, by
      have q : (tkText 64 b 0).2 = s1 := congrArg Prod.snd h1
      rw [← q]
      exact hR, hg⟩
  have HN := fun {lo g : Nat} wz (hz : Rd wz lo g s1.1 s1.2) => numR_any wz hz hx1 1099511627776 (by decide) (by decide)
  rw [h2] at HN
  have HV := fun {lo g : Nat} wz (hz : Rd wz lo g s2.1 s2.2) => readVal_any wz hz hx2
  generalize hy : (dV s2).1 = y at HV hdk
  have hpost : ∃ Q, Q = DecPost w b := ⟨_, rfl⟩
  obtain ⟨Q, hQ⟩ := hpost
  rw [← hQ]
  replace hQ := hide hQ
  replace hdk := hide hdk
  replace hd := hide hd
  replace hy := hide hy
  replace HR := hide HR
  clear h1 h2 hx1 hx2
  go_enter Tryz.func14, Tryz.ntmps14
  go_wp2_with (first
    | ((with_reducible refine wl_alloc (o := ⟨some 2, _, _, _, _, _⟩) rfl 28 _ (enC [] v0 nilS nilS nilS 0) rfl zeroEn rfl ?_); intro g2 w1 r2 p2 l2 b1)
    | ((with_reducible refine wl_alloc (o := ⟨some 4, _, _, _, _, _⟩) rfl 28 _ (enC [] v0 nilS nilS nilS 0) rfl zeroEn rfl ?_); intro g4 w2 r4 p4 l4 b2; have r22 := r2.later b2))
  have B2 := b1.trans (b2.mono b1.size)
  refine (HR.out w2 B2).mono ?_
  rintro en w3 ⟨g, rfl, hlo, hgl, hR3, b3⟩
  have B3 := B2.trans (b3.mono B2.size)
  have r23 := r22.later b3
  have r43 := r4.later b3
  have n2 : g2 ≠ g := by have := r22.lt; omega
  have n4 : g4 ≠ g := by have := r4.lt; omega
  go_wp2_with fail
  refine (HB w3 hR3).mono ?_
  rintro en w4 ⟨A4, n4', c4, rfl, hs4, hR4, gr4⟩
  have g4lo : g4 < w2.heap.size := r4.lt
  have n24 : g2 ≠ g4 := Nat.ne_of_lt (Nat.lt_of_lt_of_le r2.lt p4)
  have r24 := r23.but (But.gr gr4) n2
  have r44 := r43.but (But.gr gr4) n4
  clear r22 r23 r43 hR3 HB
  go_wp2_with (first
    | (with_reducible refine wl_run (o := ⟨some 12, _, _, _, _, _⟩) rfl (encStr key) (run_toStrN 31 9 5 (.tmp 11) key rfl rfl hs4 Tryz.underlying31 Tryz.underlying5 Tryz.underlying9) ?_)
    | ((with_reducible refine wl_store rfl 9 (.tmp 13) (.tmp 12) g4 0 28 (enC [] v0 nilS nilS nilS 0) (encStr key) rfl (by kernel_rfl) rfl rfl r44 (by simp) rfl ?_); intro w5 r5 o5; replace r5 : Row w5 28 g4 (enC key v0 nilS nilS nilS 0) := r5; have r25 := r24.only o5 n24; have hR5 := hR4.grown (grown_only o5) (.inl g4lo)))
  refine (HN w5 hR5).mono ?_
  rintro en w6 ⟨rfl, hR6, gr6⟩
  have r46 := r5.but (But.gr gr6) n4
  have r26 := r25.but (But.gr gr6) n2
  clear r44 r24 HN hR5 hR4 hs4
  go_wp2_with (first
    | ((with_reducible refine wl_store rfl 3 (.tmp 16) (.tmp 15) g4 6 28 (enC key v0 nilS nilS nilS 0) (.int .i64 at_) rfl (by kernel_rfl) rfl rfl r46 (by simp) rfl ?_); intro w7 r7 o7; replace r7 : Row w7 28 g4 (enC key v0 nilS nilS nilS at_) := r7; have r27 := r26.only o7 n24; have hR7 := hR6.grown (grown_only o7) (.inl g4lo)))
  have g4w7 : g4 < w7.heap.size := r7.lt
  have g2w7 : g2 < w7.heap.size := r27.lt
  refine (HV w7 hR7).mono ?_
  rintro en w8 ⟨x, vp, vl, vs, rfl, hM8, hM9, few, htl, hxk, hxy, hcp, U8⟩
  have r48 := r7.butz' U8 (by simpa using n4)
  have r28 := r27.butz' U8 (by simpa using n2)
  have hone := hM8.one
  have hone7 : ∀ u ∈ enC key x vp vl vs at_, u.oneCell' = true := by
    intro u hu
    rcases List.mem_append.1 hu with hu | hu
    · obtain rfl : u = encStr key := by simpa using hu
      rfl
    · rcases List.mem_append.1 hu with hu | hu
      · exact hone u hu
      · obtain rfl : u = .int .i64 at_ := by simpa using hu
        rfl
  have hsz := szVl x vp vl vs
  have hse := szEnt key x vp vl vs at_
  replace hcp := hide hcp
  replace hxk := hide hxk
  replace hxy := hide hxy
  replace hM9 := hide hM9
  replace htl := hide htl
  clear r46 r26 HV hR7 hR6 r25 r5 r7 r27
  go_wp2_with (first
    | ((with_reducible refine wl_store_part rfl 26 (.tmp 19) (.tmp 18) g4 1 28 [encStr key] (vlC v0 nilS nilS nilS) [.int .i64 at_] (vlC x vp vl vs) rfl rfl rfl r48 rfl rfl hsz hone ?_); intro w9 r9 o9; have r29 := r28.only o9 n24; have hMM := hM9.out [g4] w9 (by simpa using g4w7) (Only.butZ o9))
    | (with_reducible refine wl_load_row (o := ⟨some 21, _, _, _, _, _⟩) rfl 28 (.tmp 4) g4 28 (enC key x vp vl vs at_) _ rfl rfl r9 Tryz.underlying28 rfl hse ?_))
  have hML : ∀ wz, ButZ [g4, g2] w9 wz → VlM wz wz.heap.size x vp vl vs := fun wz hz => hM9.out [g4, g2] wz (fun k hk => by simp only [List.mem_cons, List.not_mem_nil, or_false] at hk; rcases hk with rfl | rfl; exact g4w7; exact g2w7) (((ButZ.of (Below.refl _ _)).only o9 (.inr (by simp))).trans hz)
  refine (enc_any w9 key x vp vl vs at_ hMM few (Nat.le_trans htl.out (by decide))).mono ?_
  rintro en w10 ⟨⟨A10, n10, c10, rfl, hb10⟩, b10⟩
  have hg0 : w.heap.size ≤ g := Nat.le_trans B2.size hlo
  have hg4 : w.heap.size ≤ g4 := Nat.le_trans b1.size p4
  have B4 := B3.trans (below_of_grown gr4 hg0 B3.size)
  have B5 := B4.trans (o5.below hg4)
  have B6 := B5.trans (below_of_grown gr6 hg0 B5.size)
  have B7 := B6.trans (o7.below hg4)
  have B8 := B7.trans (U8.below (by simpa using hg0) B7.size)
  have B9 : Below w.heap.size w w9 := B8.trans (o9.below hg4)
  have B10 := B9.trans (b10.mono B9.size)
  have hbb := hb.later B10
  have hM10 := hMM.later b10
  have r410 := r9.later b10
  have r210 := r29.later b10
  have hxk := hxk.out
  have hxy := hxy.out
  have heq := ec_zero (key := key) (at_ := at_) hxk hxy
  obtain ⟨ec, hec⟩ : ∃ ec, ec = entC key at_ x.rchk := ⟨_, rfl⟩
  rw [← hec] at heq hb10 ⊢
  have hg2 : w.heap.size ≤ g2 := p2
  have hML2 : ∀ wz, Only g2 w10 wz → VlM wz wz.heap.size x vp vl vs := fun wz hz => hML wz ((ButZ.of b10).only hz (.inr (by simp)))
  replace hML2 := hide hML2
  clear r48 r28 r9 r29 b3 b2 b1 b10 gr4 gr6 o5 o7 U8 o9 B2 B3 B4 B5 B6 B7 B8 B9 hML hM10
  by_cases h0 : ec = 0
  · subst h0
    obtain rfl := ec_same hxk hxy hec.symm
    rw [if_pos rfl] at hb10
    have HQ := equal_any A10 A n10 n c10 c (encB key x at_) b w10 hb10 hbb
    rw [bytesOf_eq (by_encB _ _ _) hx] at HQ
    by_cases he : encB key x at_ = b
    · rw [decide_eq_true he] at HQ
      have hok := hide (hdk.out.2 ⟨hec.symm, he⟩)
      replace hec := hide hec
      replace he := hide he
      clear heq hb10 hbb hb
      go_wp2_with fail
      refine HQ.mono ?_
      rintro en w11 ⟨rfl, rfl⟩
      go_wp2_with (first
        | (with_reducible refine wl_load_row (o := ⟨some 34, _, _, _, _, _⟩) rfl 28 (.tmp 4) g4 28 (enC key x vp vl vs at_) _ rfl rfl r410 Tryz.underlying28 rfl hse ?_)
        | ((with_reducible refine wl_store_row rfl 28 (.tmp 2) (.tmp 34) g2 28 _ (enC key x vp vl vs at_) rfl rfl rfl r210 hse rfl hone7 ?_); intro w12 r12 o12))
      rw [hQ.out]
      refine bodyPost_ret (v := .tuple #[enV key x vp vl vs at_, .int .i64 0]) ?_ rfl ⟨key, x, at_, vp, vl, vs, 0, rfl, hML2.out _ o12, few, htl.out, hkl, hcp.out, B10.trans (o12.below hg2), .inl ⟨rfl, hok.out, by rw [hd.out], by rw [hd.out]; exact hy.out.symm, by rw [hd.out]⟩⟩
      exact results_rt2 Tryz.results14 _ _ g2 28 _ _ _ rfl r12 Tryz.underlying28 rfl hse rfl
    · rw [decide_eq_false he] at HQ
      have hok : ¬ decOk b := fun h => he (hdk.out.1 h).2
      have hse0 := szEnt [] v0 nilS nilS nilS 0
      have hone0 : ∀ u ∈ enC [] v0 nilS nilS nilS 0, u.oneCell' = true := by simp [Value.oneCell', encStr, v0]
      replace hec := hide hec
      clear heq hb10 hbb hb he hdk
      go_wp2_with fail
      refine HQ.mono ?_
      rintro en w11 ⟨rfl, rfl⟩
      go_wp2_with (first
        | (with_reducible refine wl_build (o := ⟨some 33, _, _, _, _, _⟩) rfl 28 [] rfl [] rfl (enC [] v0 nilS nilS nilS 0) builtEn0 ?_)
        | ((with_reducible refine wl_store_row rfl 28 (.tmp 2) (.tmp 33) g2 28 _ (enC [] v0 nilS nilS nilS 0) rfl rfl rfl r210 hse0 rfl hone0 ?_); intro w12 r12 o12))
      rw [hQ.out]
      refine bodyPost_ret (v := .tuple #[enV [] v0 nilS nilS nilS 0, .int .i64 3]) ?_ rfl ⟨[], v0, 0, nilS, nilS, nilS, 3, rfl, ⟨SlV.nil _ _, SlV.nil _ _, SlV.nil _ _⟩, ⟨by simp [v0], by simp [v0], by simp [v0]⟩, by simp [v0], by simp, ⟨none, 0, rfl, Nat.le_refl _⟩, B10.trans (o12.below hg2), .inr ⟨rfl, hok, rfl, rfl, rfl⟩⟩
      exact results_rt2 Tryz.results14 _ _ g2 28 _ _ _ rfl r12 Tryz.underlying28 rfl (szEnt [] v0 nilS nilS nilS 0) rfl
  · have hok : ¬ decOk b := fun h => h0 (heq.2 (hdk.out.1 h).1)
    have hse0 := szEnt [] v0 nilS nilS nilS 0
    have hone0 : ∀ u ∈ enC [] v0 nilS nilS nilS 0, u.oneCell' = true := by simp [Value.oneCell', encStr, v0]
    have hne : (ec != 0) = true := by rw [bne_iff_ne]; exact h0
    replace hec := hide hec
    replace h0 := hide h0
    clear heq hb10 hbb hb hdk
    go_wp2_with (first
      | (with_reducible refine wl_build (o := ⟨some 33, _, _, _, _, _⟩) rfl 28 [] rfl [] rfl (enC [] v0 nilS nilS nilS 0) builtEn0 ?_)
      | ((with_reducible refine wl_store_row rfl 28 (.tmp 2) (.tmp 33) g2 28 _ (enC [] v0 nilS nilS nilS 0) rfl rfl rfl r210 hse0 rfl hone0 ?_); intro w12 r12 o12))
    rw [hQ.out]
    refine bodyPost_ret (v := .tuple #[enV [] v0 nilS nilS nilS 0, .int .i64 3]) ?_ rfl ⟨[], v0, 0, nilS, nilS, nilS, 3, rfl, ⟨SlV.nil _ _, SlV.nil _ _, SlV.nil _ _⟩, ⟨by simp [v0], by simp [v0], by simp [v0]⟩, by simp [v0], by simp, ⟨none, 0, rfl, Nat.le_refl _⟩, B10.trans (o12.below hg2), .inr ⟨rfl, hok, rfl, rfl, rfl⟩⟩
    exact results_rt2 Tryz.results14 _ _ g2 28 _ _ _ rfl r12 Tryz.underlying28 rfl (szEnt [] v0 nilS nilS nilS 0) rfl
end Go.Proofs.YtpbkejmffddelaaGreat

/-
  Whether two texts have the same bytes: the document's. Own work.
-/
namespace Go.Proofs.YtpbkejmffddelaaGreat
open Go.RowKit
theorem take_next2 {xs ys : List Int} {k : Nat} (h : xs.take k = ys.take k) (hx : k < xs.length) (hy : k < ys.length) (hv : xs.getD k 0 = ys.getD k 0) : xs.take (k + 1) = ys.take (k + 1) := by
  rw [List.take_add_one, List.take_add_one, h]
  simp only [List.getD, List.getElem?_eq_getElem hx, List.getElem?_eq_getElem hy, Option.getD_some] at hv ⊢
  rw [hv]
set_option maxRecDepth 100000 in
set_option maxHeartbeats 1000000 in
theorem rsame_any (A D : Option Addr) (m c n d : Nat) (xs ys : List Int) (w : World) (hx : Bs w w.heap.size A m xs) (hy : Bs w w.heap.size D n ys) (hm : m ≤ 1000000) (hn : n ≤ 1000000) :
    Calls Tryz.prog 63 #[.slice A m c, .slice D n d] w fun e w' => e = .returned (.bool (decide (xs = ys))) ∧ Below w.heap.size w w' := by
  have lx := hx.1
  have ly := hy.1
  by_cases hmn : m = n
  · subst hmn
    go_enter Tryz.func63, Tryz.ntmps63
    have LX := hide lx; have LY := hide ly
    clear lx ly
    go_wp2
    go_loopw [5] (fun iv wr => ∃ k : Nat, k ≤ m ∧ iv = .int .i64 k ∧ xs.take k = ys.take k ∧ Below w.heap.size w wr) (fun iv _ => m - (intOf iv).toNat)
    case atStart => exact ⟨0, Nat.zero_le _, rfl, rfl, Below.refl _ _⟩
    case round =>
      obtain ⟨k, hk, rfl, heq, br⟩ := hrel
      by_cases hlt : k < m
      · obtain ⟨b1, o1, hA, q1, k1⟩ := hx.at_ hlt
        obtain ⟨b2, o2, hD, q2, k2⟩ := hy.at_ hlt
        have c1 := (br.cell q1).trans k1
        have c2 := (br.cell q2).trans k2
        have hnx := take_next2 heq (by rw [LX.out]; exact hlt) (by rw [LY.out]; exact hlt)
        have hnd : xs.getD k 0 ≠ ys.getD k 0 → decide (xs = ys) = false := fun h => decide_eq_false (fun e => h (by rw [e]))
        have HX := hide hnx; have HD := hide hnd
        subst hA hD
        clear hnx hnd heq hx hy k1 k2 q1 q2
        by_cases hne : xs.getD k 0 = ys.getD k 0
        · have hnx := hide (HX.out hne)
          rw [← hne] at c2
          clear HX HD hne
          generalize xs.getD k 0 = x at *
          go_wp2_with fail
          go_quiet (fail)
          have bq := below_drewn br nq
          go_wp2
          go_roundw
          case rel => exact ⟨k + 1, by omega, by go_num, hnx.out, bq⟩
          case measure => simp [intOf]; omega
        · have hd := hide (HD.out hne)
          clear HX HD
          generalize xs.getD k 0 = x at *
          generalize ys.getD k 0 = y at *
          go_wp2_with fail
          go_quiet (fail)
          have bq := below_drewn br nq
          go_wp2
          go_ret
          exact ⟨by rw [hd.out]; rfl, bq⟩
      · have hkm : k = m := by omega
        subst hkm
        rw [List.take_of_length_le (by rw [LX.out]; exact Nat.le_refl _), List.take_of_length_le (by rw [LY.out]; exact Nat.le_refl _)] at heq
        have hd := hide (show decide (xs = ys) = true from decide_eq_true heq)
        clear heq
        go_wp2
        go_ret
        exact ⟨by rw [hd.out]; rfl, br⟩
  · have hne : ¬ ((m : Int) = (n : Int)) := by omega
    have hd := hide (show decide (xs = ys) = false from decide_eq_false (fun e => hmn (by rw [← lx, ← ly, e])))
    clear lx ly
    go_enter Tryz.func63, Tryz.ntmps63
    go_wp2
    go_ret
    exact ⟨by rw [hd.out]; rfl, Below.refl _ _⟩
end Go.Proofs.YtpbkejmffddelaaGreat

/-
  The law WirePlays: an act on both sides: Pick, Lose. Own work.
-/
import Derived.Test.YtlihoijbfffjcaaWireX
namespace Go.Proofs.Ytlihoijbfffjcaa
open Go.RowKit Go.Conc
set_option linter.unusedVariables false
set_option linter.unusedSimpArgs false
/-- Behind an act: both nets stand as long as nothing older than T turns; the program's answer lies in a row that is not older; both answers read alike. -/
def Fin (W : World) (B gw : Nat) (nv : Value) (gr gb : Nat) (A : Option Addr) (n : Nat) (A2 : Option Addr) (m2 : Nat) : Prop :=
  ∃ ls rs T xs, Sm ls rs ∧ B ≤ T ∧ T ≤ W.heap.size ∧ (∀ w', Below T W w' → Duo w' B gw nv ls gr gb rs) ∧ (n = 0 ∨ ∃ g cur, A = some ⟨g, 0, none⟩ ∧ T ≤ g ∧ Row W 5 g cur ∧ n ≤ cur.length) ∧ Bs W W.heap.size A n xs ∧ Bs W W.heap.size A2 m2 xs ∧ n ≤ 300
theorem own_row {w : World} {T n c : Nat} {A : Option Addr} {xs : List Value} (h : w.ownsRow T 5 1 (.slice A n c) n xs) : n = 0 ∨ ∃ g cur, A = some ⟨g, 0, none⟩ ∧ T ≤ g ∧ Row w 5 g cur ∧ n ≤ cur.length := by
  rcases h.2 with ⟨_, h0⟩ | ⟨g, cap, cur, e, h1, h2, h3, h4, h5, h6⟩
  · exact .inl h0
  · injection e with e1 _ _
    refine .inr ⟨g, cur.toList, e1, h1, ?_, by simp; omega⟩
    unfold Row
    rw [h2]
theorem Duo.below {w w1 w' : World} {B gw gr gb : Nat} {nv : Value} {ls : List Way} {rs : List RWay} (h : Duo w B gw nv ls gr gb rs) (hb : Below w.heap.size w w1) (hb2 : Below w.heap.size w1 w') : Duo w' B gw nv ls gr gb rs := h.later (hb.trans hb2)
theorem ByV.sl {w : World} {v : Value} {xs : List Int} (h : ByV w v xs) : ∃ A n c, v = .slice A n c := by
  obtain ⟨A, n, c, e, _⟩ := h
  exact ⟨A, n, c, e⟩
theorem fin_nil {w : World} {B gw gr gb : Nat} {nv : Value} {ls : List Way} {rs : List RWay} (hB : B ≤ w.heap.size) (h : Duo w B gw nv ls gr gb rs) (hS : Sm ls rs) : Fin w B gw nv gr gb none 0 none 0 :=
  ⟨ls, rs, w.heap.size, [], hS, hB, Nat.le_refl _, fun w' hb => h.later hb, .inl rfl, Bs.nil_, Bs.nil_, by omega⟩
theorem pick2_any {w : World} {B gw gr gb : Nat} {nv : Value} {ls : List Way} {rs : List RWay} (hB : B ≤ w.heap.size) (hD : Duo w B gw nv ls gr gb rs) (hS : Sm ls rs) (y z : Int) :
    Calls Try.prog 62 #[ptr gw, .int .i64 y, .int .i64 z] w fun e w1 => ∃ A n c err, e = .returned (.tuple #[.slice A n c, .int .i64 err]) ∧ Below w.heap.size w w1 ∧
      Calls Try.prog 63 #[ptr gr, .int .i64 y, .int .i64 z] w1 fun e2 w2 => ∃ A2 m2 c2, e2 = .returned (.tuple #[.slice A2 m2 c2, .int .i64 err]) ∧ w1 = w2 ∧ Fin w1 B gw nv gr gb A n A2 m2 := by
  rcases hS.way y with hy | ⟨i, rfl, l, r, hl, hr⟩
  · refine (pick_no w _ y z (lane_out w B gw nv ls hD.net y hy)).mono ?_
    rintro e w1 ⟨rfl, rfl⟩
    refine ⟨none, 0, 0, 1, rfl, Below.refl _ _, (rpick_no w _ y z (is_out w B gr gb rs hD.ref y (hS.len ▸ hy))).mono ?_⟩
    rintro e w1 ⟨rfl, rfl⟩
    exact ⟨none, 0, 0, rfl, rfl, fin_nil hB hD hS⟩
  · obtain ⟨e1, e2, e3⟩ := hS.at_ hl hr
    by_cases hz : z < 0 ∨ (l.fs.length : Int) ≤ z
    · refine (npick_none w B gw nv ls hD.net i l hl z hz).mono ?_
      rintro e w1 ⟨rfl, rfl⟩
      refine ⟨none, 0, 0, 9, rfl, Below.refl _ _, (rpick_none w B gr gb rs hD.ref i r hr z (e1 ▸ hz)).mono ?_⟩
      rintro e w1 ⟨rfl, rfl⟩
      exact ⟨none, 0, 0, rfl, rfl, fin_nil hB hD hS⟩
    · obtain ⟨k, rfl⟩ : ∃ k : Nat, z = (k : Int) := ⟨z.toNat, by omega⟩
      have hk : k < l.fs.length := by omega
      obtain ⟨⟨v, xs⟩, hv⟩ : ∃ p, l.fs[k]? = some p := ⟨_, List.getElem?_eq_getElem hk⟩
      obtain ⟨v', hv'⟩ := e3 k v xs hv
      have hxs := (hS.eq i l r hl hr).2.2 (v, xs) (List.mem_of_getElem? hv)
      refine (npick_some w B gw nv ls hD.net i l hl k v xs hv (Nat.le_trans hxs (by decide))).mono ?_
      rintro e w1 ⟨A, n, c, rfl, ho, b1⟩
      have hD1 := hD.later b1
      obtain ⟨A2, m2, c2, rfl⟩ := (hD1.ref.frames r (List.mem_of_getElem? hr) (v', xs) (List.mem_of_getElem? hv')).sl
      have hf := (hD1.ref.frames r (List.mem_of_getElem? hr) (.slice A2 m2 c2, xs) (List.mem_of_getElem? hv')).bs
      refine ⟨A, n, c, 0, rfl, b1, (rpick_some w1 B gr gb rs hD1.ref i r hr k _ xs hv').mono ?_⟩
      rintro e w2 ⟨rfl, rfl⟩
      exact ⟨A2, m2, c2, rfl, rfl, ls, rs, w.heap.size, xs, hS, hB, b1.size, fun w' hb => hD.below b1 hb, own_row ho, own_bs ho, hf, (own_bs ho).1 ▸ hxs⟩
theorem Below.of_buts {w w1 : World} {B : Nat} {S : List Nat} (h : Buts S w w1) (hS : ∀ k ∈ S, B ≤ k) (hB : B ≤ w.heap.size) : Below B w w1 := h.below hS hB
/-- Both sides have gone on by one. -/
theorem lose2_any {w : World} {B gw gr gb : Nat} {nv : Value} {ls : List Way} {rs : List RWay} (hB : B ≤ w.heap.size) (hD : Duo w B gw nv ls gr gb rs) (hS : Sm ls rs) {T9 g9 : Nat} {vs9 : List Value} (hr9 : Row w T9 g9 vs9) (hn9 : g9 ∉ nblocks gw nv ls) (hq9 : g9 ∉ rblocks gr gb rs) (y : Int) :
    Calls Try.prog 61 #[ptr gw, .int .i64 y] w fun e w1 => ∃ err, e = .returned (.int .i64 err) ∧ Below B w w1 ∧ Row w1 T9 g9 vs9 ∧
      Calls Try.prog 60 #[ptr gr, .int .i64 y] w1 fun e2 w2 => ∃ A2 m2 c2, e2 = .returned (.tuple #[.slice A2 m2 c2, .int .i64 err]) ∧ Below B w1 w2 ∧ Row w2 T9 g9 vs9 ∧ Fin w2 B gw nv gr gb none 0 none 0 := by
  rcases hS.way y with hy | ⟨i, rfl, l, r, hl, hr⟩
  · refine (lose_no w _ y (lane_out w B gw nv ls hD.net y hy)).mono ?_
    rintro e w1 ⟨rfl, rfl⟩
    refine ⟨1, rfl, Below.refl _ _, hr9, (rnext_no w _ y (is_out w B gr gb rs hD.ref y (hS.len ▸ hy))).mono ?_⟩
    rintro e w1 ⟨rfl, rfl⟩
    exact ⟨none, 0, 0, rfl, Below.refl _ _, hr9, fin_nil hB hD hS⟩
  · obtain ⟨e1, e2, e3⟩ := hS.at_ hl hr
    by_cases hg : l.gone = l.fs.length
    · refine (nlose_none w B gw nv ls hD.net i l hl hg).mono ?_
      rintro e w1 ⟨rfl, rfl⟩
      refine ⟨9, rfl, Below.refl _ _, hr9, (rnext_none w B gr gb rs hD.ref i r hr (by omega)).mono ?_⟩
      rintro e w2 ⟨rfl, b2⟩
      exact ⟨none, 0, 0, rfl, b2.mono hB, hr9.later b2, fin_nil (Nat.le_trans hB b2.size) (hD.later b2) hS⟩
    · have hk : l.gone < l.fs.length := by have := (hD.net.mem hl).gone; omega
      obtain ⟨⟨v, xs⟩, hv⟩ : ∃ p, l.fs[l.gone]? = some p := ⟨_, List.getElem?_eq_getElem hk⟩
      obtain ⟨v', hv'⟩ := e3 l.gone v xs hv
      have hxs := (hS.eq i l r hl hr).2.2 (v, xs) (List.mem_of_getElem? hv)
      refine (nlose_some w B gw nv ls hD.net i l hl v xs hv (Nat.le_trans hxs (by decide))).mono ?_
      rintro e w2 ⟨w1, rfl, hN, b1, b2⟩
      have bB1 : Below B w w1 := b1.below (blk_lo hD.net hl) hB
      have bB2 : Below B w w2 := bB1.trans (b2.mono (Nat.le_trans hB b1.size))
      have hB2 : B ≤ w2.heap.size := Nat.le_trans hB bB2.size
      have bw : Buts l.blocks w w2 := b1.trans (Buts.of b2 _)
      have hD2 : Duo w2 B gw nv (ls.set i { l with gone := l.gone + 1 }) gr gb rs := hD.turnN (l' := { l with gone := l.gone + 1 }) hl bw hN rfl rfl (.inl rfl)
      have hr1 := (hr9.buts b1 (fun hk => hn9 (way_in hl hk))).later b2
      refine ⟨0, rfl, bB2, hr1, (rnext_some w2 B gr gb rs hD2.ref hB2 i r hr v' xs (e2 ▸ hv')).mono ?_⟩
      rintro e w4 ⟨w3, rfl, hR, b3, b4⟩
      obtain ⟨A2, m2, c2, rfl⟩ := (hD2.ref.frames r (List.mem_of_getElem? hr) (v', xs) (List.mem_of_getElem? hv')).sl
      have hD3 := hD2.later b3
      have hgb : ∀ k ∈ [gb], B ≤ k := by intro k hk; simp at hk; subst hk; exact hD2.ref.lo.2
      have bB4 : Below B w2 w4 := (b3.mono hB2).trans (b4.below hgb (Nat.le_trans hB2 b3.size))
      have hD4 : Duo w4 B gw nv (ls.set i { l with gone := l.gone + 1 }) gr gb (rs.set i { r with gone := r.gone + 1 }) := hD3.turnR (r' := { r with gone := r.gone + 1 }) hr (b4.sub (fun k hk => by simp at hk; subst hk; exact List.mem_cons_self ..)) hR (.inl rfl)
      have hr4 := (hr1.later b3).buts b4 (by simp; intro e; exact hq9 (mem_rblocks.2 (.inr (.inl e))))
      exact ⟨A2, m2, c2, rfl, bB4, hr4, fin_nil (Nat.le_trans hB2 bB4.size) hD4 (hS.went hl hr)⟩
end Go.Proofs.Ytlihoijbfffjcaa

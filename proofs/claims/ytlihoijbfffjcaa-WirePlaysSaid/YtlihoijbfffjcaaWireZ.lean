/-
  The law WirePlays: an act on both sides: Next. Own work.
-/
import Derived.Test.YtlihoijbfffjcaaWireY
namespace Go.Proofs.Ytlihoijbfffjcaa
open Go.RowKit Go.Conc
set_option linter.unusedVariables false
set_option linter.unusedSimpArgs false
theorem next2_any {w : World} {B gw gr gb : Nat} {nv : Value} {ls : List Way} {rs : List RWay} (hB : B ≤ w.heap.size) (hD : Duo w B gw nv ls gr gb rs) (hS : Sm ls rs) {T9 g9 : Nat} {vs9 : List Value} (hr9 : Row w T9 g9 vs9) (hn9 : g9 ∉ nblocks gw nv ls) (hq9 : g9 ∉ rblocks gr gb rs) (y : Int) :
    Calls Try.prog 59 #[ptr gw, .int .i64 y] w fun e w1 => ∃ A n c err, e = .returned (.tuple #[.slice A n c, .int .i64 err]) ∧ Below B w w1 ∧ Row w1 T9 g9 vs9 ∧
      Calls Try.prog 60 #[ptr gr, .int .i64 y] w1 fun e2 w2 => ∃ A2 m2 c2, e2 = .returned (.tuple #[.slice A2 m2 c2, .int .i64 err]) ∧ Below B w1 w2 ∧ Row w2 T9 g9 vs9 ∧ Fin w2 B gw nv gr gb A n A2 m2 := by
  rcases hS.way y with hy | ⟨i, rfl, l, r, hl, hr⟩
  · refine (next_no w _ y (lane_out w B gw nv ls hD.net y hy)).mono ?_
    rintro e w1 ⟨rfl, rfl⟩
    refine ⟨none, 0, 0, 1, rfl, Below.refl _ _, hr9, (rnext_no w _ y (is_out w B gr gb rs hD.ref y (hS.len ▸ hy))).mono ?_⟩
    rintro e w1 ⟨rfl, rfl⟩
    exact ⟨none, 0, 0, rfl, Below.refl _ _, hr9, fin_nil hB hD hS⟩
  · obtain ⟨e1, e2, e3⟩ := hS.at_ hl hr
    by_cases hg : l.gone = l.fs.length
    · refine (nnext_none w B gw nv ls hD.net i l hl hg).mono ?_
      rintro e w1 ⟨rfl, rfl⟩
      refine ⟨none, 0, 0, 9, rfl, Below.refl _ _, hr9, (rnext_none w B gr gb rs hD.ref i r hr (by omega)).mono ?_⟩
      rintro e w2 ⟨rfl, b2⟩
      exact ⟨none, 0, 0, rfl, b2.mono hB, hr9.later b2, fin_nil (Nat.le_trans hB b2.size) (hD.later b2) hS⟩
    · have hk : l.gone < l.fs.length := by have := (hD.net.mem hl).gone; omega
      obtain ⟨⟨v, xs⟩, hv⟩ : ∃ p, l.fs[l.gone]? = some p := ⟨_, List.getElem?_eq_getElem hk⟩
      obtain ⟨v', hv'⟩ := e3 l.gone v xs hv
      have hxs := (hS.eq i l r hl hr).2.2 (v, xs) (List.mem_of_getElem? hv)
      refine (nnext_some w B gw nv ls hD.net i l hl v xs hv (Nat.le_trans hxs (by decide))).mono ?_
      rintro e w2 ⟨A, n, c, w1, rfl, ho, hN, b1, b2⟩
      have bB1 : Below B w w1 := b1.below (blk_lo hD.net hl) hB
      have hB1 : B ≤ w1.heap.size := Nat.le_trans hB bB1.size
      have bB2 : Below B w w2 := bB1.trans (b2.mono hB1)
      have hB2 : B ≤ w2.heap.size := Nat.le_trans hB bB2.size
      have hD1 : Duo w1 B gw nv (ls.set i { l with gone := l.gone + 1 }) gr gb rs := hD.turnN (l' := { l with gone := l.gone + 1 }) hl b1 hN rfl rfl (.inl rfl)
      have hD2 := hD1.later b2
      have hr1 := (hr9.buts b1 (fun hk => hn9 (way_in hl hk))).later b2
      refine ⟨A, n, c, 0, rfl, bB2, hr1, (rnext_some w2 B gr gb rs hD2.ref hB2 i r hr v' xs (e2 ▸ hv')).mono ?_⟩
      rintro e w4 ⟨w3, rfl, hR, b3, b4⟩
      have hrm := List.mem_of_getElem? hr
      obtain ⟨A2, m2, c2, rfl⟩ := (hD2.ref.frames r hrm (v', xs) (List.mem_of_getElem? hv')).sl
      have hgbT : gb < w1.heap.size := hD1.ref.rows.lt
      have hgb : ∀ k ∈ [gb], B ≤ k := by intro k hk; simp at hk; subst hk; exact hD2.ref.lo.2
      have bB4 : Below B w2 w4 := (b3.mono hB2).trans (b4.below hgb (Nat.le_trans hB2 b3.size))
      have hT4 : w1.heap.size ≤ w4.heap.size := Nat.le_trans b2.size (Nat.le_trans b3.size b4.size)
      have ho4 := own_buts (own_buts ho (Buts.of b3 []) (fun k hk => by simp)) b4 (fun k hk hk2 => by simp at hk2; subst hk2; have := (own_lo ho k hk).1; omega)
      have hf4 := (((hD2.ref.frames r hrm (.slice A2 m2 c2, xs) (List.mem_of_getElem? hv')).later b3).buts b4 (fun k hk => by simp at hk; subst hk; exact (hD2.ref.later b3).rows.notBy (by decide))).bs
      have hr4 := (hr1.later b3).buts b4 (by simp; intro e; exact hq9 (mem_rblocks.2 (.inr (.inl e))))
      refine ⟨A2, m2, c2, rfl, bB4, hr4, _, rs.set i { r with gone := r.gone + 1 }, w1.heap.size, xs, hS.went hl hr, hB1, hT4, fun w' hb => ?_, own_row ho4, own_bs ho4, hf4, (own_bs ho4).1 ▸ hxs⟩
      have bw : Buts [gb] w1 w' := ⟨hb.os.trans (b4.os.trans (b3.os.trans b2.os)), hb.tape.trans (b4.tape.trans (b3.tape.trans b2.tape)), hb.output.trans (b4.output.trans (b3.output.trans b2.output)), Nat.le_trans hT4 hb.size, fun k hk hn => (hb.block k hk).trans ((b4.block k (Nat.lt_of_lt_of_le hk (Nat.le_trans b2.size b3.size)) hn).trans ((b3.block k (Nat.lt_of_lt_of_le hk b2.size)).trans (b2.block k hk)))⟩
      · have hNB : ∀ k ∈ [gb], NotBy w1 k := by intro k hk; simp at hk; subst hk; exact hD1.ref.rows.notBy (by decide)
        have hrow : Row w' 161 gb (rcells (rs.set i { r with gone := r.gone + 1 })) := (hb.block gb hgbT).trans hR.rows
        have bS : Buts (gb :: r.L.ownBlock.toList) w1 w' := bw.sub (fun k hk => by simp at hk; subst hk; exact List.mem_cons_self ..)
        have hown := own_buts (hD1.ref.own r hrm) bw (fun k hk hk2 => by simp at hk2; subst hk2; exact own_ne_row (hD1.ref.own r hrm) hD1.ref.rows (by decide) hk)
        have hfew := hD1.ref.few r hrm
        have hRN := hD1.ref.turn (r' := { r with gone := r.gone + 1 }) hr bS hrow hown (fun p hp => (hD1.ref.frames r hrm p hp).buts bw hNB) (by simp; omega) hfew (.inl rfl)
        exact hD1.turnR (r' := { r with gone := r.gone + 1 }) hr bS hRN (.inl rfl)
end Go.Proofs.Ytlihoijbfffjcaa

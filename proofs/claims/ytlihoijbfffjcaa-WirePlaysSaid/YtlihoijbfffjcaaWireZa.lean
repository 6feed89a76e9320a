/-
  The law WirePlays: an act on both sides: Send, in either order. Own work.
-/
import Derived.Test.YtlihoijbfffjcaaWireZ
namespace Go.Proofs.Ytlihoijbfffjcaa
open Go.RowKit Go.Conc
set_option linter.unusedVariables false
set_option linter.unusedSimpArgs false
theorem send2_any {w : World} {B gw gr gb : Nat} {nv : Value} {ls : List Way} {rs : List RWay} (hB : B ≤ w.heap.size) (hD : Duo w B gw nv ls gr gb rs) (hS : Sm ls rs) {T9 g9 : Nat} {vs9 : List Value} (hn9 : g9 ∉ nblocks gw nv ls) (hq9 : g9 ∉ rblocks gr gb rs) (y : Int) (A : Option Addr) (n c : Nat) (xs : List Int) (hx : Bs w B A n xs) (hn : n ≤ 300) :
    ∃ (err : Int) (LS : List Way → Prop) (RS : List RWay → Prop), (∀ ls' rs', LS ls' → RS rs' → Sm ls' rs') ∧
      (∀ w1 rs', Below B w w1 → Duo w1 B gw nv ls gr gb rs' → Row w1 T9 g9 vs9 → Calls Try.prog 64 #[ptr gw, .int .i64 y, .slice A n c] w1 fun e w' => e = .returned (.int .i64 err) ∧ Below B w1 w' ∧ Row w' T9 g9 vs9 ∧ ∃ ls', LS ls' ∧ Duo w' B gw nv ls' gr gb rs') ∧
      (∀ w1 ls', Below B w w1 → Duo w1 B gw nv ls' gr gb rs → Row w1 T9 g9 vs9 → Calls Try.prog 65 #[ptr gr, .int .i64 y, .slice A n c] w1 fun e w' => e = .returned (.int .i64 err) ∧ Below B w1 w' ∧ Row w' T9 g9 vs9 ∧ ∃ rs', RS rs' ∧ Duo w' B gw nv ls' gr gb rs') := by
  rcases hS.way y with hy | ⟨i, rfl, l, r, hl, hr⟩
  · refine ⟨1, fun q => q = ls, fun q => q = rs, fun _ _ h1 h2 => by rw [h1, h2]; exact hS, fun w1 rs' b h hr9 => ?_, fun w1 ls' b h hr9 => ?_⟩
    · refine (send_no w1 _ y A n c (lane_out w1 B gw nv ls h.net y hy)).mono ?_
      rintro e w2 ⟨rfl, rfl⟩
      exact ⟨rfl, Below.refl _ _, hr9, ls, rfl, h⟩
    · refine (rsend_no w1 _ y A n c (is_out w1 B gr gb rs h.ref y (hS.len ▸ hy))).mono ?_
      rintro e w2 ⟨rfl, rfl⟩
      exact ⟨rfl, Below.refl _ _, hr9, rs, rfl, h⟩
  · obtain ⟨e1, e2, e3⟩ := hS.at_ hl hr
    have hm := (hD.ref.few r (List.mem_of_getElem? hr))
    by_cases hf : l.fs.length = 200
    · refine ⟨10, fun q => q = ls, fun q => q = rs, fun _ _ h1 h2 => by rw [h1, h2]; exact hS, fun w1 rs' b h hr9 => ?_, fun w1 ls' b h hr9 => ?_⟩
      · refine (nsend_full w1 B gw nv ls h.net i l hl hf A n c xs ((hx.below b).up (Nat.le_trans hB b.size)) (by omega)).mono ?_
        rintro e w2 ⟨rfl, b2⟩
        exact ⟨rfl, b2.mono (Nat.le_trans hB b.size), hr9.later b2, ls, rfl, h.later b2⟩
      · refine (rsend_full w1 B gr gb rs h.ref i r hr (by omega) A n c (by omega)).mono ?_
        rintro e w2 ⟨rfl, rfl⟩
        exact ⟨rfl, Below.refl _ _, hr9, rs, rfl, h⟩
    · refine ⟨0, fun q => ∃ v bv, q = ls.set i (l.sent v xs bv), fun q => ∃ v Lv, q = rs.set i ⟨Lv, r.fs ++ [(v, xs)], r.gone⟩, fun _ _ h1 h2 => ?_, fun w1 rs' b h hr9 => ?_, fun w1 ls' b h hr9 => ?_⟩
      · obtain ⟨v, bv, rfl⟩ := h1
        obtain ⟨v2, Lv, rfl⟩ := h2
        exact hS.sent hl hr (by have := hx.1; omega)
      · have hB1 := Nat.le_trans hB b.size
        refine (nsend_where w1 B gw hB1 nv ls h.net i l hl (by omega) A n c xs ((hx.below b).up hB1) (by omega)).mono ?_
        rintro e w2 ⟨rfl, v, bv, hN, b2, hbv⟩
        exact ⟨rfl, b2.below (blk_lo h.net hl) hB1, hr9.buts b2 (fun hk => hn9 (way_in hl hk)), _, ⟨v, bv, rfl⟩, h.turnN hl b2 hN rfl rfl hbv⟩
      · have hB1 := Nat.le_trans hB b.size
        refine (rsend_room w1 B gr gb rs h.ref hB1 i r hr (by omega) A n c xs ((hx.below b).up hB1) (by omega)).mono ?_
        rintro e w2 ⟨rfl, v, Lv, hN, b2, hbv⟩
        exact ⟨rfl, b2.below (fun k hk => (h.ref.lt k (rway_in hr hk)).1) hB1, hr9.buts b2 (fun hk => hq9 (rway_in hr hk)), _, ⟨v, Lv, rfl⟩, h.turnR (r' := ⟨Lv, r.fs ++ [(v, xs)], r.gone⟩) hr b2 hN hbv⟩
/-- What the two sends keep: by which of the two has been carried out. -/
def DJ (w0 : World) (B gw : Nat) (nv : Value) (ls : List Way) (gr gb : Nat) (rs : List RWay) (T9 g9 : Nat) (vs9 : List Value) (LS : List Way → Prop) (RS : List RWay → Prop) (bs : List Bool) (vs : List Value) (w : World) : Prop :=
  Below B w0 w ∧ Row w T9 g9 vs9 ∧ ∃ ls' rs', Duo w B gw nv ls' gr gb rs' ∧ (bs.getD 0 false = false → ls' = ls) ∧ (bs.getD 0 false = true → LS ls') ∧ (bs.getD 1 false = false → rs' = rs) ∧ (bs.getD 1 false = true → RS rs')
end Go.Proofs.Ytlihoijbfffjcaa

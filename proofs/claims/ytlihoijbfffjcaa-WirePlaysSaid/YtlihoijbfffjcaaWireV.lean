/-
  The law WirePlays: where both nets begin; acts later on; the calls where there is no way. Own work.
-/
import Derived.Test.YtlihoijbfffjcaaWireU
namespace Go.Proofs.Ytlihoijbfffjcaa
open Go.RowKit Go.Conc
set_option linter.unusedVariables false
set_option linter.unusedSimpArgs false
theorem RNetAt.mono {w : World} {B B' gr gb : Nat} {rs : List RWay} (h : RNetAt w B' gr gb rs) (hB : B ≤ B') : RNetAt w B gr gb rs :=
  ⟨h.row, h.rows, ⟨Nat.le_trans hB h.lo.1, Nat.le_trans hB h.lo.2⟩, fun r hr => ⟨(h.own r hr).1, (h.own r hr).2.imp id fun ⟨g, cap, cur, e, h1, h2⟩ => ⟨g, cap, cur, e, Nat.le_trans hB h1, h2⟩⟩, h.frames, h.gone, h.few, h.apart⟩
theorem duo_start {w w1 w2 : World} {B m gw gr gb : Nat} {nv : Value} {ls : List Way} (hB : B ≤ w1.heap.size) (hN : NetAt w1 B gw nv ls) (hlen : ls.length = m) (hbare : ∀ l ∈ ls, l.bare) (hR : RNetAt w2 w1.heap.size gr gb (List.replicate m RWay.d)) (hb : Below w1.heap.size w1 w2) : Duo w2 B gw nv ls gr gb (List.replicate m RWay.d) ∧ Sm ls (List.replicate m RWay.d) := by
  refine ⟨⟨hN.later hb, hR.mono hB, fun k hk hk2 => ?_⟩, ⟨by simp [hlen], fun i l r hl hr => ?_⟩⟩
  · have h1 := (hN.nlt k hk).2
    have h2 := (hR.lt k hk2).1
    omega
  · obtain ⟨e1, e2⟩ := hbare l (List.mem_of_getElem? hl)
    rw [List.eq_of_mem_replicate (List.mem_of_getElem? hr), e1, e2]
    exact ⟨rfl, rfl, fun p hp => by cases hp⟩
theorem WActs.at_ {w w' : World} {B : Nat} {A : Option Addr} {n i : Nat} {f : Nat → WAct} (h : WActs w B A n f) (hb : Below B w w') (hBw : B ≤ w'.heap.size) (hi : i < n) : ∃ b o, A = some ⟨b, o, none⟩ ∧ b < B ∧ (w'.cell? ⟨b, o + i * 4, none⟩ = some (.int .u8 (f i).k) ∧ w'.cell? ⟨b, o + i * 4 + 1, none⟩ = some (.int .i64 (f i).way) ∧ w'.cell? ⟨b, o + i * 4 + 2, none⟩ = some (.slice (f i).A (f i).n (f i).c) ∧ w'.cell? ⟨b, o + i * 4 + 3, none⟩ = some (.int .i64 (f i).q)) ∧ Bs w' B (f i).A (f i).n (f i).xs := by
  obtain ⟨b, o, hA, hbB, hc⟩ := h (by omega)
  obtain ⟨⟨c0, c1, c2, c3⟩, hx⟩ := hc i hi
  exact ⟨b, o, hA, hbB, ⟨(hb.cell (p := ⟨b, o + i * 4, none⟩) hbB).trans c0, (hb.cell (p := ⟨b, o + i * 4 + 1, none⟩) hbB).trans c1, (hb.cell (p := ⟨b, o + i * 4 + 2, none⟩) hbB).trans c2, (hb.cell (p := ⟨b, o + i * 4 + 3, none⟩) hbB).trans c3⟩, hx.below hb⟩
theorem WActs.later {w w' : World} {A : Option Addr} {n : Nat} {f : Nat → WAct} (h : WActs w w.heap.size A n f) (hb : Below w.heap.size w w') : WActs w' w'.heap.size A n f := by
  intro h0
  obtain ⟨b, o, hA, hbB, hc⟩ := h h0
  refine ⟨b, o, hA, Nat.lt_of_lt_of_le hbB hb.size, fun j hj => ?_⟩
  obtain ⟨⟨c0, c1, c2, c3⟩, hx⟩ := hc j hj
  exact ⟨⟨(hb.cell (p := ⟨b, o + j * 4, none⟩) hbB).trans c0, (hb.cell (p := ⟨b, o + j * 4 + 1, none⟩) hbB).trans c1, (hb.cell (p := ⟨b, o + j * 4 + 2, none⟩) hbB).trans c2, (hb.cell (p := ⟨b, o + j * 4 + 3, none⟩) hbB).trans c3⟩, hx.later hb⟩
/-- Either there is such a way on both sides, or on none. -/
theorem Sm.way {ls : List Way} {rs : List RWay} (h : Sm ls rs) (y : Int) : (y < 0 ∨ (ls.length : Int) ≤ y) ∨ ∃ i : Nat, y = (i : Int) ∧ ∃ l r, ls[i]? = some l ∧ rs[i]? = some r := by
  by_cases h0 : y < 0
  · exact .inl (.inl h0)
  · by_cases h1 : (ls.length : Int) ≤ y
    · exact .inl (.inr h1)
    · have hlt : y.toNat < ls.length := by omega
      exact .inr ⟨y.toNat, by omega, _, _, List.getElem?_eq_getElem hlt, List.getElem?_eq_getElem (h.len ▸ hlt)⟩
theorem is_out (w : World) (B gr gb : Nat) (rs : List RWay) (h : RNetAt w B gr gb rs) (y : Int) (hy : y < 0 ∨ (rs.length : Int) ≤ y) : Calls Try.prog 107 #[ptr gr, .int .i64 y] w fun e w' => e = .returned (.bool false) ∧ w = w' := by
  rcases hy with hy | hy
  · exact is_low w _ y hy
  · exact is_high w B gr gb rs h y hy
end Go.Proofs.Ytlihoijbfffjcaa

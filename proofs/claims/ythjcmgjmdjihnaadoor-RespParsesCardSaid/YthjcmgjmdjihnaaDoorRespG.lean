/-
  The commands of bytes, as the program reads them. Contracts. Own work.
-/
import Derived.Test.YthjcmgjmdjihnaaDoorRespF
namespace Go.Proofs.YthjcmgjmdjihnaaDoor
open Go.RowKit Go.Shelf
set_option linter.unusedVariables false
set_option linter.unusedSimpArgs false
/-- Below Bd nothing has turned but block g. -/
structure Keep (Bd g : Nat) (w w' : World) : Prop where
  os : w'.os = w.os
  tape : w'.tape = w.tape
  output : w'.output = w.output
  size : w.heap.size ≤ w'.heap.size
  block : ∀ k, k < Bd → k ≠ g → w'.heap[k]? = w.heap[k]?
theorem Keep.refl (Bd g : Nat) (w : World) : Keep Bd g w w := ⟨rfl, rfl, rfl, Nat.le_refl _, fun _ _ _ => rfl⟩
theorem Keep.trans {Bd g : Nat} {a b c : World} (h : Keep Bd g a b) (k : Keep Bd g b c) : Keep Bd g a c :=
  ⟨k.os.trans h.os, k.tape.trans h.tape, k.output.trans h.output, Nat.le_trans h.size k.size, fun i hi hn => (k.block i hi hn).trans (h.block i hi hn)⟩
theorem Keep.of {Bd g : Nat} {a b : World} (h : Below a.heap.size a b) (hB : Bd ≤ a.heap.size) : Keep Bd g a b := ⟨h.os, h.tape, h.output, h.size, fun k hk _ => h.block k (Nat.lt_of_lt_of_le hk hB)⟩
theorem Keep.only {Bd g : Nat} {a b : World} (o : Only g a b) : Keep Bd g a b := ⟨o.os, o.tape, o.output, Nat.le_of_eq o.size.symm, fun k _ hn => o.block k hn⟩
theorem Keep.grown {Bd g : Nat} {a b : World} {blk : Option Nat} (gr : a.grownBy b blk) (hb : ∀ k, blk = some k → Bd ≤ k) (hB : Bd ≤ a.heap.size) : Keep Bd g a b :=
  ⟨gr.os, gr.tape, gr.output, gr.size, fun k hk _ => gr.block k (Nat.lt_of_lt_of_le hk hB) (fun e => by have := hb k e.symm; omega)⟩
theorem Row.keep {w w' : World} {t g Bd g' : Nat} {vs : List Value} (h : Row w t g vs) (hk : Keep Bd g' w w') (hg : g < Bd) (hn : g ≠ g') : Row w' t g vs := (hk.block g hg hn).trans h
theorem ButZ.keep {S : List Nat} {wb w w' : World} {g : Nat} (h : ButZ S wb w) (k : Keep wb.heap.size g w w') (hg : g ∈ S) : ButZ S wb w' :=
  ⟨k.os.trans h.os, k.tape.trans h.tape, k.output.trans h.output, Nat.le_trans h.size k.size, fun i hi hn => (k.block i hi (fun e => hn (e ▸ hg))).trans (h.block i hi hn)⟩
theorem DecAt.keep {w w' : World} {g B Bd g' : Nat} {s : Wd} (h : DecAt w g B s) (hk : Keep Bd g' w w') (hg : g < Bd) (hn : g ≠ g') (hB' : B ≤ g') : DecAt w' g B s := by
  obtain ⟨A, c, r, h1, h2, h3⟩ := h
  exact ⟨A, c, r.keep hk hg hn, h1.keep fun p hp => World.cell?_of_block (hk.block _ (by omega) (by omega)), h2, h3⟩
/-- Lists of words in a row of one's own. -/
def OwC (w : World) (T : Nat) (v : Value) (L : List (List Wd)) : Prop := ∃ vs : List Value, w.ownsRow T 40 1 v L.length vs ∧ ∀ (i : Nat) (u : Value) (l : List Wd), vs[i]? = some u → L[i]? = some l → OwnW w T u l
theorem OwC.nil (w : World) (T : Nat) : OwC w T (.slice none 0 0) [] := ⟨[], World.ownsRow_nil _ _ _ _, fun i u a h => by simp at h⟩
theorem OwC.at {w w' : World} {T : Nat} {v : Value} {L : List (List Wd)} (h : OwC w T v L) (hb : ∀ k, T ≤ k → k < w.heap.size → w'.heap[k]? = w.heap[k]?) : OwC w' T v L := by
  obtain ⟨vs, h1, h2⟩ := h
  exact ⟨vs, own_at h1 fun k hk => hb k (h1.lt k hk).1 (h1.lt k hk).2, fun i u l hu hl => have q := h2 i u l hu hl; own_at q fun k hk => hb k (q.lt k hk).1 (q.lt k hk).2⟩
theorem OwC.later {w w' : World} {T : Nat} {v : Value} {L : List (List Wd)} (h : OwC w T v L) (hb : Below w.heap.size w w') : OwC w' T v L := h.at fun k _ hk => hb.block k hk
theorem OwC.butz {w w' : World} {T : Nat} {v : Value} {L : List (List Wd)} {S : List Nat} (h : OwC w T v L) (hb : ButZ S w w') (hS : ∀ k ∈ S, k < T) : OwC w' T v L := h.at fun k hT hk => hb.block k hk (fun hm => by have := hS k hm; omega)
theorem OwC.push {w' : World} {T : Nat} {v' u : Value} {L : List (List Wd)} {l : List Wd} {vs : List Value} (h : ∀ (i : Nat) (u : Value) (l : List Wd), vs[i]? = some u → L[i]? = some l → OwnW w' T u l) (hl : vs.length = L.length) (h2 : w'.ownsRow T 40 1 v' (L.length + 1) (vs ++ [u])) (hu : OwnW w' T u l) : OwC w' T v' (L ++ [l]) := by
  refine ⟨vs ++ [u], by rw [List.length_append]; exact h2, fun i u' a' hu' ha' => ?_⟩
  rcases Nat.lt_or_ge i L.length with hi | hi
  · rw [List.getElem?_append_left (by omega)] at hu' ha'
    exact h i u' a' hu' ha'
  · rw [List.getElem?_append_right (by omega)] at hu' ha'
    obtain hi0 : i - L.length = 0 := by
      have := (List.getElem?_eq_some_iff.1 ha').1
      simp at this; omega
    rw [hl, hi0] at hu'
    rw [hi0] at ha'
    simp at hu' ha'
    subst hu'
    subst ha'
    exact hu
theorem liInfo : ∃ i, Tryd.prog.info? 40 = some i ∧ i.zero = some (.slice none 0 0) ∧ i.size = 1 ∧ i.bytes = 24 := by
  have h : (Tryd.prog.info? 40).map (fun i => (i.zero, i.size, i.bytes)) = some (some (.slice none 0 0), 1, 24) := by kernel_rfl
  cases hq : Tryd.prog.info? 40 with
  | none => rw [hq] at h; cases h
  | some i =>
    rw [hq] at h
    simp only [Option.map_some, Option.some.injEq, Prod.mk.injEq] at h
    exact ⟨i, rfl, h.1, h.2.1, h.2.2⟩
/-! ### A region that calls, builds a list of what the call told, appends it to a row of one's own, and stores the row -/
def JE (Bd : Nat) (wr : World) (D1 : Value → World → Prop) (N : World → Prop) (e n : Nat) (v : Value) (xs : List Value) (T3 g3 : Nat) (bs : List Bool) (vs : List Value) (w : World) : Prop :=
  Keep Bd g3 wr w ∧ (bs.getD 0 false = false → Below wr.heap.size wr w) ∧ (bs.getD 0 false = true → bs.getD 2 false = false → D1 (vs.getD 0 undef) w) ∧
  (bs.getD 1 false = true → bs.getD 2 false = false → ∃ g2 u, vs.getD 1 undef = .slice (some ⟨g2, 0, none⟩) 1 1 ∧ Row w e g2 [u] ∧ D1 u w) ∧
  (bs.getD 2 false = false → w.ownsRow Bd e 1 v n xs) ∧
  (bs.getD 2 false = true → ∃ u, w.ownsRow Bd e 1 (vs.getD 2 undef) (n + 1) (xs ++ [u]) ∧ D1 u w) ∧
  (bs.getD 3 false = false → Row w T3 g3 [v]) ∧ (bs.getD 3 false = true → Row w T3 g3 [vs.getD 2 undef]) ∧ N w
section
variable {Bd : Nat} {wr w w' : World} {D1 : Value → World → Prop} {N : World → Prop} {e n : Nat} {v : Value} {xs : List Value} {T3 g3 : Nat} {bs bs' : List Bool} {vs vs' : List Value}
theorem JE.start (own : wr.ownsRow Bd e 1 v n xs) (r : Row wr T3 g3 [v]) (hN : N wr.drew) : JE Bd wr D1 N e n v xs T3 g3 [false, false, false, false] vs wr.drew :=
  ⟨⟨rfl, rfl, rfl, Nat.le_refl _, fun _ _ _ => rfl⟩, fun _ => (Below.refl _ _).drew, fun h => absurd h (by decide), fun h => absurd h (by decide), fun _ => own, fun h => absurd h (by decide), fun _ => r, fun h => absurd h (by decide), hN⟩
theorem JE.called (h : JE Bd wr D1 N e n v xs T3 g3 bs vs w) (hB : Bd ≤ wr.heap.size) (hb : Below w.heap.size w w') (hD : D1 (vs'.getD 0 undef) w') (hN : N w → N w') (b0 : bs.getD 0 false = false) (b2 : bs.getD 2 false = false) (b3 : bs.getD 3 false = false) (c0 : bs'.getD 0 false = true) (c1 : bs'.getD 1 false = false) (c2 : bs'.getD 2 false = false) (c3 : bs'.getD 3 false = false) :
    JE Bd wr D1 N e n v xs T3 g3 bs' vs' w' := by
  obtain ⟨hU, hW, _, _, h4, _, h6, _, hn⟩ := h
  exact ⟨hU.trans (.of hb (Nat.le_trans hB hU.size)), fun h => absurd (c0.symm.trans h) (by decide), fun _ _ => hD, fun h => absurd (c1.symm.trans h) (by decide), fun _ => own_later (h4 b2) hb, fun h => absurd (c2.symm.trans h) (by decide), fun _ => (h6 b3).later hb, fun h => absurd (c3.symm.trans h) (by decide), hN hn⟩
theorem JE.built (h : JE Bd wr D1 N e n v xs T3 g3 bs vs w) (hB : Bd ≤ wr.heap.size) (hb : Below w.heap.size w w') {g2 : Nat} {u : Value} (hv : vs'.getD 1 undef = .slice (some ⟨g2, 0, none⟩) 1 1) (hr : Row w' e g2 [u]) (hu : u = vs.getD 0 undef) (hD : ∀ u, D1 u w → D1 u w') (hN : N w → N w') (b0 : bs.getD 0 false = true) (b2 : bs.getD 2 false = false) (b3 : bs.getD 3 false = false) (v0 : vs'.getD 0 undef = vs.getD 0 undef) (c0 : bs'.getD 0 false = true) (c2 : bs'.getD 2 false = false) (c3 : bs'.getD 3 false = false) :
    JE Bd wr D1 N e n v xs T3 g3 bs' vs' w' := by
  obtain ⟨hU, hW, h1, _, h4, _, h6, _, hn⟩ := h
  have hd := hD _ (h1 b0 b2)
  exact ⟨hU.trans (.of hb (Nat.le_trans hB hU.size)), fun h => absurd (c0.symm.trans h) (by decide), fun _ _ => by rw [v0]; exact hd, fun _ _ => ⟨g2, u, hv, hr, hu ▸ hd⟩, fun _ => own_later (h4 b2) hb, fun h => absurd (c2.symm.trans h) (by decide), fun _ => (h6 b3).later hb, fun h => absurd (c3.symm.trans h) (by decide), hN hn⟩
theorem JE.appended (h : JE Bd wr D1 N e n v xs T3 g3 bs vs w) (hB : Bd ≤ wr.heap.size) (gr : w.grownBy w' v.ownBlock) {u : Value} (own : w'.ownsRow Bd e 1 (vs'.getD 2 undef) (n + 1) (xs ++ [u])) (hd : D1 u w) (hT : T3 ≠ e) (hD : ∀ u, D1 u w → w.ownsRow Bd e 1 v n xs → D1 u w') (hN : N w → w.ownsRow Bd e 1 v n xs → N w')
    (b0 : bs.getD 0 false = true) (b2 : bs.getD 2 false = false) (b3 : bs.getD 3 false = false) (c0 : bs'.getD 0 false = true) (c2 : bs'.getD 2 false = true) (c3 : bs'.getD 3 false = false) :
    JE Bd wr D1 N e n v xs T3 g3 bs' vs' w' := by
  obtain ⟨hU, hW, h1, _, h4, _, h6, _, hn⟩ := h
  have o := h4 b2
  exact ⟨hU.trans (.grown gr (fun k hk => (o.lt k hk).1) (Nat.le_trans hB hU.size)), fun h => absurd (c0.symm.trans h) (by decide), fun _ h => absurd (c2.symm.trans h) (by decide), fun _ h => absurd (c2.symm.trans h) (by decide), fun h => absurd (c2.symm.trans h) (by decide), fun _ => ⟨u, own, hD u hd o⟩, fun _ => (h6 b3).grownS o hT gr, fun h => absurd (c3.symm.trans h) (by decide), hN hn o⟩
theorem JE.stored (h : JE Bd wr D1 N e n v xs T3 g3 bs vs w) (o3 : Only g3 w w') (hr : Row w' T3 g3 [vs.getD 2 undef]) (hg3 : g3 < Bd) (hD : ∀ u, D1 u w → D1 u w') (hN : N w → N w')
    (b2 : bs.getD 2 false = true) (v2 : vs'.getD 2 undef = vs.getD 2 undef) (c0 : bs'.getD 0 false = true) (c2 : bs'.getD 2 false = true) (c3 : bs'.getD 3 false = true) :
    JE Bd wr D1 N e n v xs T3 g3 bs' vs' w' := by
  obtain ⟨hU, _, _, _, _, h5, _, _, hn⟩ := h
  obtain ⟨u, hu, hd⟩ := h5 b2
  refine ⟨hU.trans (.only o3), fun h => absurd (c0.symm.trans h) (by decide), fun _ h => absurd (c2.symm.trans h) (by decide), fun _ h => absurd (c2.symm.trans h) (by decide), fun h => absurd (c2.symm.trans h) (by decide), fun _ => ⟨u, by rw [v2]; exact own_at hu fun k hk => o3.block k (fun e => by have := (hu.lt k hk).1; omega), hD u hd⟩, fun h => absurd (c3.symm.trans h) (by decide), fun _ => by rw [v2]; exact hr, hN hn⟩
end
end Go.Proofs.YthjcmgjmdjihnaaDoor

/-
  Ways of a net: what is on one; contracts. Own work.
-/
import Derived.Test.YtlihoijbfffjcaaRows
import Derived.Test.YtlihoijbfffjcaaChecked
import Derived.Test.YtlihoijbfffjcaaSel
import Derived.Test.YtlihoijbfffjcaaCmp
import Derived.Test.YtlihoijbfffjcaaOpen
import Derived.Maps.AppendAt
namespace Go.Proofs.Ytlihoijbfffjcaa
open Go.RowKit Go.Conc
set_option linter.unusedVariables false
set_option linter.unusedSimpArgs false
abbrev ptr (g : Nat) : Value := .pointer (some ⟨g, 0, none⟩)
/-- From w to w' nothing that was there has turned but the blocks S. -/
structure Buts (S : List Nat) (w w' : World) : Prop where
  os : w'.os = w.os
  tape : w'.tape = w.tape
  output : w'.output = w.output
  size : w.heap.size ≤ w'.heap.size
  block : ∀ k, k < w.heap.size → k ∉ S → w'.heap[k]? = w.heap[k]?
section
variable {S S' : List Nat} {g B t : Nat} {w w' a b c : World} {vs : List Value}
theorem Buts.refl (S : List Nat) (w : World) : Buts S w w := ⟨rfl, rfl, rfl, Nat.le_refl _, fun _ _ _ => rfl⟩
theorem Buts.trans (h : Buts S a b) (k : Buts S b c) : Buts S a c :=
  ⟨k.os.trans h.os, k.tape.trans h.tape, k.output.trans h.output, Nat.le_trans h.size k.size, fun i hi hg => (k.block i (Nat.lt_of_lt_of_le hi h.size) hg).trans (h.block i hi hg)⟩
theorem Buts.of (h : Below w.heap.size w w') (S : List Nat) : Buts S w w' := ⟨h.os, h.tape, h.output, h.size, fun k hk _ => h.block k hk⟩
theorem Buts.only (h : Only g w w') (hg : g ∈ S) : Buts S w w' := ⟨h.os, h.tape, h.output, Nat.le_of_eq h.size.symm, fun k _ hk => h.block k (fun e => hk (e ▸ hg))⟩
theorem Buts.sub (h : Buts S w w') (hs : ∀ k ∈ S, k ∈ S') : Buts S' w w' := ⟨h.os, h.tape, h.output, h.size, fun k hk hn => h.block k hk (fun e => hn (hs k e))⟩
theorem Buts.below (h : Buts S w w') (hS : ∀ k ∈ S, B ≤ k) (hw : B ≤ w.heap.size) : Below B w w' := ⟨h.os, h.tape, h.output, h.size, fun k hk => h.block k (by omega) (fun e => by have := hS k e; omega)⟩
theorem Buts.grown (h : w.grownBy w' (some g)) (hg : g ∈ S) : Buts S w w' := ⟨h.os, h.tape, h.output, h.size, fun k hk hn => h.block k hk (fun e => hn (by injection e with e; exact e ▸ hg))⟩
theorem Buts.grown0 (h : w.grownBy w' none) : Buts S w w' := ⟨h.os, h.tape, h.output, h.size, fun k hk hn => h.block k hk (by simp)⟩
theorem Buts.chan {cap s r : Nat} {buf : Array Value} {cl tm : Bool} (hg : g ∈ S) : Buts S w (w.setChan g cap buf cl s r tm) :=
  ⟨rfl, rfl, rfl, by simp [World.setChan], fun k hk hn => by simp only [World.setChan]; rw [Array.getElem?_setIfInBounds_ne (fun e : g = k => hn (e ▸ hg))]⟩
theorem Row.buts (h : Row w t g vs) (hb : Buts S w w') (hne : g ∉ S) : Row w' t g vs := (hb.block g h.lt hne).trans h
theorem blk_lt {o : Obj} (h : w.heap[g]? = some o) : g < w.heap.size := by
  rcases Nat.lt_or_ge g w.heap.size with h1 | h1
  · exact h1
  · rw [Array.getElem?_eq_none h1] at h; cases h
end
/-- Bytes in a block of bytes. -/
def ByV (w : World) (v : Value) (xs : List Int) : Prop :=
  ∃ A n c, v = .slice A n c ∧ xs.length = n ∧ n ≤ c ∧ c ≤ maxLen ∧ (0 < n → ∃ b o cs, A = some ⟨b, o, none⟩ ∧ w.heap[b]? = some (.cells cs 5 (0, 0)) ∧ ∀ j, j < n → cs[o + j]? = some (.int .u8 (xs.getD j 0)))
/-- No block of bytes. -/
def NotBy (w : World) (k : Nat) : Prop := ∀ cs fr, w.heap[k]? ≠ some (.cells cs 5 fr)
theorem ByV.buts {w w' : World} {v : Value} {xs : List Int} {S : List Nat} (h : ByV w v xs) (hb : Buts S w w') (hS : ∀ k ∈ S, NotBy w k) : ByV w' v xs := by
  obtain ⟨A, n, c, e, h1, h2, h3, h4⟩ := h
  refine ⟨A, n, c, e, h1, h2, h3, fun h0 => ?_⟩
  obtain ⟨b, o, cs, eA, hc, hx⟩ := h4 h0
  exact ⟨b, o, cs, eA, (hb.block b (blk_lt hc) (fun hk => hS b hk _ _ hc)).trans hc, hx⟩
theorem ByV.later {w w' : World} {v : Value} {xs : List Int} (h : ByV w v xs) (hb : Below w.heap.size w w') : ByV w' v xs := h.buts (Buts.of hb []) (by simp)
theorem ByV.bs {w : World} {A : Option Addr} {n c : Nat} {xs : List Int} (h : ByV w (.slice A n c) xs) : Bs w w.heap.size A n xs := by
  obtain ⟨A', n', c', e, h1, h2, h3, h4⟩ := h
  injection e with e1 e2 e3
  subst e1; subst e2; subst e3
  refine ⟨h1, fun h0 => ?_⟩
  obtain ⟨b, o, cs, eA, hc, hx⟩ := h4 h0
  exact ⟨b, o, eA, blk_lt hc, fun j hj => by rw [cell_of_row w b (o + j) cs 5 (0, 0) hc]; exact hx j hj⟩
theorem ByV.of_row {w : World} {base n : Nat} {v : Value} {xs : List Int} (h : w.ownsRow base 5 1 v n (bv xs)) : ByV w v xs := by
  obtain ⟨hl, h⟩ := h
  have hn : xs.length = n := by simpa [bv] using hl
  rcases h with ⟨rfl, h0⟩ | ⟨g, cap, cur, rfl, _, hg, h1, h2, h3, h4⟩
  · exact ⟨none, 0, 0, rfl, by omega, Nat.le_refl _, by simp, fun h => absurd h (by omega)⟩
  · refine ⟨some ⟨g, 0, none⟩, n, cap, rfl, hn, h1, h2, fun h0 => ⟨g, 0, cur, rfl, hg, fun j hj => ?_⟩⟩
    have e : (cur.toList.take (n * 1))[j]? = (bv xs)[j]? := by rw [h4]
    rw [Nat.mul_one, List.getElem?_take, if_pos hj] at e
    rw [Nat.zero_add, ← Array.getElem?_toList, e]
    simp [bv, List.getD, List.getElem?_eq_getElem (show j < xs.length by omega)]
theorem Row.notBy {w : World} {t g : Nat} {vs : List Value} (h : Row w t g vs) (ht : t ≠ 5) : NotBy w g := by
  intro cs fr e
  have := h.symm.trans e
  simp at this
  exact ht this.2.1
/-- A way. -/
structure Way where
  gl : Nat
  c : Nat
  bv : Value
  fs : List (Value × List Int)
  gone : Nat
/-- A way's blocks. -/
def Way.blocks (l : Way) : List Nat := l.gl :: l.c :: l.bv.ownBlock.toList
structure WayAt (w : World) (B : Nat) (l : Way) : Prop where
  row : Row w 166 l.gl [.chan (some l.c), l.bv]
  lo1 : B ≤ l.gl
  lo2 : B ≤ l.c
  chan : ∃ s r, w.heap[l.c]? = some (.chan 200 ((l.fs.drop l.gone).map (·.1)).toArray false s r false)
  own : w.ownsRow B 35 1 l.bv l.fs.length (l.fs.map (·.1))
  frames : ∀ p ∈ l.fs, ByV w p.1 p.2
  most : l.fs.length ≤ 200
  gone : l.gone ≤ l.fs.length
theorem own_lo {w : World} {B e n : Nat} {v : Value} {xs : List Value} (h : w.ownsRow B e 1 v n xs) : ∀ k ∈ v.ownBlock.toList, B ≤ k ∧ k < w.heap.size ∧ ∃ cs, w.heap[k]? = some (.cells cs e (0, 0)) := by
  intro k hk
  rcases h.2 with ⟨rfl, _⟩ | ⟨g, cap, cur, rfl, hb, hg, _⟩
  · simp [Value.ownBlock] at hk
  · simp [Value.ownBlock] at hk
    subst hk
    exact ⟨hb, blk_lt hg, cur, hg⟩
theorem WayAt.lo {w : World} {B : Nat} {l : Way} (h : WayAt w B l) : ∀ k ∈ l.blocks, B ≤ k ∧ k < w.heap.size := by
  intro k hk
  simp only [Way.blocks, List.mem_cons] at hk
  rcases hk with rfl | rfl | hk
  · exact ⟨h.lo1, h.row.lt⟩
  · obtain ⟨s, r, hc⟩ := h.chan; exact ⟨h.lo2, blk_lt hc⟩
  · have := own_lo h.own k hk; exact ⟨this.1, this.2.1⟩
theorem WayAt.notBy {w : World} {B : Nat} {l : Way} (h : WayAt w B l) : ∀ k ∈ l.blocks, NotBy w k := by
  intro k hk
  simp only [Way.blocks, List.mem_cons] at hk
  rcases hk with rfl | rfl | hk
  · exact h.row.notBy (by decide)
  · obtain ⟨s, r, hc⟩ := h.chan
    intro cs fr e
    have := hc.symm.trans e
    cases this
  · obtain ⟨_, _, cs, hc⟩ := own_lo h.own k hk
    intro cs fr e
    have := hc.symm.trans e
    simp at this
theorem own_buts {w w' : World} {B e n : Nat} {v : Value} {xs : List Value} {S : List Nat} (h : w.ownsRow B e 1 v n xs) (hb : Buts S w w') (hS : ∀ k ∈ v.ownBlock.toList, k ∉ S) : w'.ownsRow B e 1 v n xs := by
  refine ⟨h.1, h.2.imp id ?_⟩
  rintro ⟨g, cap, cur, rfl, h1, h2, h3⟩
  exact ⟨g, cap, cur, rfl, h1, (hb.block g (blk_lt h2) (hS g (by simp [Value.ownBlock]))).trans h2, h3⟩
/-- What leaves a way's blocks and all bytes leaves the way. -/
theorem WayAt.buts {w w' : World} {B : Nat} {l : Way} {S : List Nat} (h : WayAt w B l) (hb : Buts S w w') (hS : ∀ k ∈ l.blocks, k ∉ S) (hN : ∀ k ∈ S, NotBy w k) : WayAt w' B l := by
  obtain ⟨s, r, hc⟩ := h.chan
  exact ⟨h.row.buts hb (hS _ (by simp [Way.blocks])), h.lo1, h.lo2, ⟨s, r, (hb.block _ (blk_lt hc) (hS _ (by simp [Way.blocks]))).trans hc⟩, own_buts h.own hb (fun k hk => hS k (by simp [Way.blocks]; exact .inr (.inr (by simpa using hk)))), fun p hp => (h.frames p hp).buts hb hN, h.most, h.gone⟩
theorem WayAt.later {w w' : World} {B : Nat} {l : Way} (h : WayAt w B l) (hb : Below w.heap.size w w') : WayAt w' B l := h.buts (Buts.of hb []) (by simp) (by simp)
end Go.Proofs.Ytlihoijbfffjcaa

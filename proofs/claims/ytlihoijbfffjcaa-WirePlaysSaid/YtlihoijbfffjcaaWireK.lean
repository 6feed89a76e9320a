/-
  The law WireOrder: contract. Own work.
-/
import Derived.Test.YtlihoijbfffjcaaWireH
import Derived.Test.YtlihoijbfffjcaaFrame2
import Derived.ChangeArms
namespace Go.Proofs.Ytlihoijbfffjcaa
open Go.RowKit Go.Conc Go.ChangeShapes
set_option linter.unusedVariables false
set_option linter.unusedSimpArgs false
/-- Truth values at a place. -/
def Bls (w : World) (B : Nat) (A : Option Addr) (n : Nat) (f : Nat → Bool) : Prop :=
  0 < n → ∃ b o, A = some ⟨b, o, none⟩ ∧ b < B ∧ ∀ j, j < n → w.cell? ⟨b, o + j, none⟩ = some (.bool (f j))
theorem trod_bls {H : Type} {enc : TypeId × Value → H} {w : World} {spare : Nat → Bool} {held : Bool} {A : Option Addr} {n c : Nat} {d : DataW H} {p : List MemPlace} (h : DataW.Trod enc Try.prog w 0 spare held 123 (.slice A n c) d p) : ∃ f, Bls w w.heap.size A n f := by
  obtain ⟨fuel, hf⟩ := h
  rcases Go.Deep.open_slice1 Try.underlying123 (by kernel_rfl) hf with ⟨hcs, _⟩ | ⟨a, len, cap, m, k, V, D, Pl, hcs, _, hl, hm, hmm, _, hx⟩
  · simp [Value.cells] at hcs
    obtain ⟨rfl, rfl, rfl⟩ := hcs
    exact ⟨fun _ => false, fun h => absurd h (by omega)⟩
  · simp [Value.cells] at hcs
    obtain ⟨rfl, rfl, rfl⟩ := hcs
    have hnm : n ≤ m := by rw [hmm]; split <;> omega
    have key : ∀ i, i < n → ∃ b : Bool, w.cell? (a.add i) = some (.bool b) := by
      intro i hi
      obtain ⟨h1, h2⟩ := hx i (by omega)
      obtain ⟨b, hv, _⟩ := DataW.trod_bool Try.underlying4 h2
      simp at hv
      exact ⟨b, by rw [h1, hv]⟩
    obtain ⟨f, hf'⟩ := Go.Deep.choose_lt (α := Bool) key
    refine ⟨f, fun h0 => ?_⟩
    obtain ⟨b, off, spot⟩ := a
    have hc0 := hf' 0 h0
    have hspot : spot = none := by simpa [Addr.add] using World.cell?_spot hc0
    subst hspot
    refine ⟨b, off, rfl, ?_, fun j hj => ?_⟩
    · have := block_lt_of_cell hc0
      simpa [Addr.add] using this
    · have := hf' j hj
      rw [addr_plain] at this
      exact this
theorem own_notBy' {w : World} {B n : Nat} {v : Value} {xs : List Value} (h : w.ownsRow B 35 1 v n xs) : ∀ k ∈ v.ownBlock.toList, NotBy w k := by
  intro k hk cs fr e
  obtain ⟨_, _, cs', hc⟩ := own_lo h k hk
  rw [hc] at e
  simp at e
theorem NetAt.other {w w' : World} {B gw : Nat} {nv : Value} {ls : List Way} {S : List Nat} (h : NetAt w B gw nv ls) (hb : Buts S w w') (h1 : gw ∉ S) (h2 : ∀ k ∈ nv.ownBlock.toList, k ∉ S) (h3 : ∀ l ∈ ls, ∀ k ∈ l.blocks, k ∉ S) (hN : ∀ k ∈ S, NotBy w k) : NetAt w' B gw nv ls :=
  ⟨h.row.buts hb h1, h.lo, own_buts h.own hb h2, fun l hl => (h.ways l hl).buts hb (h3 l hl) hN, h.apart⟩
/-- All that a net lies in is older than a time. -/
structure Older (T gw : Nat) (nv : Value) (l0 l1 l2 : Way) : Prop where
  g : gw < T
  own : ∀ k ∈ nv.ownBlock.toList, k < T
  a : ∀ k ∈ l0.blocks, k < T
  b : ∀ k ∈ l1.blocks, k < T
  c : ∀ k ∈ l2.blocks, k < T
theorem NetAt.older {w : World} {B gw : Nat} {nv : Value} {l0 l1 l2 : Way} (h : NetAt w B gw nv [l0, l1, l2]) : Older w.heap.size gw nv l0 l1 l2 :=
  ⟨h.row.lt, fun k hk => (own_lo h.own k hk).2.1, fun k hk => ((h.ways l0 (by simp)).lo k hk).2, fun k hk => ((h.ways l1 (by simp)).lo k hk).2, fun k hk => ((h.ways l2 (by simp)).lo k hk).2⟩
theorem NetAt.aside {w w' : World} {B T gw : Nat} {nv : Value} {l0 l1 l2 : Way} {S : List Nat} (h : NetAt w B gw nv [l0, l1, l2]) (ho : Older T gw nv l0 l1 l2) (hb : Buts S w w') (hS : ∀ k ∈ S, T ≤ k) (hN : ∀ k ∈ S, NotBy w k) : NetAt w' B gw nv [l0, l1, l2] := by
  refine h.other hb (fun hk => ?_) (fun k hk hs => ?_) (fun l hl k hk hs => ?_) hN
  · have := hS _ hk; have := ho.g; omega
  · have := hS _ hs; have := ho.own k hk; omega
  · have := hS _ hs
    simp at hl
    rcases hl with rfl | rfl | rfl
    · have := ho.a k hk; omega
    · have := ho.b k hk; omega
    · have := ho.c k hk; omega
/-- The three ways of WireOrder after i sends. -/
structure OrdAt (wr : World) (B gw : Nat) (nv : Value) (xss : List (List Int)) (i : Nat) (l0 l1 l2 : Way) : Prop where
  net : NetAt wr B gw nv [l0, l1, l2]
  n1 : l1.fs.length = i
  g1 : l1.gone = 0
  n2 : l2.fs.length = i
  g2 : l2.gone = 0
  fr : ∀ j, j < i → ∃ v, l2.fs[j]? = some (v, xss.getD j [])
  short : ∀ j, j < i → (xss.getD j []).length ≤ 300
theorem OrdAt.step {wr w' : World} {B gw : Nat} {nv : Value} {xss : List (List Int)} {i : Nat} {l0 l1 l2 : Way} (h : OrdAt wr B gw nv xss i l0 l1 l2) {v v' bv bv' : Value} {ys : List Int} (hl : (xss.getD i []).length ≤ 300)
    (hN : NetAt w' B gw nv [l0, l1.sent v' ys bv', l2.sent v (xss.getD i []) bv]) : OrdAt w' B gw nv xss (i + 1) l0 (l1.sent v' ys bv') (l2.sent v (xss.getD i []) bv) := by
  refine ⟨hN, by simp [Way.sent, h.n1], h.g1, by simp [Way.sent, h.n2], h.g2, fun j hj => ?_, fun j hj => ?_⟩
  · by_cases hji : j = i
    · subst hji
      exact ⟨v, by simp only [Way.sent]; rw [List.getElem?_append_right (by rw [h.n2]; exact Nat.le_refl _), h.n2, Nat.sub_self]; rfl⟩
    · obtain ⟨v0, hv0⟩ := h.fr j (by omega)
      exact ⟨v0, by simp only [Way.sent]; rw [List.getElem?_append_left (by rw [h.n2]; omega)]; exact hv0⟩
  · by_cases hji : j = i
    · subst hji; exact hl
    · exact h.short j (by omega)
theorem OrdAt.later {w w' : World} {B gw : Nat} {nv : Value} {xss : List (List Int)} {i : Nat} {l0 l1 l2 : Way} (h : OrdAt w B gw nv xss i l0 l1 l2) (hb : Below w.heap.size w w') : OrdAt w' B gw nv xss i l0 l1 l2 :=
  ⟨h.net.later hb, h.n1, h.g1, h.n2, h.g2, h.fr, h.short⟩
end Go.Proofs.Ytlihoijbfffjcaa

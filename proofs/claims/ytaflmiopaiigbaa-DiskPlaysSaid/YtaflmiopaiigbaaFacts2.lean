/-
  Regions whose order of evaluation is open, one part more: the last of the few stores into an old block, behind all others. Plain theorems about the model's regions, over whatever program. Own work.
-/
import Derived.Test.YtaflmiopaiigbaaFacts
import Derived.Test.YtaflmiopaiigbaaEqArr
namespace Go.Proofs.Ytaflmiopaiigbaa
set_option linter.unusedVariables false
set_option linter.unusedSimpArgs false
open Go.RowKit
/-- What the few keep whose ks-th stores into block g. -/
def JG (g T : Nat) (w0 : World) (E : List Nat) (F : Nat → Value → World → Prop) (ks : Nat) (new : List Value) (bs : List Bool) (vs : List Value) (w : World) : Prop :=
  (bs.getD ks false = false → JF w0 E F bs vs w) ∧ (bs.getD ks false = true → But g w0 w ∧ Row w T g new)
section
variable {P : Program} {l : List Oper} {t0 : Array Value} {ds0 : List Deferred} {Sv : Nat → Value → Prop} {E : List Nat} {F : Nat → Value → World → Prop} {L : Array Bool} {a : Act} {w w0 w' : World} {i s g T ks : Nat} {o : Oper} {new : List Value}
theorem bits_at {E : List Nat} {L : Array Bool} {ks s : Nat} (hs : E[ks]? = some s) : (bitsOf E L).getD ks false = L.getD s false := by
  simp only [bitsOf, List.getD, List.getElem?_map, hs, Option.map_some, Option.getD_some]
theorem JG.start (vs : List Value) : JG g T w E F ks new (E.map fun _ => false) vs w.drew := by
  refine ⟨fun _ => JF.start vs, fun h => ?_⟩
  rw [List.getD, List.getElem?_map] at h
  cases hq : E[ks]? <;> rw [hq] at h <;> cases h
theorem JG.down (h : Mid l t0 ds0 Sv E (JG g T w0 E F ks new) L a w) (no : L.getD s false = false) (hs : E[ks]? = some s) : Mid l t0 ds0 Sv E (JF w0 E F) L a w := by
  have hj := h.inv.1 ((bits_at hs).trans no)
  exact ⟨⟨h.atL.defers, h.atL.size, h.atL.old, trivial, hj, h.atL.spec⟩, hj⟩
theorem JG.cont {K : Act → World → Prop} (hK : ∀ v w', Sv i v → JG g T w0 E F ks new (E.map fun j => if j = i then true else L.getD j false) (E.map fun j => if j = i then (if o.dst = none then undef else v) else slotOf l j a.tmps) w' → K (a.put o.dst v) w')
    (no : L.getD s false = false) (hs : E[ks]? = some s) (hne : s ≠ i) : ∀ v w', Sv i v → JF w0 E F (E.map fun j => if j = i then true else L.getD j false) (E.map fun j => if j = i then (if o.dst = none then undef else v) else slotOf l j a.tmps) w' → K (a.put o.dst v) w' := by
  intro v w' hS hJ
  refine hK v w' hS ⟨fun _ => hJ, fun h1 => ?_⟩
  simp only [List.getD, List.getElem?_map, hs, Option.map_some, Option.getD_some, if_neg hne] at h1
  have h2 : L.getD s false = true := h1
  rw [no] at h2
  cases h2
/-- The store. -/
theorem JG.store {K : Act → World → Prop} (h : Mid l t0 ds0 Sv E (JG g T w0 E F ks new) L a w)
    (hK : ∀ v w', Sv i v → JG g T w0 E F ks new (E.map fun j => if j = i then true else L.getD j false) (E.map fun j => if j = i then (if o.dst = none then undef else v) else slotOf l j a.tmps) w' → K (a.put o.dst v) w')
    (no : L.getD i false = false) (hs : E[ks]? = some i) (hS : Sv i undef) (hr : Row w' T g new) (ho : Only g w w') : K (a.put o.dst undef) w' := by
  have hj := h.inv.1 ((bits_at hs).trans no)
  refine hK undef w' hS ⟨fun h0 => ?_, fun _ => ⟨(But.of hj.1 g).trans (But.only ho), hr⟩⟩
  simp [List.getD, List.getElem?_map, hs] at h0
theorem JG.last {bs : List Bool} {vs : List Value} (h : JG g T w0 E F ks new bs vs w) (hb : bs.getD ks false = true) : But g w0 w ∧ Row w T g new := h.2 hb
end
/-- Slices of bytes in a row that a call made: their bytes. -/
def BsF (k : Nat) (xss : List (List Int)) (v : Value) (w : World) : Prop := ∃ A c, v = .slice A k c ∧ Bss w w.heap.size A k xss
theorem BsF.later {k : Nat} {xss : List (List Int)} {v : Value} {w w' : World} (h : BsF k xss v w) (hb : Below w.heap.size w w') : BsF k xss v w' := by
  obtain ⟨A, c, e, b⟩ := h
  exact ⟨A, c, e, (b.below hb).up hb.size⟩
/-- A row of slices. -/
theorem Row.bss {w : World} {t g : Nat} {l : List (Option Addr × Nat × Nat × List Int)} {vs : List Value} (h : Row w t g vs) (hv : vs = l.map fun x => Value.slice x.1 x.2.1 x.2.2.1) (hx : ∀ x ∈ l, Bs w w.heap.size x.1 x.2.1 x.2.2.2) : Bss w w.heap.size (some ⟨g, 0, none⟩) l.length (l.map fun x => x.2.2.2) := by
  subst hv
  refine ⟨by simp, fun _ => ⟨g, 0, rfl, h.lt, fun j hj => ⟨l[j].1, l[j].2.1, l[j].2.2.1, ?_, ?_⟩⟩⟩
  · rw [Nat.zero_add]
    refine h.cell ?_
    simp [hj]
  · have := hx l[j] (by simp)
    simpa [List.getD, List.getElem?_eq_getElem (show j < (l.map fun x => x.2.2.2).length by simpa using hj)] using this
theorem Row.bss1 {w : World} {t g n c : Nat} {A : Option Addr} {xs : List Int} (h : Row w t g [.slice A n c]) (h1 : Bs w w.heap.size A n xs) : Bss w w.heap.size (some ⟨g, 0, none⟩) 1 [xs] :=
  Row.bss (l := [(A, n, c, xs)]) h rfl (by simpa using h1)
theorem Row.bss2 {w : World} {t g n c m d : Nat} {A B : Option Addr} {xs ys : List Int} (h : Row w t g [.slice A n c, .slice B m d]) (h1 : Bs w w.heap.size A n xs) (h2 : Bs w w.heap.size B m ys) : Bss w w.heap.size (some ⟨g, 0, none⟩) 2 [xs, ys] :=
  Row.bss (l := [(A, n, c, xs), (B, m, d, ys)]) h rfl (by intro x hx; simp at hx; rcases hx with rfl | rfl <;> assumption)
theorem Row.bss3 {w : World} {t g n c m d k f : Nat} {A B C : Option Addr} {xs ys zs : List Int} (h : Row w t g [.slice A n c, .slice B m d, .slice C k f]) (h1 : Bs w w.heap.size A n xs) (h2 : Bs w w.heap.size B m ys) (h3 : Bs w w.heap.size C k zs) : Bss w w.heap.size (some ⟨g, 0, none⟩) 3 [xs, ys, zs] :=
  Row.bss (l := [(A, n, c, xs), (B, m, d, ys), (C, k, f, zs)]) h rfl (by intro x hx; simp at hx; rcases hx with rfl | rfl | rfl <;> assumption)
/-- The second slot's fact of a block of bytes. -/
theorem Bs.row {w : World} {t g n : Nat} {xs : List Int} (h : Row w t g (bv xs)) (hn : xs.length = n) : Bs w w.heap.size (some ⟨g, 0, none⟩) n xs := by
  have := (Row.toOwn h).bs h.lt
  rwa [hn] at this
end Go.Proofs.Ytaflmiopaiigbaa

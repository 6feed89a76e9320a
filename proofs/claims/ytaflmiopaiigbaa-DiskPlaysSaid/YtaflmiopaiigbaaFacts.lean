/-
  Regions whose order of evaluation is open, next part: each of the few keeps a fact of its own on its value, which growth of memory leaves; and an array that the region makes and fills.
  Plain theorems about the model's regions, over whatever program. Own work.
-/
import Derived.Test.YtaflmiopaiigbaaMem3
import Derived.Test.YtaflmiopaiigbaaVals
namespace Go.Proofs.Ytaflmiopaiigbaa
set_option linter.unusedVariables false
set_option linter.unusedSimpArgs false
open Go.RowKit
/-- What the few keep. -/
def JF (w0 : World) (E : List Nat) (F : Nat → Value → World → Prop) (bs : List Bool) (vs : List Value) (w : World) : Prop :=
  Below w0.heap.size w0 w ∧ ∀ (k j : Nat), E[k]? = some j → bs.getD k false = true → F j (vs.getD k undef) w
section
variable {P : Program} {l : List Oper} {t0 : Array Value} {ds0 : List Deferred} {Sv : Nat → Value → Prop} {E : List Nat} {F : Nat → Value → World → Prop} {L : Array Bool} {a : Act} {w w0 w' : World} {i : Nat} {o : Oper}
theorem JF.start (vs : List Value) : JF w E F (E.map fun _ => false) vs w.drew := by
  refine ⟨(Below.refl _ _).drew, fun k j hk hb => ?_⟩
  rw [List.getD, List.getElem?_map, hk] at hb
  cases hb
theorem JF.below (h : Mid l t0 ds0 Sv E (JF w0 E F) L a w) : Below w0.heap.size w0 w := h.inv.1
/-- The fact of an operation that comes ahead. -/
theorem JF.get (h : Mid l t0 ds0 Sv E (JF w0 E F) L a w) (n : Now l i o L) (j d : Nat) (hb : depB l i j = true) (hE : E.contains j = true) (hd : (l[j]?).bind (·.dst) = some d) : F j (a.tmps.getD d undef) w := by
  obtain ⟨k, hk⟩ := List.getElem?_of_mem (List.contains_iff_mem.1 hE)
  have := h.inv.2 k j hk (by simp only [bitsOf, List.getD, List.getElem?_map, hk, Option.map_some, Option.getD_some]; exact n.dep hb)
  simpa [slotsOf, List.getD, List.getElem?_map, hk, slotOf, hd] using this
theorem JF.step (hm : ∀ j v w w', F j v w → Below w.heap.size w w' → F j v w') (h : Mid l t0 ds0 Sv E (JF w0 E F) L a w) (hb : Below w.heap.size w w') (v : Value) (hF : F i v w') :
    JF w0 E F (E.map fun j => if j = i then true else L.getD j false) (E.map fun j => if j = i then v else slotOf l j a.tmps) w' := by
  refine ⟨h.inv.1.trans (hb.mono h.inv.1.size), fun k j hk hx => ?_⟩
  have h1 := h.inv.2 k j hk
  simp only [bitsOf, slotsOf, List.getD, List.getElem?_map, hk, Option.map_some, Option.getD_some] at h1 hx ⊢
  by_cases e : j = i
  · rw [if_pos e, e]; exact hF
  · rw [if_neg e] at hx ⊢
    exact hm _ _ _ _ (h1 hx) hb
/-- One of the few that makes memory, or leaves it. -/
theorem JF.few {K : Act → World → Prop} (hm : ∀ j v w w', F j v w → Below w.heap.size w w' → F j v w') (h : Mid l t0 ds0 Sv E (JF w0 E F) L a w)
    (hK : ∀ v w', Sv i v → JF w0 E F (E.map fun j => if j = i then true else L.getD j false) (E.map fun j => if j = i then (if o.dst = none then undef else v) else slotOf l j a.tmps) w' → K (a.put o.dst v) w')
    (d : Nat) (hd : o.dst = some d) (v : Value) (hS : Sv i v) (hF : F i v w') (hb : Below w.heap.size w w') : K (a.put o.dst v) w' := by
  refine hK v w' hS ?_
  rw [hd, if_neg (by simp)]
  exact JF.step hm h hb v hF
/-- A call. -/
theorem JF.call {Q : Exit → Act → World → Prop} {K : Act → World → Prop} (hm : ∀ j v w w', F j v w → Below w.heap.size w w' → F j v w') (h : Mid l t0 ds0 Sv E (JF w0 E F) L a w)
    (hK : ∀ v w', Sv i v → JF w0 E F (E.map fun j => if j = i then true else L.getD j false) (E.map fun j => if j = i then (if o.dst = none then undef else v) else slotOf l j a.tmps) w' → K (a.put o.dst v) w')
    (d : Nat) (hd : o.dst = some d) (f : FuncId) (args : Array Operand) (ats : Array TypeId) (vals : Array Value) (ho : o.op = .call { callee := .value (.func f), args := args, argTypes := ats })
    (hf : ∀ (xs : Array Value) (w : World), (callFunc f xs).run P w = .ok (.enter f xs) w) (hv : args.map a.eval = vals)
    {R : Ending → World → Prop} (hc : Calls P f vals w R) (hr : ∀ e w', R e w' → ∃ v, e = .returned v ∧ Sv i v ∧ F i v w' ∧ Below w.heap.size w w') : o.wp P a w K Q :=
  st_call f args ats vals ho hf hv hc fun e w' hR => by
    obtain ⟨v, he, hS, hF, hb⟩ := hr e w' hR
    exact ⟨v, he, JF.few hm h hK d hd v hS hF hb⟩
/-- An operation without an effect, of a value that hangs on the few's. -/
theorem JF.run {Q : Exit → Act → World → Prop} {K : Act → World → Prop} (hm : ∀ j v w w', F j v w → Below w.heap.size w w' → F j v w') (h : Mid l t0 ds0 Sv E (JF w0 E F) L a w)
    (hK : ∀ v w', Sv i v → JF w0 E F (E.map fun j => if j = i then true else L.getD j false) (E.map fun j => if j = i then (if o.dst = none then undef else v) else slotOf l j a.tmps) w' → K (a.put o.dst v) w')
    (d : Nat) (hd : o.dst = some d) (v : Value) (hrun : (execOp a.eval o).run P w = .ok (.value v) w) (hS : Sv i v) (hF : F i v w) : o.wp P a w K Q := by
  unfold Oper.wp
  rw [hrun]
  exact JF.few hm h hK d hd v hS hF (Below.refl _ _)
/-- What the few know in the end. -/
theorem JF.last {V : Nat → Value} (h : JF w0 E F (E.map fun _ => true) (E.map (lastOf l V)) w) (j d : Nat) (hE : E.contains j = true) (hd : (l[j]?).bind (·.dst) = some d) : F j (V j) w := by
  obtain ⟨k, hk⟩ := List.getElem?_of_mem (List.contains_iff_mem.1 hE)
  have := h.2 k j hk (by simp only [List.getD, List.getElem?_map, hk, Option.map_some, Option.getD_some])
  simpa [List.getD, List.getElem?_map, hk, lastOf, hd] using this
end
/-! ### An array that the region makes and fills -/
/-- ia, js: where the making and the filling stand among the few. -/
def JA (w0 : World) (T : Nat) (zs blk : List Value) (ia js : Nat) (bs : List Bool) (vs : List Value) (w : World) : Prop :=
  Below w0.heap.size w0 w ∧ (bs.getD ia false = true → ∃ g, vs.getD ia undef = .pointer (some ⟨g, 0, none⟩) ∧ w0.heap.size ≤ g ∧ Row w T g (bif bs.getD js false then blk else zs))
section
variable {w0 w w' : World} {T ia js : Nat} {zs blk : List Value} {bs bs' : List Bool} {vs vs' : List Value}
theorem JA.grow (h : JA w0 T zs blk ia js bs vs w) (hb : Below w.heap.size w w') (h1 : bs'.getD ia false = bs.getD ia false) (h2 : vs'.getD ia undef = vs.getD ia undef) (h3 : bs'.getD js false = bs.getD js false) : JA w0 T zs blk ia js bs' vs' w' := by
  refine ⟨h.1.trans (hb.mono h.1.size), fun hx => ?_⟩
  rw [h1] at hx
  obtain ⟨g, p, q, r⟩ := h.2 hx
  exact ⟨g, by rw [h2]; exact p, q, by rw [h3]; exact r.later hb⟩
theorem JA.made (h : JA w0 T zs blk ia js bs vs w) {g : Nat} (hb : Below w.heap.size w w') (hr : Row w' T g zs) (hg : w.heap.size ≤ g) (hv : vs'.getD ia undef = .pointer (some ⟨g, 0, none⟩)) (h3 : bs'.getD js false = false) : JA w0 T zs blk ia js bs' vs' w' :=
  ⟨h.1.trans (hb.mono h.1.size), fun _ => ⟨g, hv, Nat.le_trans h.1.size hg, by rw [h3]; exact hr⟩⟩
theorem JA.filled (h : JA w0 T zs blk ia js bs vs w) {g : Nat} (ho : Only g w w') (hg : w0.heap.size ≤ g) (hr : Row w' T g blk) (hv : vs'.getD ia undef = .pointer (some ⟨g, 0, none⟩)) (h3 : bs'.getD js false = true) : JA w0 T zs blk ia js bs' vs' w' :=
  ⟨h.1.trans (ho.below hg), fun _ => ⟨g, hv, hg, by rw [h3]; exact hr⟩⟩
end
/-! ### Facts -/
/-- Bytes that a call made. -/
def SlF (xs : List Int) (v : Value) (w : World) : Prop := ∃ A c, v = .slice A xs.length c ∧ Bs w w.heap.size A xs.length xs ∧ xs.length ≤ c ∧ c ≤ maxLen
theorem SlF.later {xs : List Int} {v : Value} {w w' : World} (h : SlF xs v w) (hb : Below w.heap.size w w') : SlF xs v w' := by
  obtain ⟨A, c, e, b, h1, h2⟩ := h
  exact ⟨A, c, e, b.later hb, h1, h2⟩
theorem SlF.of_ret {xs : List Int} {w w' : World} {e : Ending} (h : RetBs xs w e w') : ∃ v, e = .returned v ∧ SlF xs v w' ∧ Below w.heap.size w w' := by
  obtain ⟨A, n, c, rfl, hb, h1, h2, h3⟩ := h
  obtain rfl : n = xs.length := hb.1.symm
  exact ⟨_, rfl, ⟨A, c, rfl, hb, h1, h2⟩, h3⟩
/-- Bytes and a second answer. -/
def PrF (u : Value) (xs : List Int) (v : Value) (w : World) : Prop := ∃ A c, v = .tuple #[.slice A xs.length c, u] ∧ Bs w w.heap.size A xs.length xs ∧ xs.length ≤ c ∧ c ≤ maxLen
theorem PrF.later {u : Value} {xs : List Int} {v : Value} {w w' : World} (h : PrF u xs v w) (hb : Below w.heap.size w w') : PrF u xs v w' := by
  obtain ⟨A, c, e, b, h1, h2⟩ := h
  exact ⟨A, c, e, b.later hb, h1, h2⟩
/-- A second answer alone. -/
def IsF (u : Value) (v : Value) (w : World) : Prop := v = u
theorem IsF.later {u : Value} {v : Value} {w w' : World} (h : IsF u v w) (hb : Below w.heap.size w w') : IsF u v w' := h
end Go.Proofs.Ytaflmiopaiigbaa

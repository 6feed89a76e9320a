/-
  Regions whose order of evaluation is open, next part: guards that fail: what is guarded so is passed over. Two things that two of the few turn. Plain theorems about the model's regions, over whatever program. Own work.
-/
import Derived.Test.YtaflmiopaiigbaaFacts2
namespace Go.Proofs.Ytaflmiopaiigbaa
set_option linter.unusedVariables false
set_option linter.unusedSimpArgs false
open Go.RowKit
/-- An operation's guard fails. -/
def GNo (l : List Oper) (t0 : Array Value) (Sv : Nat → Value → Prop) (i : Nat) (o : Oper) : Prop :=
  ∃ (g : Nat) (b : Bool) (d : Nat), o.guard = some (g, b) ∧ depB l i g = true ∧ (l[g]?).bind (·.dst) = some d ∧ d < t0.size ∧ ∀ v, Sv g v → v ≠ .bool b
theorem ne_tf : Value.bool true ≠ .bool false := by intro h; cases h
theorem ne_ft : Value.bool false ≠ .bool true := by intro h; cases h
theorem ne_undef (b : Bool) : undef ≠ .bool b := by intro h; cases h
section
variable {l : List Oper} {t0 : Array Value} {ds0 : List Deferred} {S : Nat → Value → World → Prop} {R : World → World → Prop} {I : Array Bool → Act → World → Prop} {w0 : World} {L : Array Bool} {a : Act} {w : World} {i : Nat} {o : Oper}
theorem At.unwanted (h : At l t0 ds0 S R I w0 L a w) (g : Nat) (b : Bool) (d : Nat) (ho : o.guard = some (g, b)) (hd : (l[g]?).bind (·.dst) = some d) (hs : d < t0.size) (hv : a.tmps.getD d undef ≠ .bool b) :
    Region.wanted o (yielded l.toArray a.tmps) = false := by
  have hlt : d < a.tmps.size := by rw [h.size]; exact hs
  have hv' : a.tmps[d]? = some (a.tmps.getD d undef) := by
    simp only [Array.getD_eq_getD_getElem?, Array.getElem?_eq_getElem hlt, Option.getD_some]
  generalize a.tmps.getD d undef = v at hv hv'
  cases v with
  | bool c =>
    have hc : c ≠ b := fun e => hv (by rw [e])
    simp [Region.wanted, ho, yielded, hd, hv', hc]
  | _ => simp [Region.wanted, ho, yielded, hd, hv']
end
/-- THE RULE: guards hold or fail. -/
theorem wp_region_valsS {P : Program} {id : Nat} {l : List Oper} {Q : Exit → Act → World → Prop} {t0 : Array Value} {ds0 : List Deferred} {w : World}
    (E : List Nat) (Sv : Nat → Value → Prop) (J : List Bool → List Value → World → Prop)
    (hm : P.follows .mixedOrders = true) (hd : dagB l.toArray = true) (hu : dstsB l t0.size = true)
    (hE : (E.all fun i => decide (i < l.length)) = true) (hI0 : J (E.map fun _ => false) (slotsOf l E t0) w.drew)
    (obs : AllOps (fun i o => (GOk l t0 Sv i o ∧ (PlainOb P l t0 ds0 Sv E J i o ∨ FewOb P l t0 ds0 Sv E J Q i o)) ∨ (GNo l t0 Sv i o ∧ E.contains i = false ∧ Sv i undef)) 0 l)
    (he : ∀ (V : Nat → Value) (w' : World), (∀ (i d : Nat), (l[i]?).bind (·.dst) = some d → Sv i (V i)) → J (E.map fun _ => true) (E.map (lastOf l V)) w' → Q .normal ⟨putOps l 0 V t0, ds0⟩ w') :
    (Code.region id l.toArray true).wp P Q ⟨t0, ds0⟩ w := by
  refine wp_region_specs (fun n v _ => Sv n v) (fun _ _ => True) (fun L a w => J (bitsOf E L) (slotsOf l E a.tmps) w) hm hd hu (fun _ => trivial) (fun _ _ _ _ _ => trivial) (fun _ _ _ _ _ h => h) ?_ ?_ ?_
  · have : bitsOf E (Array.replicate l.length false) = E.map fun _ => false := by
      unfold bitsOf
      apply List.map_congr_left
      intro j _
      simp only [Array.getD_eq_getD_getElem?, Array.getElem?_replicate]
      split <;> rfl
    show J (bitsOf E (Array.replicate l.length false)) _ _
    rw [this]; exact hI0
  · refine AllOps.mk l 0 fun i o ho => ?_
    rw [Nat.zero_add]
    have hob := AllOps.get l 0 obs i o ho
    rw [Nat.zero_add] at hob
    intro L a w1 n hAt K hK
    have hMid : Mid l t0 ds0 Sv E J L a w1 := ⟨⟨hAt.defers, hAt.size, hAt.old, trivial, hAt.inv, hAt.spec⟩, hAt.inv⟩
    rcases hob with hob | ⟨⟨g, b, d, hgo, hdep, hd, hs, hsv⟩, hEi, hSu⟩
    · have hw : Region.wanted o (yielded l.toArray a.tmps) = true := by
        rcases hob.1 with hgo | ⟨g, b, d, hgo, hdep, hd, hs, hsv⟩
        · simp [Region.wanted, hgo]
        · exact hAt.wanted g b d hgo hd hs (hsv _ (hMid.dep n g d hdep hd))
      replace hob := hob.2
      rw [if_pos hw]
      rcases hob with ⟨hE, hob⟩ | hob
      · obtain ⟨v, hv, hrun⟩ := hob L a w1 n hMid
        unfold Oper.wp
        rw [hrun]
        refine hK v w1 hv trivial ?_
        rw [bits_plain n hE, slots_plain hu n hAt.size hE]
        exact hAt.inv
      · refine hob L a w1 n hMid K fun v w' hv hJ => hK v w' hv trivial ?_
        rw [bits_few n, slots_few hu n hAt.size]
        exact hJ
    · have hw : Region.wanted o (yielded l.toArray a.tmps) = false := hAt.unwanted g b d hgo hd hs (hsv _ (hMid.dep n g d hdep hd))
      rw [hw, if_neg (by simp)]
      refine hK undef w1 hSu trivial ?_
      rw [bits_plain n hEi, slots_plain hu n hAt.size hEi]
      exact hAt.inv
  · intro V L w' hall hV _ hJ
    refine he V w' hV ?_
    have : bitsOf E L = E.map fun _ => true := by
      unfold bitsOf
      apply List.map_congr_left
      intro j hj
      exact hall j (of_decide_eq_true (List.all_eq_true.1 hE j hj))
    rw [← this, ← slots_last hu]; exact hJ
/-- Two things, each of which one of the few turns; what else is there stays but for the blocks S. -/
def J2 (w0 : World) (Fr : World → World → Prop) (A0 A1 B0 B1 : World → Prop) (ia ib : Nat) (bs : List Bool) (vs : List Value) (w : World) : Prop :=
  Fr w0 w ∧ (bs.getD ia false = false → A0 w) ∧ (bs.getD ia false = true → A1 w) ∧ (bs.getD ib false = false → B0 w) ∧ (bs.getD ib false = true → B1 w)
section
variable {w0 w w' : World} {Fr : World → World → Prop} {A0 A1 B0 B1 : World → Prop} {ia ib : Nat} {bs bs' : List Bool} {vs vs' : List Value}
theorem J2.first (h : J2 w0 Fr A0 A1 B0 B1 ia ib bs vs w) (hf : Fr w0 w') (h1 : A1 w') (h2 : bs'.getD ia false = true) (h3 : bs'.getD ib false = bs.getD ib false) (h4 : B0 w → B0 w') (h5 : B1 w → B1 w') : J2 w0 Fr A0 A1 B0 B1 ia ib bs' vs' w' :=
  ⟨hf, fun h0 => absurd (h2.symm.trans h0) (by decide), fun _ => h1, fun h0 => h4 (h.2.2.2.1 (h3 ▸ h0)), fun h0 => h5 (h.2.2.2.2 (h3 ▸ h0))⟩
theorem J2.second (h : J2 w0 Fr A0 A1 B0 B1 ia ib bs vs w) (hf : Fr w0 w') (h1 : B1 w') (h2 : bs'.getD ib false = true) (h3 : bs'.getD ia false = bs.getD ia false) (h4 : A0 w → A0 w') (h5 : A1 w → A1 w') : J2 w0 Fr A0 A1 B0 B1 ia ib bs' vs' w' :=
  ⟨hf, fun h0 => h4 (h.2.1 (h3 ▸ h0)), fun h0 => h5 (h.2.2.1 (h3 ▸ h0)), fun h0 => absurd (h2.symm.trans h0) (by decide), fun _ => h1⟩
end
end Go.Proofs.Ytaflmiopaiigbaa

/-
  Regions whose order of evaluation is open: all operations but a few leave values that hang on no order; the few (calls, stores, what makes memory) keep an invariant.
  Plain theorems about the model's regions, over whatever program. Own work; nothing of the program is in it.
-/
import Derived.Test.YtaflmiopaiigbaaRegion
import Derived.Deep.WholeRow
namespace Go.Proofs.Ytaflmiopaiigbaa
set_option linter.unusedVariables false
set_option linter.unusedSimpArgs false
open Go.RowKit

/-- Which of the few have been carried out. -/
def bitsOf (E : List Nat) (L : Array Bool) : List Bool := E.map fun i => L.getD i false
/-- The slots of the few. -/
def slotOf (l : List Oper) (i : Nat) (t : Array Value) : Value := match (l[i]?).bind (·.dst) with | some d => t.getD d undef | none => undef
def slotsOf (l : List Oper) (E : List Nat) (t : Array Value) : List Value := E.map fun i => slotOf l i t

/-- In the middle of a region. -/
structure Mid (l : List Oper) (t0 : Array Value) (ds0 : List Deferred) (Sv : Nat → Value → Prop) (E : List Nat) (J : List Bool → List Value → World → Prop) (L : Array Bool) (a : Act) (w : World) : Prop where
  atL : At l t0 ds0 (fun n v _ => Sv n v) (fun _ _ => True) (fun L a w => J (bitsOf E L) (slotsOf l E a.tmps) w) w L a w
  inv : J (bitsOf E L) (slotsOf l E a.tmps) w

section
variable {P : Program} {l : List Oper} {t0 : Array Value} {ds0 : List Deferred} {Sv : Nat → Value → Prop} {E : List Nat} {J : List Bool → List Value → World → Prop} {L : Array Bool} {a : Act} {w : World} {i : Nat} {o : Oper}

theorem Mid.dep (h : Mid l t0 ds0 Sv E J L a w) (n : Now l i o L) (j d : Nat) (hb : depB l i j = true) (hd : (l[j]?).bind (·.dst) = some d) : Sv j (a.tmps.getD d undef) := h.atL.dep n j d hb hd
theorem Mid.var (h : Mid l t0 ds0 Sv E J L a w) (n : Now l i o L) (s : Nat) (hb : oldB l i s = true) : a.tmps.getD s undef = t0.getD s undef := h.atL.var n s hb

/-- What a plain operation has to show: its value, whenever it comes up. -/
def PlainOb (P : Program) (l : List Oper) (t0 : Array Value) (ds0 : List Deferred) (Sv : Nat → Value → Prop) (E : List Nat) (J : List Bool → List Value → World → Prop) (i : Nat) (o : Oper) : Prop :=
  E.contains i = false ∧ ∀ (L : Array Bool) (a : Act) (w : World), Now l i o L → Mid l t0 ds0 Sv E J L a w → ∃ v, Sv i v ∧ (execOp a.eval o).run P w = .ok (.value v) w
/-- What one of the few has to show. -/
def FewOb (P : Program) (l : List Oper) (t0 : Array Value) (ds0 : List Deferred) (Sv : Nat → Value → Prop) (E : List Nat) (J : List Bool → List Value → World → Prop) (Q : Exit → Act → World → Prop) (i : Nat) (o : Oper) : Prop :=
  ∀ (L : Array Bool) (a : Act) (w : World), Now l i o L → Mid l t0 ds0 Sv E J L a w → ∀ K : Act → World → Prop,
    (∀ v w', Sv i v → J (E.map fun j => if j = i then true else L.getD j false) (E.map fun j => if j = i then (if o.dst = none then undef else v) else slotOf l j a.tmps) w' → K (a.put o.dst v) w') → Oper.wp P o a w K Q

theorem bits_few (h : Now l i o L) : bitsOf E (L.setIfInBounds i true) = E.map fun j => if j = i then true else L.getD j false := by
  unfold bitsOf
  apply List.map_congr_left
  intro j _
  have hi : i < L.size := by rw [h.size]; exact (List.getElem?_eq_some_iff.1 h.op).1
  by_cases e : j = i
  · rw [if_pos e, e]; exact getD_set_eq _ _ hi
  · rw [if_neg e]; exact getD_set_ne _ _ e
theorem slots_few (hu : dstsB l t0.size = true) (h : Now l i o L) (hs : a.tmps.size = t0.size) (v : Value) :
    slotsOf l E (a.put o.dst v).tmps = E.map fun j => if j = i then (if o.dst = none then undef else v) else slotOf l j a.tmps := by
  unfold slotsOf
  apply List.map_congr_left
  intro j _
  by_cases e : j = i
  · subst e
    rw [if_pos rfl]
    unfold slotOf
    rw [h.op]
    simp only [Option.bind_some]
    cases hd : o.dst with
    | none => simp
    | some d =>
      simp only [Act.put]
      rw [if_neg (by simp), getD_setV _ _ _ _ (by rw [hs]; exact (dstsB_spec hu h.op hd).1), if_pos rfl]
  · rw [if_neg e]
    unfold slotOf
    cases hj : l[j]? with
    | none => rfl
    | some oj =>
      simp only [Option.bind_some]
      cases hdj : oj.dst with
      | none => rfl
      | some d =>
        simp only
        cases hd : o.dst with
        | none => rfl
        | some d' =>
          simp only [Act.put]
          rw [getD_setV _ _ _ _ (by rw [hs]; exact (dstsB_spec hu h.op hd).1), if_neg (fun e' => e ((dstsB_spec hu h.op hd).2 j oj hj (by rw [hdj, e'])))]
theorem bits_plain (h : Now l i o L) (hE : E.contains i = false) : bitsOf E (L.setIfInBounds i true) = bitsOf E L := by
  rw [bits_few h]
  unfold bitsOf
  apply List.map_congr_left
  intro j hj
  have hji : j ≠ i := by
    intro hji
    rw [hji] at hj
    rw [List.contains_iff_mem.2 hj] at hE
    cases hE
  simp only [if_neg hji]
theorem slots_plain (hu : dstsB l t0.size = true) (h : Now l i o L) (hs : a.tmps.size = t0.size) (hE : E.contains i = false) (v : Value) : slotsOf l E (a.put o.dst v).tmps = slotsOf l E a.tmps := by
  rw [slots_few hu h hs]
  unfold slotsOf
  apply List.map_congr_left
  intro j hj
  have hji : j ≠ i := by
    intro hji
    rw [hji] at hj
    rw [List.contains_iff_mem.2 hj] at hE
    cases hE
  simp only [if_neg hji]
end

theorem putOps_other (V : Nat → Value) (d : Nat) : ∀ (l : List Oper) (k : Nat) (t : Array Value), (∀ o ∈ l, o.dst ≠ some d) → (putOps l k V t).getD d undef = t.getD d undef := by
  intro l
  induction l with
  | nil => intro k t _; rfl
  | cons o os ih =>
    intro k t h
    simp only [putOps]
    rw [ih _ _ fun o' ho' => h o' (List.mem_cons_of_mem _ ho')]
    cases hd : o.dst with
    | none => rfl
    | some d' =>
      have hne : d' ≠ d := fun e => h o (by simp) (by rw [hd, e])
      simp [Array.getD_eq_getD_getElem?, hne]
theorem putOps_slot (V : Nat → Value) (d : Nat) : ∀ (l : List Oper) (k i : Nat) (t : Array Value), d < t.size → (∀ (j : Nat) (oj : Oper), l[j]? = some oj → oj.dst = some d → j = i) → (l[i]?).bind (·.dst) = some d → (putOps l k V t).getD d undef = V (k + i) := by
  intro l
  induction l with
  | nil => intro k i t _ _ h; simp at h
  | cons o os ih =>
    intro k i t hs hu h
    simp only [putOps]
    cases i with
    | zero =>
      have hd : o.dst = some d := by simpa using h
      rw [putOps_other V d os _ _ fun o' ho' hd' => ?_]
      · rw [hd]
        simp only [Nat.add_zero]
        rw [getD_setV _ _ _ _ hs, if_pos rfl]
      · obtain ⟨j, hj⟩ := List.getElem?_of_mem ho'
        have := hu (j + 1) o' (by simpa using hj) hd'
        omega
    | succ i =>
      rw [ih (k + 1) i _ (by cases o.dst <;> simp [hs]) (fun j oj hj hdj => by have := hu (j + 1) oj (by simpa using hj) hdj; omega) (by simpa using h)]
      congr 1
      omega
/-- What the few leave in their slots. -/
def lastOf (l : List Oper) (V : Nat → Value) (i : Nat) : Value := if ((l[i]?).bind (·.dst)).isSome then V i else undef
theorem slots_last {l : List Oper} {t0 : Array Value} (hu : dstsB l t0.size = true) (E : List Nat) (V : Nat → Value) : slotsOf l E (putOps l 0 V t0) = E.map (lastOf l V) := by
  unfold slotsOf
  apply List.map_congr_left
  intro i _
  unfold slotOf lastOf
  cases hd : (l[i]?).bind (·.dst) with
  | none => simp
  | some d =>
    cases hi : l[i]? with
    | none => simp [hi] at hd
    | some o =>
      have hdo : o.dst = some d := by simpa [hi] using hd
      obtain ⟨h1, h2⟩ := dstsB_spec hu hi hdo
      simp only [Option.isSome_some, if_true]
      rw [putOps_slot V d l 0 i t0 h1 h2 hd, Nat.zero_add]

/-- THE RULE: E: the few; Sv: what each operation leaves; J: what the few keep, by which of them have been carried out, and by their slots. No operation is guarded. -/
theorem wp_region_vals {P : Program} {id : Nat} {l : List Oper} {Q : Exit → Act → World → Prop} {t0 : Array Value} {ds0 : List Deferred} {w : World}
    (E : List Nat) (Sv : Nat → Value → Prop) (J : List Bool → List Value → World → Prop)
    (hm : P.follows .mixedOrders = true) (hd : dagB l.toArray = true) (hu : dstsB l t0.size = true) (hg : (l.all fun o => o.guard.isNone) = true)
    (hE : (E.all fun i => decide (i < l.length)) = true) (hI0 : J (E.map fun _ => false) (slotsOf l E t0) w.drew)
    (obs : AllOps (fun i o => PlainOb P l t0 ds0 Sv E J i o ∨ FewOb P l t0 ds0 Sv E J Q i o) 0 l)
    (he : ∀ (V : Nat → Value) (w' : World), (∀ (i d : Nat), (l[i]?).bind (·.dst) = some d → Sv i (V i)) → J (E.map fun _ => true) (E.map (lastOf l V)) w' → Q .normal ⟨putOps l 0 V t0, ds0⟩ w') :
    (Code.region id l.toArray true).wp P Q ⟨t0, ds0⟩ w := by
  refine wp_region_specs (fun n v _ => Sv n v) (fun _ _ => True) (fun L a w => J (bitsOf E L) (slotsOf l E a.tmps) w) hm hd hu (fun _ => trivial) (fun _ _ _ _ _ => trivial) (fun _ _ _ _ _ h => h) ?_ ?_ ?_
  · have : bitsOf E (Array.replicate l.length false) = E.map fun _ => false := by
      unfold bitsOf
      apply List.map_congr_left
      intro j _
      simp only [Array.getD_eq_getD_getElem?, Array.getElem?_replicate]
      split <;> rfl
    show J (bitsOf E (Array.replicate l.length false)) _ _
    rw [this]; exact hI0
  · refine AllOps.mk l 0 fun i o ho => ?_
    rw [Nat.zero_add]
    have hob := AllOps.get l 0 obs i o ho
    rw [Nat.zero_add] at hob
    intro L a w1 n hAt K hK
    have hgo : o.guard = none := by
      have := List.all_eq_true.1 hg o (List.mem_of_getElem? ho)
      cases h : o.guard with
      | none => rfl
      | some _ => rw [h] at this; cases this
    have hw : Region.wanted o (yielded l.toArray a.tmps) = true := by simp [Region.wanted, hgo]
    rw [if_pos hw]
    have hMid : Mid l t0 ds0 Sv E J L a w1 := ⟨⟨hAt.defers, hAt.size, hAt.old, trivial, hAt.inv, hAt.spec⟩, hAt.inv⟩
    rcases hob with ⟨hE, hob⟩ | hob
    · obtain ⟨v, hv, hrun⟩ := hob L a w1 n hMid
      unfold Oper.wp
      rw [hrun]
      refine hK v w1 hv trivial ?_
      rw [bits_plain n hE, slots_plain hu n hAt.size hE]
      exact hAt.inv
    · refine hob L a w1 n hMid K fun v w' hv hJ => hK v w' hv trivial ?_
      rw [bits_few n, slots_few hu n hAt.size]
      exact hJ
  · intro V L w' hall hV _ hJ
    refine he V w' hV ?_
    have : bitsOf E L = E.map fun _ => true := by
      unfold bitsOf
      apply List.map_congr_left
      intro j hj
      exact hall j (of_decide_eq_true (List.all_eq_true.1 hE j hj))
    rw [← this, ← slots_last hu]; exact hJ

/-- An operation's guard: none, or one that holds. -/
def GOk (l : List Oper) (t0 : Array Value) (Sv : Nat → Value → Prop) (i : Nat) (o : Oper) : Prop :=
  o.guard = none ∨ ∃ (g : Nat) (b : Bool) (d : Nat), o.guard = some (g, b) ∧ depB l i g = true ∧ (l[g]?).bind (·.dst) = some d ∧ d < t0.size ∧ ∀ v, Sv g v → v = .bool b
/-- The same where operations are guarded and each guard holds. -/
theorem wp_region_valsG {P : Program} {id : Nat} {l : List Oper} {Q : Exit → Act → World → Prop} {t0 : Array Value} {ds0 : List Deferred} {w : World}
    (E : List Nat) (Sv : Nat → Value → Prop) (J : List Bool → List Value → World → Prop)
    (hm : P.follows .mixedOrders = true) (hd : dagB l.toArray = true) (hu : dstsB l t0.size = true)
    (hE : (E.all fun i => decide (i < l.length)) = true) (hI0 : J (E.map fun _ => false) (slotsOf l E t0) w.drew)
    (obs : AllOps (fun i o => GOk l t0 Sv i o ∧ (PlainOb P l t0 ds0 Sv E J i o ∨ FewOb P l t0 ds0 Sv E J Q i o)) 0 l)
    (he : ∀ (V : Nat → Value) (w' : World), (∀ (i d : Nat), (l[i]?).bind (·.dst) = some d → Sv i (V i)) → J (E.map fun _ => true) (E.map (lastOf l V)) w' → Q .normal ⟨putOps l 0 V t0, ds0⟩ w') :
    (Code.region id l.toArray true).wp P Q ⟨t0, ds0⟩ w := by
  refine wp_region_specs (fun n v _ => Sv n v) (fun _ _ => True) (fun L a w => J (bitsOf E L) (slotsOf l E a.tmps) w) hm hd hu (fun _ => trivial) (fun _ _ _ _ _ => trivial) (fun _ _ _ _ _ h => h) ?_ ?_ ?_
  · have : bitsOf E (Array.replicate l.length false) = E.map fun _ => false := by
      unfold bitsOf
      apply List.map_congr_left
      intro j _
      simp only [Array.getD_eq_getD_getElem?, Array.getElem?_replicate]
      split <;> rfl
    show J (bitsOf E (Array.replicate l.length false)) _ _
    rw [this]; exact hI0
  · refine AllOps.mk l 0 fun i o ho => ?_
    rw [Nat.zero_add]
    have hob := AllOps.get l 0 obs i o ho
    rw [Nat.zero_add] at hob
    intro L a w1 n hAt K hK
    have hMid0 : Mid l t0 ds0 Sv E J L a w1 := ⟨⟨hAt.defers, hAt.size, hAt.old, trivial, hAt.inv, hAt.spec⟩, hAt.inv⟩
    have hw : Region.wanted o (yielded l.toArray a.tmps) = true := by
      rcases hob.1 with hgo | ⟨g, b, d, hgo, hdep, hd, hs, hsv⟩
      · simp [Region.wanted, hgo]
      · exact hAt.wanted g b d hgo hd hs (hsv _ (hMid0.dep n g d hdep hd))
    replace hob := hob.2
    rw [if_pos hw]
    have hMid : Mid l t0 ds0 Sv E J L a w1 := ⟨⟨hAt.defers, hAt.size, hAt.old, trivial, hAt.inv, hAt.spec⟩, hAt.inv⟩
    rcases hob with ⟨hE, hob⟩ | hob
    · obtain ⟨v, hv, hrun⟩ := hob L a w1 n hMid
      unfold Oper.wp
      rw [hrun]
      refine hK v w1 hv trivial ?_
      rw [bits_plain n hE, slots_plain hu n hAt.size hE]
      exact hAt.inv
    · refine hob L a w1 n hMid K fun v w' hv hJ => hK v w' hv trivial ?_
      rw [bits_few n, slots_few hu n hAt.size]
      exact hJ
  · intro V L w' hall hV _ hJ
    refine he V w' hV ?_
    have : bitsOf E L = E.map fun _ => true := by
      unfold bitsOf
      apply List.map_congr_left
      intro j hj
      exact hall j (of_decide_eq_true (List.all_eq_true.1 hE j hj))
    rw [← this, ← slots_last hu]; exact hJ

/-! ### The values of plain operations -/
section
variable {P : Program} {o : Oper} {a : Act} {w : World} {v : Value}
theorem run_move (x : Operand) (ho : o.op = .move x) (hx : a.eval x = v) : (execOp a.eval o).run P w = .ok (.value v) w := by
  unfold execOp; simp only [ho, hx]; rfl
theorem run_assign (x : Operand) (ho : o.op = .assign x) (hx : a.eval x = v) : (execOp a.eval o).run P w = .ok (.value v) w := by
  unfold execOp; simp only [ho, hx]; rfl
theorem run_pick (c x y : Operand) (b : Bool) (ho : o.op = .pick c x y) (hc : a.eval c = .bool b) (hv : (if b then a.eval x else a.eval y) = v) : (execOp a.eval o).run P w = .ok (.value v) w := by
  unfold execOp
  simp only [ho, hc]
  cases b <;> simp at hv <;> simp [asBool, hv]
theorem run_pickT (c x y : Operand) (ho : o.op = .pick c x y) (hc : a.eval c = .bool true) (hv : a.eval x = v) : (execOp a.eval o).run P w = .ok (.value v) w := run_pick c x y true ho hc (by simpa using hv)
theorem run_pickF (c x y : Operand) (ho : o.op = .pick c x y) (hc : a.eval c = .bool false) (hv : a.eval y = v) : (execOp a.eval o).run P w = .ok (.value v) w := run_pick c x y false ho hc (by simpa using hv)
/-- 'x[:]' of an array. -/
theorem run_sliceAll (t : TypeId) (x : Operand) (n e : Nat) (g : Nat) (ho : o.op = .slice t x none none none) (hu : P.underlying t = some (.array n e)) (hs : ∀ w, (sizeOf e).run P w = .ok 1 w)
    (hx : a.eval x = .pointer (some ⟨g, 0, none⟩)) : (execOp a.eval o).run P w = .ok (.value (.slice (some ⟨g, 0, none⟩) n n)) w := by
  have hadd : (⟨g, 0, none⟩ : Addr).add 0 = ⟨g, 0, none⟩ := by unfold Addr.add; split <;> simp_all
  unfold execOp
  simp only [ho, hx, Option.map_none]
  simp [Instr.sliceAt, underlying, hu, Instr.sureAddr, Instr.sliceBounds, hs, hadd]
theorem run_indexA (t : TypeId) (x y : Operand) (n e : Nat) (g b i : Nat)
    (ho : o.op = .indexAddr t x y) (hu : P.underlying t = some (.array n e)) (hs : ∀ w, (sizeOf e).run P w = .ok 1 w) (hx : a.eval x = .pointer (some ⟨g, b, none⟩)) (hy : a.eval y = .int .i64 i) (hi : i < n) : (execOp a.eval o).run P w = .ok (.value (.pointer (some ⟨g, b + i, none⟩))) w := by
  unfold execOp
  simp only [ho, hx, hy]
  go_simp
theorem run_index0 (t : TypeId) (x y : Operand) (n e : Nat) (g i : Nat)
    (ho : o.op = .indexAddr t x y) (hu : P.underlying t = some (.array n e)) (hs : ∀ w, (sizeOf e).run P w = .ok 1 w) (hx : a.eval x = .pointer (some ⟨g, 0, none⟩)) (hy : a.eval y = .int .i64 i) (hi : i < n) : (execOp a.eval o).run P w = .ok (.value (.pointer (some ⟨g, i, none⟩))) w := by
  have := run_indexA (P := P) (o := o) (a := a) (w := w) t x y n e g 0 i ho hu hs hx hy hi
  rwa [Nat.zero_add] at this
/-- 'x[lo:]' of an array. -/
theorem run_sliceLo (t : TypeId) (x y : Operand) (n e : Nat) (g l : Nat) (ho : o.op = .slice t x (some y) none none) (hu : P.underlying t = some (.array n e)) (hs : ∀ w, (sizeOf e).run P w = .ok 1 w)
    (hx : a.eval x = .pointer (some ⟨g, 0, none⟩)) (hy : a.eval y = .int .i64 l) (hl : l < n) : (execOp a.eval o).run P w = .ok (.value (.slice (some ⟨g, l, none⟩) (n - l) (n - l))) w := by
  have h1 : (0 : Int) ≤ l := by omega
  have h2 : (l : Int) ≤ n := by omega
  have h3 : n ≠ l := by omega
  have hadd : (⟨g, 0, none⟩ : Addr).add l = ⟨g, l, none⟩ := by unfold Addr.add; split <;> simp_all
  unfold execOp
  simp only [ho, hx, hy, Option.map_some, Option.map_none]
  simp [Instr.sliceAt, underlying, hu, Instr.sureAddr, Instr.sliceBounds, Instr.sliceBound, asIntOf, hs, h1, h2, h3, hadd, show l ≤ n by omega]
theorem run_loadA (t : TypeId) (x : Operand) (p : Addr)
    (ho : o.op = .load t x) (ha : ∀ w, (isAgg t).run P w = .ok false w) (hx : a.eval x = .pointer (some p)) (hc : w.cell? p = some v) : (execOp a.eval o).run P w = .ok (.value v) w := by
  unfold execOp
  simp only [ho, hx]
  go_simp
theorem run_extractA (x : Operand) (k : Nat) (vs : Array Value) (ho : o.op = .extract x k) (hx : a.eval x = .tuple vs) (hk : vs[k]? = some v) : (execOp a.eval o).run P w = .ok (.value v) w := by
  unfold execOp
  simp only [ho, hx]
  go_simp
end
theorem st_assign {P : Program} {o : Oper} {a : Act} {w : World} {K : Act → World → Prop} {Q : Exit → Act → World → Prop} (x : Operand) (v : Value) (ho : o.op = .assign x) (hx : a.eval x = v) (hk : K (a.put o.dst v) w) : o.wp P a w K Q := by
  unfold Oper.wp
  rw [run_assign x ho hx]
  exact hk
/-- A call of a Go function. -/
theorem st_call {P : Program} {o : Oper} {a : Act} {w : World} {K : Act → World → Prop} {Q : Exit → Act → World → Prop} (f : FuncId) (args : Array Operand) (ats : Array TypeId) (vals : Array Value) (ho : o.op = .call { callee := .value (.func f), args := args, argTypes := ats }) (hf : ∀ (xs : Array Value) (w : World), (callFunc f xs).run P w = .ok (.enter f xs) w) (hv : args.map a.eval = vals)
    {R : Ending → World → Prop} (hc : Calls P f vals w R) (hk : ∀ e w', R e w' → ∃ v, e = .returned v ∧ K (a.put o.dst v) w') : o.wp P a w K Q := by
  unfold Oper.wp execOp
  simp only [ho, resolve, hv]
  go_simp
  refine hc.mono fun e w' h => ?_
  obtain ⟨v, rfl, h2⟩ := hk e w' h
  exact h2
end Go.Proofs.Ytaflmiopaiigbaa

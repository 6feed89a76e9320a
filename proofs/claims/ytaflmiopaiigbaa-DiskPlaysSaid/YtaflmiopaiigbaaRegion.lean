/-
  A region whose order of evaluation is open, walked once whatever the order: every operation has a specification of the value that it leaves; the specifications hang on no order.
  Plain theorems about the model's regions, over whatever program. Own work; nothing of the program is in it.
-/
import Derived.WalkKit
import Derived.Deep.Draws
namespace Go.Proofs.Ytaflmiopaiigbaa
set_option linter.unusedVariables false
set_option linter.unusedSimpArgs false
open Go.RowKit

/-- Each operation waits for earlier ones alone. -/
def dagB (ops : Array Oper) : Bool := (List.range ops.size).all fun i => ((ops[i]?).map fun o => o.after.all fun e => decide (e.on < i) || !Region.binds .any e).getD false

/-- What has been carried out is closed: with an operation all that it waits for. -/
def ClosedL (ops : Array Oper) (L : Array Bool) : Prop := ∀ (j : Nat) (o : Oper), ops[j]? = some o → L.getD j false = true → ∀ e, e ∈ o.after → Region.binds .any e = true → L.getD e.on false = true

theorem getD_set_ne {L : Array Bool} {i j : Nat} (b d : Bool) (h : j ≠ i) : (L.setIfInBounds i b).getD j d = L.getD j d := by
  simp [Array.getD_eq_getD_getElem?, Ne.symm h]

theorem getD_set_eq {L : Array Bool} {i : Nat} (b d : Bool) (h : i < L.size) : (L.setIfInBounds i b).getD i d = b := by
  simp [Array.getD_eq_getD_getElem?, h]

theorem ready_spec {ops : Array Oper} {L : Array Bool} {i : Nat} (h : i ∈ Region.ready .any ops L) :
    i < ops.size ∧ L.getD i true = false ∧ ∃ o, ops[i]? = some o ∧ ∀ e, e ∈ o.after → Region.binds .any e = true → L.getD e.on false = true := by
  simp only [Region.ready, List.mem_filter, List.mem_range, Bool.and_eq_true, Bool.not_eq_true'] at h
  obtain ⟨h1, h2, h3⟩ := h
  refine ⟨h1, h2, ops[i], Array.getElem?_eq_getElem h1, fun e he hb => ?_⟩
  simp only [Array.getElem?_eq_getElem h1, Option.map_some, Option.getD_some, Array.all_eq_true, Bool.or_eq_true, Bool.not_eq_true'] at h3
  obtain ⟨k, hk, rfl⟩ := Array.getElem_of_mem he
  rcases h3 k hk with h4 | h4
  · rw [hb] at h4; cases h4
  · exact h4

theorem all_of_ready {ops : Array Oper} {L : Array Bool} (hd : dagB ops = true) (hs : L.size = ops.size) (h : Region.ready .any ops L = []) : ∀ i, i < ops.size → L.getD i false = true := by
  intro i
  induction i using Nat.strongRecOn with
  | _ i ih =>
    intro hi
    rcases Bool.eq_false_or_eq_true (L.getD i true) with ht | hf
    · simp [Array.getD_eq_getD_getElem?, Array.getElem?_eq_getElem (show i < L.size by omega)] at ht ⊢
      exact ht
    · exfalso
      have hm : i ∈ Region.ready .any ops L := by
        simp only [Region.ready, List.mem_filter, List.mem_range, Bool.and_eq_true, Bool.not_eq_true']
        refine ⟨hi, hf, ?_⟩
        simp only [dagB, List.all_eq_true, List.mem_range] at hd
        have hdi := hd i hi
        simp only [Array.getElem?_eq_getElem hi, Option.map_some, Option.getD_some, Array.all_eq_true, decide_eq_true_eq, Bool.or_eq_true] at hdi ⊢
        intro k hk
        rcases hdi k hk with h1 | h1
        · exact .inr (ih _ h1 (by omega))
        · exact .inl h1
      rw [h] at hm
      cases hm

/-- THE RULE: an invariant over what has been carried out. -/
theorem wp_region_inv {P : Program} {id : Nat} {ops : Array Oper} {Q : Exit → Act → World → Prop} {a : Act} {w : World} (hm : P.follows .mixedOrders = true) (hd : dagB ops = true)
    (Inv : Array Bool → Act → World → Prop) (h0 : Inv (Array.replicate ops.size false) a w.drew)
    (hs : ∀ (i : Nat) (o : Oper), ops[i]? = some o → ∀ (L : Array Bool) (a : Act) (w : World), L.size = ops.size → ClosedL ops L → L.getD i false = false → (∀ e, e ∈ o.after → Region.binds .any e = true → L.getD e.on false = true) → Inv L a w →
      ∀ K : Act → World → Prop, (∀ a w, Inv (L.setIfInBounds i true) a w → K a w) → if Region.wanted o (yielded ops a.tmps) = true then Oper.wp P o a w K Q else K (a.put o.dst undef) w)
    (he : ∀ (L : Array Bool) (a : Act) (w : World), (∀ i, i < ops.size → L.getD i false = true) → Inv L a w → Q .normal a w) : (Code.region id ops true).wp P Q a w := by
  refine wp_region_any hm ?_
  change wpAny P .any ops Q ops.size (Array.replicate ops.size false) a w.drew
  have key : ∀ (fuel : Nat) (L : Array Bool) (a : Act) (w : World), L.size = ops.size → ClosedL ops L → (L.toList.filter (! ·)).length ≤ fuel → Inv L a w → wpAny P .any ops Q fuel L a w := by
    intro fuel
    induction fuel with
    | zero =>
      intro L a w hL _ hc hI
      have hall : ∀ i, i < ops.size → L.getD i false = true := by
        intro i hi
        have hnil : L.toList.filter (! ·) = [] := List.eq_nil_of_length_eq_zero (by omega)
        rw [List.filter_eq_nil_iff] at hnil
        have := hnil L[i] (by simp)
        simp only [Array.getD_eq_getD_getElem?, Array.getElem?_eq_getElem (show i < L.size by omega), Option.getD_some]
        simpa using this
      refine ⟨?_, he L a w hall hI⟩
      apply List.eq_nil_iff_forall_not_mem.2
      intro i hi
      obtain ⟨h1, h2, _⟩ := ready_spec hi
      have := hall i h1
      simp only [Array.getD_eq_getD_getElem?, Array.getElem?_eq_getElem (show i < L.size by omega), Option.getD_some] at this h2
      rw [this] at h2; cases h2
    | succ fuel ih =>
      intro L a w hL hcl hc hI
      refine ⟨fun hr => he L a w (all_of_ready hd hL hr) hI, fun i hi => ?_⟩
      obtain ⟨h1, h2, o, ho, haf⟩ := ready_spec hi
      have hif : L.getD i false = false := by
        simp only [Array.getD_eq_getD_getElem?, Array.getElem?_eq_getElem (show i < L.size by omega), Option.getD_some] at h2 ⊢; exact h2
      refine wpOp_step ho fun K' hK' => hs i o ho L a w hL hcl hif haf hI K' fun a' w' hI' => hK' a' w' (ih _ a' w' (by simpa using hL) ?_ ?_ hI')
      · intro j oj hoj hj e hej heb
        by_cases hji : j = i
        · subst hji
          rw [ho] at hoj
          injection hoj with hoj
          subst hoj
          by_cases hei : e.on = j
          · rw [hei]; exact getD_set_eq _ _ (by omega)
          · rw [getD_set_ne _ _ hei]; exact haf e hej heb
        · rw [getD_set_ne _ _ hji] at hj
          by_cases hei : e.on = i
          · rw [hei]; exact getD_set_eq _ _ (by omega)
          · rw [getD_set_ne _ _ hei]; exact hcl j oj hoj hj e hej heb
      · have hlt : i < L.toList.length := by simpa using (show i < L.size by omega)
        have hLi : L.toList[i] = false := by
          simp only [Array.getD_eq_getD_getElem?, Array.getElem?_eq_getElem (show i < L.size by omega), Option.getD_some] at hif
          simpa using hif
        have e1 : L.toList = L.toList.take i ++ L.toList[i] :: L.toList.drop (i + 1) := by rw [← List.drop_eq_getElem_cons hlt, List.take_append_drop]
        have e2 : (L.setIfInBounds i true).toList = L.toList.take i ++ true :: L.toList.drop (i + 1) := by
          rw [Array.toList_setIfInBounds, List.set_eq_take_append_cons_drop, if_pos hlt]
        rw [e1, hLi] at hc
        rw [e2]
        simp only [List.filter_append, List.length_append, List.filter_cons, Bool.not_false, Bool.not_true, if_true, List.length_cons] at hc ⊢
        simp
        omega
  refine key _ _ a _ (by simp) ?_ ?_ h0
  · intro j o _ hj
    simp [Array.getD_eq_getD_getElem?, Array.getElem?_replicate] at hj
    split at hj <;> simp at hj
  · simp

/-! ### What must have been carried out ahead of an operation, reckoned by the kernel on numbers' bits -/

def maskOf (after : Array Edge) : Nat := after.toList.foldl (fun m e => if Region.binds .any e then m ||| 2 ^ e.on else m) 0

def sweep (l : List Oper) : Nat → Nat → Nat
  | 0, M => M
  | k + 1, M => sweep l k (if M.testBit k then M ||| ((l[k]?).map fun o => maskOf o.after).getD 0 else M)

/-- Operation j is carried out ahead of operation i. -/
def depB (l : List Oper) (i j : Nat) : Bool := (sweep l i (((l[i]?).map fun o => maskOf o.after).getD 0)).testBit j

/-- Operation j is carried out behind operation i, or is it. -/
def laterB (l : List Oper) (i j : Nat) : Bool := (sweep l (j + 1) (2 ^ j)).testBit i

/-- No operation that may come ahead of operation i writes slot s. -/
def oldB (l : List Oper) (i s : Nat) : Bool := (List.range l.length).all fun j => ((l[j]?).map fun o => o.dst != some s || laterB l i j).getD true

theorem maskOf_bit {after : Array Edge} {m : Nat} (h : (maskOf after).testBit m = true) : ∃ e, e ∈ after ∧ Region.binds .any e = true ∧ e.on = m := by
  have key : ∀ (l : List Edge) (acc : Nat), (l.foldl (fun m e => if Region.binds .any e then m ||| 2 ^ e.on else m) acc).testBit m = true → acc.testBit m = true ∨ ∃ e, e ∈ l ∧ Region.binds .any e = true ∧ e.on = m := by
    intro l
    induction l with
    | nil => intro acc h; exact .inl h
    | cons e l ih =>
      intro acc h
      simp only [List.foldl_cons] at h
      rcases ih _ h with h | ⟨e', he, hb, ho⟩
      · by_cases hb : Region.binds .any e = true
        · rw [if_pos hb, Nat.testBit_or, Bool.or_eq_true] at h
          rcases h with h | h
          · exact .inl h
          · rw [Nat.testBit_two_pow] at h
            exact .inr ⟨e, by simp, hb, of_decide_eq_true h⟩
        · rw [if_neg hb] at h; exact .inl h
      · exact .inr ⟨e', List.mem_cons_of_mem _ he, hb, ho⟩
  rcases key after.toList 0 h with h | ⟨e, he, hb, ho⟩
  · simp at h
  · exact ⟨e, Array.mem_toList_iff.1 he, hb, ho⟩

theorem sweep_closed {l : List Oper} {L : Array Bool} (hc : ClosedL l.toArray L) : ∀ (k M : Nat), (∀ m, M.testBit m = true → L.getD m false = true) → ∀ m, (sweep l k M).testBit m = true → L.getD m false = true := by
  intro k
  induction k with
  | zero => intro M h; exact h
  | succ k ih =>
    intro M h
    refine ih _ fun m hm => ?_
    by_cases hk : M.testBit k = true
    · rw [if_pos hk, Nat.testBit_or, Bool.or_eq_true] at hm
      rcases hm with hm | hm
      · exact h m hm
      · cases ho : l[k]? with
        | none => simp [ho] at hm
        | some o =>
          simp only [ho, Option.map_some, Option.getD_some] at hm
          obtain ⟨e, he, hb, rfl⟩ := maskOf_bit hm
          exact hc k o (by simpa using ho) (h k hk) e he hb
    · rw [if_neg hk] at hm; exact h m hm

/-- Where operation i stands when it is carried out. -/
structure Now (l : List Oper) (i : Nat) (o : Oper) (L : Array Bool) : Prop where
  size : L.size = l.length
  op : l[i]? = some o
  closed : ClosedL l.toArray L
  not_yet : L.getD i false = false
  after : ∀ e, e ∈ o.after → Region.binds .any e = true → L.getD e.on false = true

section
variable {l : List Oper} {i : Nat} {o : Oper} {L : Array Bool}
theorem Now.dep (h : Now l i o L) {j : Nat} (hb : depB l i j = true) : L.getD j false = true := by
  refine sweep_closed h.closed _ _ (fun m hm => ?_) j hb
  simp only [h.op, Option.map_some, Option.getD_some] at hm
  obtain ⟨e, he, hb, rfl⟩ := maskOf_bit hm
  exact h.after e he hb
theorem Now.later (h : Now l i o L) {j : Nat} (hb : laterB l i j = true) : L.getD j false = false := by
  cases hj : L.getD j false with
  | false => rfl
  | true =>
    have := sweep_closed h.closed (j + 1) (2 ^ j) (fun m hm => by rw [Nat.testBit_two_pow] at hm; rw [← of_decide_eq_true hm]; exact hj) i hb
    rw [h.not_yet] at this; cases this
end

/-- What holds in the middle of the region. -/
structure At (l : List Oper) (t0 : Array Value) (ds0 : List Deferred) (S : Nat → Value → World → Prop) (R : World → World → Prop) (I : Array Bool → Act → World → Prop) (w0 : World) (L : Array Bool) (a : Act) (w : World) : Prop where
  defers : a.defers = ds0
  size : a.tmps.size = t0.size
  old : ∀ s, (∀ (j : Nat) (o : Oper), l[j]? = some o → L.getD j false = true → o.dst ≠ some s) → a.tmps.getD s undef = t0.getD s undef
  rel : R w0 w
  inv : I L a w
  spec : ∀ (j : Nat) (o : Oper) (d : Tmp), l[j]? = some o → L.getD j false = true → o.dst = some d → S j (a.tmps.getD d undef) w

section
variable {l : List Oper} {t0 : Array Value} {ds0 : List Deferred} {S : Nat → Value → World → Prop} {R : World → World → Prop} {I : Array Bool → Act → World → Prop} {w0 : World} {L : Array Bool} {a : Act} {w : World} {i : Nat} {o : Oper}

/-- What an operation carried out ahead has left. -/
theorem At.dep (h : At l t0 ds0 S R I w0 L a w) (n : Now l i o L) (j d : Nat) (hb : depB l i j = true) (hd : (l[j]?).bind (·.dst) = some d) : S j (a.tmps.getD d undef) w := by
  cases hj : l[j]? with
  | none => simp [hj] at hd
  | some oj => exact h.spec j oj d hj (n.dep hb) (by simpa [hj] using hd)

/-- A slot that nobody has written yet. -/
theorem At.var (h : At l t0 ds0 S R I w0 L a w) (n : Now l i o L) (s : Nat) (hb : oldB l i s = true) : a.tmps.getD s undef = t0.getD s undef := by
  refine h.old s fun j oj hj hl hd => ?_
  simp only [oldB, List.all_eq_true, List.mem_range] at hb
  have hlt : j < l.length := (List.getElem?_eq_some_iff.1 hj).1
  have := hb j hlt
  simp only [hj, Option.map_some, Option.getD_some, Bool.or_eq_true, bne_iff_ne, ne_eq] at this
  rcases this with h1 | h1
  · exact h1 hd
  · rw [n.later h1] at hl; cases hl

/-- A guard. -/
theorem At.wanted (h : At l t0 ds0 S R I w0 L a w) (g : Nat) (b : Bool) (d : Nat) (ho : o.guard = some (g, b)) (hd : (l[g]?).bind (·.dst) = some d) (hs : d < t0.size) (hv : a.tmps.getD d undef = .bool b) :
    Region.wanted o (yielded l.toArray a.tmps) = true := by
  have hlt : d < a.tmps.size := by rw [h.size]; exact hs
  have hv' : a.tmps[d]? = some (.bool b) := by
    simp only [Array.getD_eq_getD_getElem?, Array.getElem?_eq_getElem hlt, Option.getD_some] at hv
    rw [Array.getElem?_eq_getElem hlt, hv]
  simp [Region.wanted, ho, yielded, hd, hv']
end

def AllOps (Pr : Nat → Oper → Prop) : Nat → List Oper → Prop
  | _, [] => True
  | k, o :: os => Pr k o ∧ AllOps Pr (k + 1) os

theorem AllOps.nil_ {Pr : Nat → Oper → Prop} {k : Nat} : AllOps Pr k [] := trivial
theorem AllOps.cons_ {Pr : Nat → Oper → Prop} {k : Nat} {o : Oper} {os : List Oper} (h : Pr k o) (t : AllOps Pr (k + 1) os) : AllOps Pr k (o :: os) := ⟨h, t⟩
theorem AllOps.get {Pr : Nat → Oper → Prop} : ∀ (l : List Oper) (k : Nat), AllOps Pr k l → ∀ (i : Nat) (o : Oper), l[i]? = some o → Pr (k + i) o := by
  intro l
  induction l with
  | nil => intro k _ i o h; simp at h
  | cons x l ih =>
    intro k hall i o h
    obtain ⟨h1, h2⟩ := hall
    cases i with
    | zero => simp at h; subst h; exact h1
    | succ i =>
      have := ih (k + 1) h2 i o (by simpa using h)
      rw [show k + (i + 1) = k + 1 + i from by omega]
      exact this
theorem AllOps.mk {Pr : Nat → Oper → Prop} : ∀ (l : List Oper) (k : Nat), (∀ (i : Nat) (o : Oper), l[i]? = some o → Pr (k + i) o) → AllOps Pr k l := by
  intro l
  induction l with
  | nil => intro k _; trivial
  | cons x l ih =>
    intro k h
    refine ⟨by simpa using h 0 x rfl, ih (k + 1) fun i o ho => ?_⟩
    have := h (i + 1) o (by simpa using ho)
    rwa [show k + (i + 1) = k + 1 + i from by omega] at this

/-- The slots behind the region. -/
def putOps : List Oper → Nat → (Nat → Value) → Array Value → Array Value
  | [], _, _, t => t
  | o :: os, k, V, t => putOps os (k + 1) V (match o.dst with | some d => t.setIfInBounds d (V k) | none => t)

theorem getD_setV (t : Array Value) (d s : Nat) (v : Value) (h : d < t.size) : (t.setIfInBounds d v).getD s undef = if d = s then v else t.getD s undef := by
  simp only [Array.getD_eq_getD_getElem?, Array.getElem?_setIfInBounds]
  by_cases hds : d = s
  · subst hds; simp [h]
  · simp [hds]

theorem putOps_eq (t1 : Array Value) (V : Nat → Value) : ∀ (l : List Oper) (k : Nat) (t : Array Value), t.size = t1.size → (∀ (i : Nat) (o : Oper) (d : Tmp), l[i]? = some o → o.dst = some d → d < t1.size ∧ V (k + i) = t1.getD d undef) →
    (∀ s, (∀ o ∈ l, o.dst ≠ some s) → t.getD s undef = t1.getD s undef) → putOps l k V t = t1 := by
  intro l
  induction l with
  | nil =>
    intro k t hs _ h
    simp only [putOps]
    refine Array.ext hs fun i h1 h2 => ?_
    have := h i (by simp)
    simpa [Array.getD_eq_getD_getElem?, Array.getElem?_eq_getElem h1, Array.getElem?_eq_getElem h2] using this
  | cons o os ih =>
    intro k t hs hV h
    simp only [putOps]
    refine ih (k + 1) _ ?_ (fun i o' d ho hd => ?_) fun s hno => ?_
    · cases o.dst <;> simp [hs]
    · have := hV (i + 1) o' d (by simpa using ho) hd
      rwa [show k + (i + 1) = k + 1 + i from by omega] at this
    · cases hd : o.dst with
      | none => exact h s fun o' ho' => by rcases List.mem_cons.1 ho' with rfl | h'; (· rw [hd]; simp); exact hno o' h'
      | some d =>
        obtain ⟨hlt, hv⟩ := hV 0 o d (by simp) hd
        simp only
        rw [getD_setV _ _ _ _ (by rw [hs]; exact hlt)]
        by_cases hds : d = s
        · subst hds; rw [if_pos rfl]; simpa using hv
        · rw [if_neg hds]
          refine h s fun o' ho' => ?_
          rcases List.mem_cons.1 ho' with rfl | h'
          · rw [hd]; intro hc; injection hc with hc; exact hds hc
          · exact hno o' h'

/-- No two operations write one slot; all slots are there. -/
def dstsB (l : List Oper) (n : Nat) : Bool := (List.range l.length).all fun i => ((l[i]?).bind (·.dst)).all fun d => decide (d < n) && (List.range l.length).all fun j => j == i || ((l[j]?).bind (·.dst)) != some d

theorem dstsB_spec {l : List Oper} {n : Nat} (h : dstsB l n = true) {i : Nat} {o : Oper} {d : Tmp} (ho : l[i]? = some o) (hd : o.dst = some d) : d < n ∧ ∀ (j : Nat) (oj : Oper), l[j]? = some oj → oj.dst = some d → j = i := by
  simp only [dstsB, List.all_eq_true, List.mem_range] at h
  have hi : i < l.length := (List.getElem?_eq_some_iff.1 ho).1
  have h1 := h i hi
  simp only [ho, Option.bind_some, hd, Option.all_some, Bool.and_eq_true, decide_eq_true_eq, List.all_eq_true, List.mem_range, Bool.or_eq_true, beq_iff_eq, bne_iff_ne, ne_eq] at h1
  refine ⟨h1.1, fun j oj hj hdj => ?_⟩
  rcases h1.2 j (List.getElem?_eq_some_iff.1 hj).1 with h2 | h2
  · exact h2
  · exact absurd (by simp [hj, hdj]) h2

/-- THE RULE BY SPECIFICATIONS. S: what each operation leaves; R: what may befall memory; I: of memory that is written, by how far the region has come. -/
theorem wp_region_specs {P : Program} {id : Nat} {l : List Oper} {Q : Exit → Act → World → Prop} {t0 : Array Value} {ds0 : List Deferred} {w : World}
    (S : Nat → Value → World → Prop) (R : World → World → Prop) (I : Array Bool → Act → World → Prop)
    (hm : P.follows .mixedOrders = true) (hd : dagB l.toArray = true) (hu : dstsB l t0.size = true)
    (hR0 : ∀ w, R w w) (hRt : ∀ a b c, R a b → R b c → R a c) (hS : ∀ j v w w', R w w' → S j v w → S j v w') (hI0 : I (Array.replicate l.length false) ⟨t0, ds0⟩ w.drew)
    (obs : AllOps (fun i o => ∀ (L : Array Bool) (a : Act) (w1 : World), Now l i o L → At l t0 ds0 S R I w.drew L a w1 → ∀ K : Act → World → Prop, (∀ v w', S i v w' → R w1 w' → I (L.setIfInBounds i true) (a.put o.dst v) w' → K (a.put o.dst v) w') →
      if Region.wanted o (yielded l.toArray a.tmps) = true then Oper.wp P o a w1 K Q else K (a.put o.dst undef) w1) 0 l)
    (he : ∀ (V : Nat → Value) (L : Array Bool) (w' : World), (∀ i, i < l.length → L.getD i false = true) → (∀ (i d : Nat), (l[i]?).bind (·.dst) = some d → S i (V i) w') → R w.drew w' → I L ⟨putOps l 0 V t0, ds0⟩ w' → Q .normal ⟨putOps l 0 V t0, ds0⟩ w') :
    (Code.region id l.toArray true).wp P Q ⟨t0, ds0⟩ w := by
  refine wp_region_inv hm hd (At l t0 ds0 S R I w.drew) ⟨rfl, rfl, fun _ _ => rfl, hR0 _, by simpa using hI0, fun j o d _ hL _ => ?_⟩ ?_ ?_
  · simp [Array.getD_eq_getD_getElem?, Array.getElem?_replicate] at hL
    split at hL <;> simp at hL
  · intro i o ho L a w1 hsz hcl hif haf hAt K hK
    have ho' : l[i]? = some o := by simpa using ho
    have hi : i < l.length := (List.getElem?_eq_some_iff.1 ho').1
    have hn : Now l i o L := ⟨by simpa using hsz, ho', hcl, hif, haf⟩
    have hob := AllOps.get l 0 obs i o ho'
    rw [Nat.zero_add] at hob
    refine hob L a w1 hn hAt K fun v w' hv hr hi' => hK _ _ ?_
    have hset : ∀ j, j ≠ i → (L.setIfInBounds i true).getD j false = L.getD j false := fun j hj => getD_set_ne _ _ hj
    refine ⟨?_, ?_, fun s hno => ?_, hRt _ _ _ hAt.rel hr, hi', fun j oj d hj hL hdj => ?_⟩
    · cases o.dst <;> exact hAt.defers
    · cases o.dst <;> simp [Act.put, hAt.size]
    · have hold : a.tmps.getD s undef = t0.getD s undef := hAt.old s fun j oj hj hL => hno j oj hj (by
        by_cases hji : j = i
        · subst hji; exact getD_set_eq _ _ (by rw [hn.size]; exact hi)
        · rw [hset j hji]; exact hL)
      have hne := hno i o ho' (getD_set_eq _ _ (by rw [hn.size]; exact hi))
      cases hdo : o.dst with
      | none => simpa [Act.put] using hold
      | some d =>
        simp only [Act.put]
        rw [getD_setV _ _ _ _ (by rw [hAt.size]; exact (dstsB_spec hu ho' hdo).1), if_neg (fun e => hne (by rw [hdo, e]))]
        exact hold
    · by_cases hji : j = i
      · subst hji
        rw [ho'] at hj
        injection hj with hj
        subst hj
        rw [hdj]
        simp only [Act.put]
        rw [getD_setV _ _ _ _ (by rw [hAt.size]; exact (dstsB_spec hu ho' hdj).1), if_pos rfl]
        exact hv
      · rw [hset j hji] at hL
        have h1 := hS _ _ _ _ hr (hAt.spec j oj d hj hL hdj)
        cases hdo : o.dst with
        | none => simpa [Act.put] using h1
        | some d' =>
          simp only [Act.put]
          rw [getD_setV _ _ _ _ (by rw [hAt.size]; exact (dstsB_spec hu ho' hdo).1), if_neg (fun e => hji ((dstsB_spec hu ho' hdo).2 j oj hj (by rw [hdj, e])))]
          exact h1
  · intro L a w1 hL hAt
    have hput := putOps_eq a.tmps (fun i => match (l[i]?).bind (·.dst) with | some d => a.tmps.getD d undef | none => undef) l 0 t0 hAt.size.symm (fun i o d ho hdo => ⟨by rw [hAt.size]; exact (dstsB_spec hu ho hdo).1, by simp [ho, hdo]⟩) (fun s hno => (hAt.old s fun j o hj _ => hno o (List.mem_of_getElem? hj)).symm)
    have ha : (⟨putOps l 0 (fun i => match (l[i]?).bind (·.dst) with | some d => a.tmps.getD d undef | none => undef) t0, ds0⟩ : Act) = a := by
      rw [hput, ← hAt.defers]
    have hV := he (fun i => match (l[i]?).bind (·.dst) with | some d => a.tmps.getD d undef | none => undef) L w1 (by simpa using hL) (fun i d hid => by
      simp only [hid]
      cases hi : l[i]? with
      | none => simp [hi] at hid
      | some o => exact hAt.spec i o d hi (hL i (by simpa using (List.getElem?_eq_some_iff.1 hi).1)) (by simpa [hi] using hid)) hAt.rel (by rw [ha]; exact hAt.inv)
    rw [ha] at hV
    exact hV

end Go.Proofs.Ytaflmiopaiigbaa

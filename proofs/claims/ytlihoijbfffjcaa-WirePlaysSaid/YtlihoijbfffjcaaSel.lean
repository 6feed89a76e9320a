/-
  A select of one case with a default, in the middle of a walk: functions that are called as ordinary ones (kind 'normal'). Plain theorems over whatever program. Own work.
-/
import Derived.Test.YtlihoijbfffjcaaSkip
import Derived.Conc.LoneSelect
import Derived.Conc.LoneSelectN
namespace Go.Proofs.Ytlihoijbfffjcaa
set_option linter.unusedVariables false
set_option linter.unusedSimpArgs false
open Go.RowKit Go.Conc
/-- As 'wp', in frames of ordinary calls. -/
def wpN (P : Program) (c : Code) (Q : Exit → Act → World → Prop) (a : Act) (w : World) : Prop :=
  ∀ (b : Frame) (k : List Item) (cs : List Frame), b.kind = .normal → ∃ e a' w', Q e a' w' ∧ Arrives P (lone (b.at a (.code c :: k)) cs w) b k cs e a' w'
section
variable {P : Program} {Q : Exit → Act → World → Prop} {a : Act} {w : World}
theorem wpN_of {c : Code} (h : c.wp P Q a w) : wpN P c Q a w := fun b k cs _ => h b k cs
theorem wpN_seq {x y : Code} (h : wpN P x (Exit.then (fun a w => wpN P y Q a w) Q) a w) : wpN P (.seq x y) Q a w := by
  intro b k cs hb
  obtain ⟨e, a1, w1, hq, har⟩ := h b (.code y :: k) cs hb
  have go : ∀ e, e ≠ .normal → Q e a1 w1 → Arrives P (lone (b.at a (.code x :: .code y :: k)) cs w) b (.code y :: k) cs e a1 w1 → ∃ e a' w', Q e a' w' ∧ Arrives P (lone (b.at a (.code (.seq x y) :: k)) cs w) b k cs e a' w' :=
    fun e hne hq har => ⟨e, a1, w1, hq, .of_steps (.one step_seq) (.pass (x := .code y) rfl (fun _ _ => .inl hne) har)⟩
  cases e with
  | normal =>
    obtain ⟨e2, a2, w2, hq2, har2⟩ := hq b k cs hb
    exact ⟨e2, a2, w2, hq2, .of_steps (.head step_seq har) har2⟩
  | exit id => exact go _ (by simp) hq har
  | goto l => exact go _ (by simp) hq har
  | ret => exact go _ (by simp) hq har
  | panic ch => exact go _ (by simp) hq har
  | outgrown => exact go _ (by simp) hq har
/-- The first part is an ordinary walk. -/
theorem wpN_seq1 {x y : Code} (h : x.wp P (Exit.then (fun a w => wpN P y Q a w) Q) a w) : wpN P (.seq x y) Q a w := wpN_seq (wpN_of h)
/-- The last part is an ordinary walk. -/
theorem wpN_seq2 {x y : Code} (h : wpN P x (Exit.then (fun a w => y.wp P Q a w) Q) a w) : wpN P (.seq x y) Q a w := by
  refine wpN_seq ?_
  intro b k cs hb
  obtain ⟨e, a1, w1, hq, har⟩ := h b k cs hb
  refine ⟨e, a1, w1, ?_, har⟩
  cases e with
  | normal => exact wpN_of hq
  | exit id => exact hq
  | goto l => exact hq
  | ret => exact hq
  | panic ch => exact hq
  | outgrown => exact hq
theorem wpN_cond {c : Operand} {x y : Code} (t : Bool) (hc : a.eval c = .bool t) (h : wpN P (if t then x else y) Q a w) : wpN P (.cond c x y) Q a w :=
  fun b k cs hb => let ⟨e, a', w', q, r⟩ := h b k cs hb; ⟨e, a', w', q, .of_steps (.one (step_cond hc)) r⟩
/-- A region whose first operation communicates. -/
theorem wpN_region_comm {id : Nat} {o : Oper} {l : List Oper} {w' : World} (v : Value)
    (hs : ∀ (b : Frame) (k : List Item) (cs : List Frame), b.kind = .normal → step P (lone (b.at a (.inRegion (o :: l).toArray (0 :: List.range' 1 l.length) :: k)) cs w) = .next (lone ((b.at a (.inRegion (o :: l).toArray (0 :: List.range' 1 l.length) :: k)).finish v) cs w'))
    (h : wpList P (o :: l).toArray Q l (a.put o.dst v) w') : wpN P (.region id (o :: l).toArray false) Q a w := by
  intro b k cs hb
  have hl := wpOps_eq_wpList (P := P) (ops := (o :: l).toArray) (Q := Q) l 1 (fun j => by simp [Nat.add_comm 1 j])
  have h' : wpOps P (o :: l).toArray Q (List.range' 1 l.length) (a.put o.dst v) w' := by rw [hl]; exact h
  obtain ⟨e, a2, w2, hq, har⟩ := wp_ops _ _ _ h' b k cs
  refine ⟨e, a2, w2, hq, .of_steps (.head step_region (.one ?_)) har⟩
  have hr : List.range (o :: l).toArray.size = 0 :: List.range' 1 l.length := by
    rw [List.size_toArray, List.length_cons, List.range_eq_range', List.range'_succ]
  rw [hr, hs b k cs hb, Frame.finish_at]
  rfl
theorem wpN_recv {id : Nat} {o : Oper} {l : List Oper} {c cap s r : Nat} {buf : Array Value} {z : Value} {tm closed : Bool} (hg : o.guard = none)
    (hr : (execOp a.eval o).run P w = .ok (.comm #[rcase c z] false .select) w) (hc : w.heap[c]? = some (.chan cap buf closed s r tm)) (hsome : 0 < buf.size)
    (h : wpList P (o :: l).toArray Q l (a.put o.dst (.tuple #[goInt 0, .bool true, buf.getD 0 undef])) (w.setChan c cap (buf.extract 1 buf.size) closed s (r + 1) tm)) : wpN P (.region id (o :: l).toArray false) Q a w := by
  refine wpN_region_comm _ (fun b k cs hb => ?_) h
  exact step_lone_select_recv_buf (stepG_comm (by rfl) (by simp [Region.wanted, hg]) (by rw [hb]; decide) hr) hc hsome
theorem wpN_recv_default {id : Nat} {o : Oper} {l : List Oper} {c cap s r : Nat} {z : Value} {tm : Bool} (hg : o.guard = none)
    (hr : (execOp a.eval o).run P w = .ok (.comm #[rcase c z] false .select) w) (hc : w.heap[c]? = some (.chan cap #[] false s r tm))
    (h : wpList P (o :: l).toArray Q l (a.put o.dst (.tuple #[goInt (-1), .bool false, z])) w) : wpN P (.region id (o :: l).toArray false) Q a w := by
  refine wpN_region_comm _ (fun b k cs hb => ?_) h
  exact step_lone_select_default (stepG_comm (by rfl) (by simp [Region.wanted, hg]) (by rw [hb]; decide) hr) hc
theorem wpN_send {id : Nat} {o : Oper} {l : List Oper} {c cap s r : Nat} {buf : Array Value} {v z : Value} {tm : Bool} (hg : o.guard = none)
    (hr : (execOp a.eval o).run P w = .ok (.comm #[scase c v z] false .select) w) (hc : w.heap[c]? = some (.chan cap buf false s r tm)) (hroom : buf.size < cap)
    (h : wpList P (o :: l).toArray Q l (a.put o.dst (.tuple #[goInt 0, .bool false])) (w.setChan c cap (buf.push v) false (s + 1) r tm)) : wpN P (.region id (o :: l).toArray false) Q a w := by
  refine wpN_region_comm _ (fun b k cs hb => ?_) h
  exact step_lone_select_send_room (stepG_comm (by rfl) (by simp [Region.wanted, hg]) (by rw [hb]; decide) hr) hc hroom
end
/-- From the body to the call. -/
theorem calls_of_wpN {P : Program} {f : FuncId} {fn : Func} {c : Code} {args : Array Value} {w : World} {R : Ending → World → Prop} (hf : P.funcs[f]? = some fn) (hb : fn.body = some c)
    (h : wpN P c (bodyPost P fn R) { tmps := args ++ Array.replicate (fn.ntmps - args.size) undef, defers := [] } w) : Calls P f args w R := by
  intro cs
  obtain ⟨b, hbn, hbk⟩ : ∃ b : Frame, b.fn = f ∧ b.kind = .normal := ⟨{ (default : Frame) with fn := f, kind := .normal }, rfl, rfl⟩
  have hen : Frame.enter P f args .normal = b.at { tmps := args ++ Array.replicate (fn.ntmps - args.size) undef, defers := [] } [.code c] := by
    simp [Frame.enter, Frame.at, hf, hb, hbn, hbk]
  obtain ⟨e, a', w', hq, har⟩ := h b [] cs hbk
  rw [← hen] at har
  have fin : ∀ v, a'.defers = [] → (results fn a'.tmps).run P w' = .ok v w' → R (.returned v) w' → ∀ todo, Steps P (lone (Frame.enter P f args .normal) cs w) (lone { b.at a' todo with mode := .returning } cs w') → ∃ e w'' fr, R e w'' ∧ Comes P (lone (Frame.enter P f args .normal) cs w) (lone fr cs w'') e ∧ fr.fn = f ∧ fr.leaving P w'' e :=
    fun v hd hr hR todo hs => ⟨.returned v, w', _, hR, hs, hbn, rfl, hd, hbk, fn, by show P.funcs[b.fn]? = _; rw [hbn]; exact hf, hr⟩
  cases e with
  | normal =>
    obtain ⟨hd, v, hr, hR⟩ := hq
    exact fin v hd hr hR [] (Steps.trans har (.one step_end))
  | ret =>
    obtain ⟨hd, v, hr, hR⟩ := hq
    obtain ⟨todo, hs⟩ := har
    exact fin v hd hr hR todo hs
  | panic ch =>
    obtain ⟨hd, hR⟩ := hq
    obtain ⟨todo, hs⟩ := har
    exact ⟨.panicked ch, w', _, hR, hs, hbn, rfl, hd, fn, by show P.funcs[b.fn]? = _; rw [hbn]; exact hf⟩
  | exit id => exact hq.elim
  | goto l => exact hq.elim
  | outgrown => exact ⟨.outgrown, w', b, hq, har.resolve_left (by simp [hbk]), hbn, trivial⟩
end Go.Proofs.Ytlihoijbfffjcaa

/-
  Arrays of bytes (of numbers) that are compared; a struct or an array that is built in a region whose order is open. Plain theorems over whatever program. Own work.
-/
import Derived.Test.YtaflmiopaiigbaaMem3
import Derived.ChangeKeysEq
import Derived.Laws.StructEq
namespace Go.Proofs.Ytaflmiopaiigbaa
set_option linter.unusedVariables false
set_option linter.unusedSimpArgs false
open Go.RowKit
theorem run_eqItems_k {P : Program} {kd : IntKind} {e : TypeId} (w : World) (he : P.underlying e = some (.int kd)) (ha : ∀ w, (isAgg e).run P w = .ok false w) (xs ys : List Int) (n : Nat) (hx : xs.length = n) (hy : ys.length = n) (d : Nat) :
    ∀ is : List Nat, (∀ i ∈ is, i < n) → (Op.eqItems (d + 1) e 1 (vk kd xs).toArray (vk kd ys).toArray is).run P w = .ok (is.all fun i => xs.getD i 0 == ys.getD i 0) w
  | [], _ => rfl
  | i :: is, h => by
    have hi := h i (by simp)
    have ih := run_eqItems_k w he ha xs ys n hx hy d is fun j hj => h j (by simp [hj])
    have c1 : (vk kd xs)[i]? = some (.int kd (xs.getD i 0)) := vk_get (by omega)
    have c2 : (vk kd ys)[i]? = some (.int kd (ys.getD i 0)) := vk_get (by omega)
    have p1 : (part e (vk kd xs).toArray (i * 1)).run P w = .ok (.int kd (xs.getD i 0)) w := by simp [part, ha, c1]
    have p2 : (part e (vk kd ys).toArray (i * 1)).run P w = .ok (.int kd (ys.getD i 0)) w := by simp [part, ha, c2]
    simp only [Op.eqItems, Sem.run_bind, p1, p2, Result.andThen_ok, run_equalIn_int w d e kd kd _ _ he]
    cases hq : (xs.getD i 0 == ys.getD i 0) with
    | false => simp only [List.all_cons, hq, Bool.not_false, if_true, Bool.false_and, Sem.run_pure]
    | true => simp only [List.all_cons, hq, Bool.not_true, Bool.false_eq_true, if_false, Bool.true_and, ih]
theorem all_eq {xs ys : List Int} (n : Nat) (hx : xs.length = n) (hy : ys.length = n) : ((List.range n).all fun i => xs.getD i 0 == ys.getD i 0) = decide (xs = ys) := by
  by_cases h : xs = ys
  · subst h
    simp
  · rw [decide_eq_false h]
    refine Bool.eq_false_iff.2 fun ha => h ?_
    rw [List.all_eq_true] at ha
    apply List.ext_getElem (by omega)
    intro i h1 h2
    have := ha i (by simp; omega)
    simpa [List.getD, h1, h2] using this
theorem run_eqArr {P : Program} {kd : IntKind} {t e n : Nat} {i : TypeInfo} (w : World) (hu : P.underlying t = some (.array n e)) (hi : P.info? e = some i) (hsz : P.cellsOf e = 1) (he : P.underlying e = some (.int kd)) (ha : ∀ w, (isAgg e).run P w = .ok false w) (xs ys : List Int) (hx : xs.length = n) (hy : ys.length = n) :
    (Op.equalIn 10000 t (.agg (vk kd xs).toArray) (.agg (vk kd ys).toArray)).run P w = .ok (decide (xs = ys)) w := by
  rw [show (10000 : Nat) = 9999 + 1 from rfl, run_equalIn_array 9999 (w := w) (t := t) _ _ hu hi, hsz, show (9999 : Nat) = 9998 + 1 from rfl, run_eqItems_k w he ha xs ys n hx hy 9998 _ (by simp), all_eq n hx hy]
theorem run_eqlA {P : Program} {o : Oper} {a : Act} {w : World} {kd : IntKind} {t e n u : Nat} {i : TypeInfo} (x y : Operand) (ho : o.op = .binOp .eql t x y u) (hu : P.underlying t = some (.array n e)) (hi : P.info? e = some i) (hsz : P.cellsOf e = 1) (he : P.underlying e = some (.int kd)) (ha : ∀ w, (isAgg e).run P w = .ok false w) (xs ys : List Int) (hx : a.eval x = .agg (vk kd xs).toArray) (hy : a.eval y = .agg (vk kd ys).toArray) (lx : xs.length = n) (ly : ys.length = n) (hm : P.eqGuardType P.depth t = false) :
    (execOp a.eval o).run P w = .ok (.value (.bool (decide (xs = ys)))) w := by
  unfold execOp
  simp only [ho, hx, hy]
  go_simp
  simp only [run_eqGuard_agg (P := P) (hm := hm), run_eqArr w hu hi hsz he ha xs ys lx ly, Result.andThen_ok]
theorem run_neqA {P : Program} {o : Oper} {a : Act} {w : World} {kd : IntKind} {t e n u : Nat} {i : TypeInfo} (x y : Operand) (ho : o.op = .binOp .neq t x y u) (hu : P.underlying t = some (.array n e)) (hi : P.info? e = some i) (hsz : P.cellsOf e = 1) (he : P.underlying e = some (.int kd)) (ha : ∀ w, (isAgg e).run P w = .ok false w) (xs ys : List Int) (hx : a.eval x = .agg (vk kd xs).toArray) (hy : a.eval y = .agg (vk kd ys).toArray) (lx : xs.length = n) (ly : ys.length = n) (hm : P.eqGuardType P.depth t = false) :
    (execOp a.eval o).run P w = .ok (.value (.bool (!decide (xs = ys)))) w := by
  unfold execOp
  simp only [ho, hx, hy]
  go_simp
  simp only [run_eqGuard_agg (P := P) (hm := hm), run_eqArr w hu hi hsz he ha xs ys lx ly, Result.andThen_ok]
theorem run_eqlT {P : Program} {o : Oper} {a : Act} {w : World} {kd : IntKind} {t e n u : Nat} {i : TypeInfo} (x y : Operand) (ho : o.op = .binOp .eql t x y u) (hu : P.underlying t = some (.array n e)) (hi : P.info? e = some i) (hsz : P.cellsOf e = 1) (he : P.underlying e = some (.int kd)) (ha : ∀ w, (isAgg e).run P w = .ok false w) (xs : List Int) (hx : a.eval x = .agg (vk kd xs).toArray) (hy : a.eval y = .agg (vk kd xs).toArray) (lx : xs.length = n) (hm : P.eqGuardType P.depth t = false) :
    (execOp a.eval o).run P w = .ok (.value (.bool true)) w := by
  rw [run_eqlA x y ho hu hi hsz he ha xs xs hx hy lx lx hm]; simp
theorem run_neqF {P : Program} {o : Oper} {a : Act} {w : World} {kd : IntKind} {t e n u : Nat} {i : TypeInfo} (x y : Operand) (ho : o.op = .binOp .neq t x y u) (hu : P.underlying t = some (.array n e)) (hi : P.info? e = some i) (hsz : P.cellsOf e = 1) (he : P.underlying e = some (.int kd)) (ha : ∀ w, (isAgg e).run P w = .ok false w) (xs : List Int) (hx : a.eval x = .agg (vk kd xs).toArray) (hy : a.eval y = .agg (vk kd xs).toArray) (lx : xs.length = n) (hm : P.eqGuardType P.depth t = false) :
    (execOp a.eval o).run P w = .ok (.value (.bool false)) w := by
  rw [run_neqA x y ho hu hi hsz he ha xs xs hx hy lx lx hm]; simp
/-- Only new memory. -/
def JR (w0 : World) (bs : List Bool) (vs : List Value) (w : World) : Prop := Below w0.heap.size w0 w
theorem JR.call {w0 w w' : World} {bs bs' : List Bool} {vs vs' : List Value} (h : JR w0 bs vs w) (hb : Below w.heap.size w w') : JR w0 bs' vs' w' := h.trans (hb.mono h.size)
theorem run_buildX {P : Program} {o : Oper} {a : Act} {w : World} (t : TypeId) (parts : List (Nat × Operand)) (ho : o.op = .build t parts.toArray) (vals : List (Nat × Value)) (hv : parts.map (fun p => (p.1, a.eval p.2)) = vals) (cells : List Value) (hb : P.built t vals = some cells.toArray) :
    (execOp a.eval o).run P w = .ok (.value (.agg cells.toArray)) w := by
  subst hv
  have e : (parts.toArray.map fun (i, x) => (i, a.eval x)).toList = parts.map (fun p => (p.1, a.eval p.2)) := by simp
  unfold execOp
  simp only [ho, Sem.run_bind]
  rw [run_build w t _ cells.toArray (by rw [e]; exact hb)]
  rfl
theorem wg_build {P : Program} {ops : Array Oper} {rest : List Oper} {o : Oper} {a : Act} {w : World} {Q : Exit → Act → World → Prop} (g' : Nat) (b : Bool) (d' : Nat) (hg : o.guard = some (g', b)) (hd' : (ops[g']?).bind (·.dst) = some d') (hv' : a.tmps[d']? = some (.bool b)) (t : TypeId) (parts : List (Nat × Operand)) (ho : o.op = .build t parts.toArray) (vals : List (Nat × Value)) (hv : parts.map (fun p => (p.1, a.eval p.2)) = vals) (cells : List Value) (hb : P.built t vals = some cells.toArray)
    (hk : wpList P ops Q rest (a.put o.dst (.agg cells.toArray)) w) : wpList P ops Q (o :: rest) a w :=
  wpList_guarded g' b d' hg hd' hv' fun K hK => by
    unfold Oper.wp
    rw [run_buildX t parts ho vals hv cells hb]
    exact hK _ _ hk
end Go.Proofs.Ytaflmiopaiigbaa

/-
  More of regions whose order is open: rows that are loaded, one row that is written. Plain theorems over whatever program. Own work.
-/
import Derived.Test.YtaflmiopaiigbaaBut
import Derived.Laws.CopyRow
namespace Go.Proofs.Ytaflmiopaiigbaa
set_option linter.unusedVariables false
set_option linter.unusedSimpArgs false
open Go.RowKit
theorem run_loadRow {P : Program} {o : Oper} {a : Act} {w : World} (ty : TypeId) (x : Operand) (g t : Nat) (M : List Value) (d : TypeDesc) (ho : o.op = .load ty x) (hx : a.eval x = .pointer (some ⟨g, 0, none⟩)) (h : Row w t g M)
    (hu : P.underlying ty = some d) (hd : (match d with | .struct _ | .array _ _ => true | _ => false) = true) (hi : (P.info? ty).map (·.size) = some M.length) : (execOp a.eval o).run P w = .ok (.value (.agg M.toArray)) w :=
  run_loadP ty x g 0 t [] M [] d ho hx (by simpa using h) rfl hu hd hi
/-- An array or a struct, into the middle of a block. -/
theorem st_store_part {P : Program} {o : Oper} {a : Act} {w : World} {K : Act → World → Prop} {Q : Exit → Act → World → Prop} (ty : TypeId) (x y : Operand) (g off t : Nat) (A M C us : List Value) (ho : o.op = .store ty x y) (hx : a.eval x = .pointer (some ⟨g, off, none⟩)) (hy : a.eval y = .agg us.toArray)
    (h : Row w t g (A ++ (M ++ C))) (hA : A.length = off) (hM : M.length = us.length) (hi : (P.info? ty).map (·.size) = some us.length) (h1 : ∀ u ∈ us, u.oneCell' = true)
    (hk : ∀ w', Row w' t g (A ++ (us ++ C)) → Only g w w' → K (a.put o.dst undef) w') : o.wp P a w K Q := by
  have hrun := run_storeCells_at P g off t us 0 _ w h (by simp; omega) h1
  subst hA
  have e : ((A ++ (M ++ C)).toArray.toList.take (A.length + 0) ++ us ++ (A ++ (M ++ C)).toArray.toList.drop (A.length + 0 + us.length)) = A ++ (us ++ C) := by
    simp [← hM, List.drop_append]
  rw [e] at hrun
  cases hq : P.info? ty with
  | none => simp [hq] at hi
  | some i =>
    have hs : us.length = i.size := by simp [hq] at hi; omega
    have hr : (storeVar ty ⟨g, A.length, none⟩ (.agg us.toArray)).run P w = .ok () (w.setRow g (A ++ (us ++ C)).toArray) := by
      simp [storeVar, sizeOf, typeInfo, hq, Value.cells, hs, hrun]
    unfold Oper.wp execOp
    simp only [ho, hx, hy, Instr.storeAt, Instr.sureAddr, Sem.run_bind, Sem.run_pure, Result.andThen_ok, hr]
    exact hk _ (setRow_heap w g _ (A ++ (us ++ C)).toArray t _ h) (only_setRow _ _ _)
theorem wl_store_part {P : Program} {ops : Array Oper} {rest : List Oper} {o : Oper} {a : Act} {w : World} {Q : Exit → Act → World → Prop} (hgd : o.guard = none) (ty : TypeId) (x y : Operand) (g off t : Nat) (A M C us : List Value) (ho : o.op = .store ty x y) (hx : a.eval x = .pointer (some ⟨g, off, none⟩)) (hy : a.eval y = .agg us.toArray)
    (h : Row w t g (A ++ (M ++ C))) (hA : A.length = off) (hM : M.length = us.length) (hi : (P.info? ty).map (·.size) = some us.length) (h1 : ∀ u ∈ us, u.oneCell' = true)
    (hk : ∀ w', Row w' t g (A ++ (us ++ C)) → Only g w w' → wpList P ops Q rest (a.put o.dst undef) w') : wpList P ops Q (o :: rest) a w :=
  wpList_plain hgd fun K hK => st_store_part ty x y g off t A M C us ho hx hy h hA hM hi h1 fun w' h1 h2 => hK _ _ (hk w' h1 h2)
/-- Block g of type T turns from cur to new by one of the few (the k-th); all else that was there stays. -/
def JB (g T : Nat) (w0 : World) (k : Nat) (cur new : List Value) (bs : List Bool) (vs : List Value) (w : World) : Prop :=
  (bs.getD k false = false → Row w T g cur) ∧ (bs.getD k false = true → Row w T g new) ∧ But g w0 w
theorem JB.call {g T k : Nat} {w0 w w' : World} {cur new : List Value} {bs : List Bool} {vs us : List Value} (h : JB g T w0 k cur new bs vs w) (hb : Below w.heap.size w w') : JB g T w0 k cur new bs us w' :=
  ⟨fun h0 => (h.1 h0).later hb, fun h0 => (h.2.1 h0).later hb, h.2.2.trans (But.of hb g)⟩
theorem JB.store {g T k : Nat} {w0 w w' : World} {cur new : List Value} {bs bs' : List Bool} {vs us : List Value} (h : JB g T w0 k cur new bs vs w) (ho : Only g w w') (hr : Row w' T g new) (hk : bs'.getD k false = true) : JB g T w0 k cur new bs' us w' :=
  ⟨fun h0 => absurd (hk.symm.trans h0) (by decide), fun _ => hr, h.2.2.trans (But.only ho)⟩
theorem JB.start {g T k : Nat} {w : World} {cur new : List Value} {bs : List Bool} {vs : List Value} (h : Row w T g cur) (hk : bs.getD k false = false) : JB g T w k cur new bs vs w.drew :=
  ⟨fun _ => h, fun h1 => absurd (hk.symm.trans h1) (by decide), (But.refl _ _).drew⟩
end Go.Proofs.Ytaflmiopaiigbaa

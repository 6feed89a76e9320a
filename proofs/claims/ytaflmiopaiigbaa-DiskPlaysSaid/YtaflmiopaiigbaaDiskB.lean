/-
  A map in a walk: rules for its operations; a closure that is called. Own work.
-/
import Derived.Test.YtaflmiopaiigbaaDiskA
import Derived.Test.YtaflmiopaiigbaaFacts2
import Derived.Test.YtaflmiopaiigbaaSkip
import Derived.Test.YtaflmiopaiigbaaCmp
namespace Go.Proofs.Ytaflmiopaiigbaa
open Go.RowKit Go.Maps Go.ChangeMaps
set_option linter.unusedVariables false
set_option linter.unusedSimpArgs false
/-- A file that is not there. -/
abbrev zF : Value := .agg #[.slice none 0 0, .int .i64 0]
theorem zeroF (w : World) : (zeroValue 86).run Try.prog w = .ok zF w := by kernel_rfl
theorem szE {w : World} {b n : Nat} {l : Ents} (h : MapAt w b l) : l.length < maxLen ∨ maxLen ≤ l.length := by omega
section
variable {ops : Array Oper} {rest : List Oper} {o : Oper} {a : Act} {w : World} {Q : Exit → Act → World → Prop} {K : Act → World → Prop} {b : Nat} {l : Ents} {n : Nm}
theorem run_look2 (m x : Operand) (ho : o.op = .lookup 70 m x true) (hm : a.eval m = .map (some b)) (hx : a.eval x = encStr n) (h : MapAt w b l) (hn : n.length ≤ maxLen) :
    (execOp a.eval o).run Try.prog w = .ok (.value (.tuple #[(atE l n).getD zF, .bool (atE l n).isSome])) w := by
  obtain ⟨v, ps, hrun, hv⟩ := World.ownsMap.look_ok h keyS Try.underlying70 (zeroF w) (zd := .held zF) (zp := []) rfl (keyOf_enc n hn)
  rw [entD_at] at hv
  rw [entD_has] at hrun
  obtain rfl : v = (atE l n).getD zF := by simp [heldE] at hv; exact hv.1
  unfold execOp
  simp [ho, hm, hx, hrun, Result.andThen]
theorem run_look1 (m x : Operand) (ho : o.op = .lookup 70 m x false) (hm : a.eval m = .map (some b)) (hx : a.eval x = encStr n) (h : MapAt w b l) (hn : n.length ≤ maxLen) :
    (execOp a.eval o).run Try.prog w = .ok (.value ((atE l n).getD zF)) w := by
  obtain ⟨v, ps, hrun, hv⟩ := World.ownsMap.lookup h keyS Try.underlying70 (zeroF w) (zd := .held zF) (zp := []) rfl (keyOf_enc n hn)
  rw [entD_at] at hv
  obtain rfl : v = (atE l n).getD zF := by simp [heldE] at hv; exact hv.1
  unfold execOp
  simp [ho, hm, hx, hrun, Result.andThen]
theorem st_put (m x y : Operand) (v : Value) (ho : o.op = .mapUpdate 70 m x y) (hm : a.eval m = .map (some b)) (hx : a.eval x = encStr n) (hy : a.eval y = v) (h : MapAt w b l) (hn : n.length ≤ maxLen) (hl : l.length < maxLen)
    (hk : ∀ w', MapAt w' b (putE l n v) → Only b w w' → K (a.put o.dst undef) w') : o.wp Try.prog a w K Q := by
  obtain ⟨w', hrun, r1, r2⟩ := World.ownsMap.store h keyS Try.underlying70 hl (keyOf_enc n hn) (val := v) (d := .held v) (ps := []) rfl
  rw [entD_put] at r1
  have r3 := own_exact r1
  rw [entD_size] at r3
  unfold Oper.wp
  simp [execOp, ho, hm, hx, hy, hrun, Result.andThen]
  exact hk _ r3 (turned_only r2)
theorem st_del (m x : Operand) (ho : o.op = .call { callee := .builtin .delete, args := #[m, x], argTypes := #[70, 9] }) (hm : a.eval m = .map (some b)) (hx : a.eval x = encStr n) (h : MapAt w b l) (hn : n.length ≤ maxLen)
    (hk : ∀ w', MapAt w' b (delE l n) → Only b w w' → K (a.put o.dst (.tuple #[])) w') : o.wp Try.prog a w K Q := by
  obtain ⟨w', hrun, r1, r2⟩ := World.ownsMap.drop h keyS Try.underlying70 (keyOf_enc n hn) o.type
  rw [entD_del] at r1
  have r3 := own_exact r1
  rw [entD_size] at r3
  unfold Oper.wp
  simp [execOp, ho, resolve, invoke, builtin, hm, hx, hrun, Result.andThen]
  exact hk _ r3 (turned_only r2)
theorem run_mapLen (m : Operand) (ho : o.op = .call { callee := .builtin .len, args := #[m], argTypes := #[70] }) (hm : a.eval m = .map (some b)) (h : MapAt w b l) :
    (execOp a.eval o).run Try.prog w = .ok (.value (.int .i64 l.length)) w := by
  have := World.ownsMap.len h Try.underlying70 o.type
  rw [entD_size] at this
  unfold execOp
  simp [ho, resolve, invoke, builtin, hm, this, Result.andThen]
theorem wl_run1 (hgd : o.guard = none) (v : Value) (hr : (execOp a.eval o).run Try.prog w = .ok (.value v) w) (hk : wpList Try.prog ops Q rest (a.put o.dst v) w) : wpList Try.prog ops Q (o :: rest) a w :=
  wpList_plain hgd fun K hK => by
    unfold Oper.wp
    rw [hr]
    exact hK _ _ hk
theorem wg_run1 (g : Nat) (c : Bool) (d : Nat) (hg : o.guard = some (g, c)) (hd : (ops[g]?).bind (·.dst) = some d) (hv : a.tmps[d]? = some (.bool c)) (v : Value) (hr : (execOp a.eval o).run Try.prog w = .ok (.value v) w) (hk : wpList Try.prog ops Q rest (a.put o.dst v) w) : wpList Try.prog ops Q (o :: rest) a w :=
  wpList_guarded g c d hg hd hv fun K hK => by
    unfold Oper.wp
    rw [hr]
    exact hK _ _ hk
theorem run_lookF2 {fs : Fs} (m x : Operand) (ho : o.op = .lookup 70 m x true) (hm : a.eval m = .map (some b)) (hx : a.eval x = encStr n) (h : FMap w b fs) (hn : n.length ≤ maxLen) :
    (execOp a.eval o).run Try.prog w = .ok (.value (.tuple #[((atF fs n).getD zV).val, .bool (atF fs n).isSome])) w := by
  rw [run_look2 m x ho hm hx h hn, ents_get, ents_some]
theorem run_lookF1 {fs : Fs} (m x : Operand) (ho : o.op = .lookup 70 m x false) (hm : a.eval m = .map (some b)) (hx : a.eval x = encStr n) (h : FMap w b fs) (hn : n.length ≤ maxLen) :
    (execOp a.eval o).run Try.prog w = .ok (.value ((atF fs n).getD zV).val) w := by
  rw [run_look1 m x ho hm hx h hn, ents_get]
theorem wl_look2 (hgd : o.guard = none) (m x : Operand) (n : Nm) (b : Nat) (fs : Fs) (f : FV) (t : Bool) (hf : (atF fs n).getD zV = f) (ht : (atF fs n).isSome = t) (ho : o.op = .lookup 70 m x true) (hm : a.eval m = .map (some b)) (hx : a.eval x = encStr n) (h : FMap w b fs) (hn : n.length ≤ maxLen)
    (hk : wpList Try.prog ops Q rest (a.put o.dst (.tuple #[.agg #[.slice f.A f.n f.c, .int .i64 f.kept], .bool t])) w) : wpList Try.prog ops Q (o :: rest) a w := wl_run1 hgd _ (hf ▸ ht ▸ run_lookF2 m x ho hm hx h hn) hk
theorem wl_look1 (hgd : o.guard = none) (m x : Operand) (n : Nm) (b : Nat) (fs : Fs) (f : FV) (hf : (atF fs n).getD zV = f) (ho : o.op = .lookup 70 m x false) (hm : a.eval m = .map (some b)) (hx : a.eval x = encStr n) (h : FMap w b fs) (hn : n.length ≤ maxLen)
    (hk : wpList Try.prog ops Q rest (a.put o.dst (.agg #[.slice f.A f.n f.c, .int .i64 f.kept])) w) : wpList Try.prog ops Q (o :: rest) a w := wl_run1 hgd _ (hf ▸ run_lookF1 m x ho hm hx h hn) hk
theorem wl_mapLen (hgd : o.guard = none) (m : Operand) (b : Nat) (l : Ents) (ho : o.op = .call { callee := .builtin .len, args := #[m], argTypes := #[70] }) (hm : a.eval m = .map (some b)) (h : MapAt w b l)
    (hk : wpList Try.prog ops Q rest (a.put o.dst (.int .i64 l.length)) w) : wpList Try.prog ops Q (o :: rest) a w := wl_run1 hgd _ (run_mapLen m ho hm h) hk
theorem wg_mapLen (g : Nat) (c : Bool) (d : Nat) (hg : o.guard = some (g, c)) (hd : (ops[g]?).bind (·.dst) = some d) (hv : a.tmps[d]? = some (.bool c)) (m : Operand) (b : Nat) (l : Ents) (ho : o.op = .call { callee := .builtin .len, args := #[m], argTypes := #[70] }) (hm : a.eval m = .map (some b)) (h : MapAt w b l)
    (hk : wpList Try.prog ops Q rest (a.put o.dst (.int .i64 l.length)) w) : wpList Try.prog ops Q (o :: rest) a w := wg_run1 g c d hg hd hv _ (run_mapLen m ho hm h) hk
theorem wl_put (hgd : o.guard = none) (m x y : Operand) (n : Nm) (v : Value) (b : Nat) (l : Ents) (ho : o.op = .mapUpdate 70 m x y) (hm : a.eval m = .map (some b)) (hx : a.eval x = encStr n) (hy : a.eval y = v) (h : MapAt w b l) (hn : n.length ≤ maxLen) (hl : l.length < maxLen)
    (hk : ∀ w', MapAt w' b (putE l n v) → Only b w w' → wpList Try.prog ops Q rest (a.put o.dst undef) w') : wpList Try.prog ops Q (o :: rest) a w :=
  wpList_plain hgd fun K hK => st_put m x y v ho hm hx hy h hn hl fun w' h1 h2 => hK _ _ (hk w' h1 h2)
theorem wl_makeMap (hgd : o.guard = none) (ho : o.op = .makeMap 70 none)
    (hk : ∀ b w', MapAt w' b [] → w.heap.size ≤ b → Below w.heap.size w w' → wpList Try.prog ops Q rest (a.put o.dst (.map (some b))) w') : wpList Try.prog ops Q (o :: rest) a w :=
  wpList_plain hgd fun K hK => by
    unfold Oper.wp
    simp [execOp, ho, run_makeMap, Result.andThen]
    exact hK _ _ (hk _ _ (MapAt.made w) (Nat.le_refl _) ((Below.refl _ _).alloc (Nat.le_refl _) _))
/-- A closure without arguments is called. -/
theorem st_callF (f : FuncId) (x : Operand) (caps : Array Value) (ho : o.op = .call { callee := .value x, args := #[], argTypes := #[] }) (hx : a.eval x = .func (.func f) #[] caps)
    (hf : ∀ (xs : Array Value) (w : World), (callFunc f xs).run Try.prog w = .ok (.enter f xs) w)
    {R : Ending → World → Prop} (hc : Calls Try.prog f caps w R) (hk : ∀ e w', R e w' → ∃ v, e = .returned v ∧ K (a.put o.dst v) w') : o.wp Try.prog a w K Q := by
  unfold Oper.wp execOp
  simp only [ho, resolve, hx, Deferred.ofValue]
  go_simp
  refine hc.mono fun e w' h => ?_
  obtain ⟨v, rfl, h2⟩ := hk e w' h
  exact h2
end
end Go.Proofs.Ytaflmiopaiigbaa

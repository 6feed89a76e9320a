/-
  Values of plain operations, next part: comparisons, negation, fields by value. Plain theorems over whatever program. Own work.
-/
import Derived.Test.YtaflmiopaiigbaaSkip
namespace Go.Proofs.Ytaflmiopaiigbaa
set_option linter.unusedVariables false
set_option linter.unusedSimpArgs false
open Go.RowKit
section
variable {P : Program} {o : Oper} {a : Act} {w : World} {t u : Nat} {k : IntKind} {m n : Int} {r : Bool}
theorem run_lssI (x y : Operand) (ho : o.op = .binOp .lss t x y u) (hx : a.eval x = .int k m) (hy : a.eval y = .int k n) (hr : decide (m < n) = r) : (execOp a.eval o).run P w = .ok (.value (.bool r)) w := by
  subst hr; unfold execOp; simp only [ho, hx, hy]; go_simp
theorem run_leqI (x y : Operand) (ho : o.op = .binOp .leq t x y u) (hx : a.eval x = .int k m) (hy : a.eval y = .int k n) (hr : decide (m ≤ n) = r) : (execOp a.eval o).run P w = .ok (.value (.bool r)) w := by
  subst hr; unfold execOp; simp only [ho, hx, hy]; go_simp
theorem run_gtrI (x y : Operand) (ho : o.op = .binOp .gtr t x y u) (hx : a.eval x = .int k m) (hy : a.eval y = .int k n) (hr : decide (n < m) = r) : (execOp a.eval o).run P w = .ok (.value (.bool r)) w := by
  subst hr; unfold execOp; simp only [ho, hx, hy]; go_simp
theorem run_geqI (x y : Operand) (ho : o.op = .binOp .geq t x y u) (hx : a.eval x = .int k m) (hy : a.eval y = .int k n) (hr : decide (n ≤ m) = r) : (execOp a.eval o).run P w = .ok (.value (.bool r)) w := by
  subst hr; unfold execOp; simp only [ho, hx, hy]; go_simp
theorem run_eqlI (x y : Operand) (ho : o.op = .binOp .eql t x y u) (hx : a.eval x = .int k m) (hy : a.eval y = .int k n) (hr : decide (m = n) = r) : (execOp a.eval o).run P w = .ok (.value (.bool r)) w := by
  have hr2 : (m == n) = r := by rw [← hr]; rfl
  subst hr2; unfold execOp; simp only [ho, hx, hy]; go_simp
theorem run_neqI (x y : Operand) (ho : o.op = .binOp .neq t x y u) (hx : a.eval x = .int k m) (hy : a.eval y = .int k n) (hr : decide (m = n) = !r) : (execOp a.eval o).run P w = .ok (.value (.bool r)) w := by
  have hr2 : (m != n) = r := by
    show (!(m == n)) = r
    rw [show (m == n) = decide (m = n) from rfl, hr]; simp
  subst hr2; unfold execOp; simp only [ho, hx, hy]; go_simp
theorem run_notB (x : Operand) (b : Bool) (ho : o.op = .unOp .not t x) (hx : a.eval x = .bool b) (hr : (!b) = r) : (execOp a.eval o).run P w = .ok (.value (.bool r)) w := by
  subst hr; unfold execOp; simp only [ho, hx]; go_simp
theorem run_eqlB (x y : Operand) (b c : Bool) (ho : o.op = .binOp .eql t x y u) (hx : a.eval x = .bool b) (hy : a.eval y = .bool c) (he : ∀ w, (Op.equal t (.bool b) (.bool c)).run P w = .ok r w) : (execOp a.eval o).run P w = .ok (.value (.bool r)) w := by
  unfold execOp; simp only [ho, hx, hy]; go_simp; simp [binOp, he]
theorem run_neqB (x y : Operand) (b c : Bool) (ho : o.op = .binOp .neq t x y u) (hx : a.eval x = .bool b) (hy : a.eval y = .bool c) (he : ∀ w, (Op.equal t (.bool b) (.bool c)).run P w = .ok (!r) w) : (execOp a.eval o).run P w = .ok (.value (.bool r)) w := by
  unfold execOp; simp only [ho, hx, hy]; go_simp; simp [binOp, he]
theorem run_eqlS' {xs ys : Array Value} (x y : Operand) (ho : o.op = .binOp .eql t x y u) (hE : ∀ w, (Op.equalIn 10000 t (.agg xs) (.agg ys)).run P w = .ok r w) (hx : a.eval x = .agg xs) (hy : a.eval y = .agg ys) (hm : P.eqGuardType P.depth t = false) : (execOp a.eval o).run P w = .ok (.value (.bool r)) w := by
  unfold execOp; simp only [ho, hx, hy]; go_simp
theorem run_neqS {xs ys : Array Value} (x y : Operand) (ho : o.op = .binOp .neq t x y u) (hE : ∀ w, (Op.equalIn 10000 t (.agg xs) (.agg ys)).run P w = .ok (!r) w) (hx : a.eval x = .agg xs) (hy : a.eval y = .agg ys) (hm : P.eqGuardType P.depth t = false) : (execOp a.eval o).run P w = .ok (.value (.bool r)) w := by
  unfold execOp; simp only [ho, hx, hy]; go_simp
end
theorem st_build2P {P : Program} {o : Oper} {a : Act} {w : World} {K : Act → World → Prop} {Q : Exit → Act → World → Prop} (t : TypeId) (x y : Operand) (ho : o.op = .buildSlice t 2 #[(0, x), (1, y)]) (e : TypeId) (i : TypeInfo) (z u v : Value) (ht : P.underlying t = some (.slice e)) (hi : P.info? e = some i) (hz : i.zero = some z) (hsz : i.size = 1) (hzc : z.cells = #[z]) (hx : a.eval x = u) (hy : a.eval y = v) (hu : u.cells = #[u]) (hv : v.cells = #[v])
    (hk : K (a.put o.dst (.slice (some ⟨w.heap.size, 0, none⟩) 2 2)) (w.alloc (.cells #[u, v] e))) : o.wp P a w K Q := by
  have hr : (Array.range 2) = #[0, 1] := rfl
  have hzz : ∀ w, (zeroValue e).run P w = .ok z w := fun w => by simp [zeroValue, typeInfo, hi, hz]
  have hss : ∀ w, (sizeOf e).run P w = .ok 1 w := fun w => by simp [sizeOf, typeInfo, hi, hsz]
  have hrun : (Instr.buildSlice t 2 #[(0, u), (1, v)]).run P w = .ok (.slice (some ⟨w.heap.size, 0, none⟩) 2 2) (w.alloc (.cells #[u, v] e)) := by
    simp [Instr.buildSlice, run_underlying ht, hss, hzz, hr, hzc, Instr.fill, hu, hv, newRow]
  unfold Oper.wp execOp
  simp only [ho, List.map_toArray, List.map_cons, List.map_nil, hx, hy, hrun, Sem.run_bind, Result.andThen_ok, Sem.run_pure]
  exact hk
theorem wl_build2P {P : Program} {ops : Array Oper} {rest : List Oper} {o : Oper} {a : Act} {w : World} {Q : Exit → Act → World → Prop} (hgd : o.guard = none) (t : TypeId) (x y : Operand) (ho : o.op = .buildSlice t 2 #[(0, x), (1, y)]) (e : TypeId) (i : TypeInfo) (z u v : Value) (ht : P.underlying t = some (.slice e)) (hi : P.info? e = some i) (hz : i.zero = some z) (hsz : i.size = 1) (hzc : z.cells = #[z]) (hx : a.eval x = u) (hy : a.eval y = v) (hu : u.cells = #[u]) (hv : v.cells = #[v])
    (hk : ∀ g w', Row w' e g [u, v] → w.heap.size ≤ g → g < w'.heap.size → Below w.heap.size w w' → wpList P ops Q rest (a.put o.dst (.slice (some ⟨g, 0, none⟩) 2 2)) w') : wpList P ops Q (o :: rest) a w :=
  wpList_plain hgd fun K hK => st_build2P t x y ho e i z u v ht hi hz hsz hzc hx hy hu hv (hK _ _ (hk _ _ (by unfold Row; exact heap_alloc_new _ _) (Nat.le_refl _) (by simp) ((Below.refl _ _).alloc (Nat.le_refl _) _)))
/-- An element of a slice. -/
theorem run_indexSl {P : Program} {w : World} {a : Act} {o : Oper} (t : TypeId) (x y : Operand) (e : TypeId) (b off len cap i : Nat)
    (ho : o.op = .indexAddr t x y) (hu : P.underlying t = some (.slice e)) (hs : ∀ w, (sizeOf e).run P w = .ok 1 w) (hx : a.eval x = .slice (some ⟨b, off, none⟩) len cap) (hy : a.eval y = .int .i64 i) (hi : i < len) :
    (execOp a.eval o).run P w = .ok (.value (.pointer (some ⟨b, off + i, none⟩))) w := by
  unfold execOp
  simp only [ho, hx, hy]
  go_simp
theorem run_indexSl0 {P : Program} {w : World} {a : Act} {o : Oper} (t : TypeId) (x y : Operand) (e : TypeId) (b len cap i : Nat)
    (ho : o.op = .indexAddr t x y) (hu : P.underlying t = some (.slice e)) (hs : ∀ w, (sizeOf e).run P w = .ok 1 w) (hx : a.eval x = .slice (some ⟨b, 0, none⟩) len cap) (hy : a.eval y = .int .i64 i) (hi : i < len) :
    (execOp a.eval o).run P w = .ok (.value (.pointer (some ⟨b, i, none⟩))) w := by
  have := run_indexSl t x y e b 0 len cap i ho hu hs hx hy hi (w := w)
  rwa [Nat.zero_add] at this
end Go.Proofs.Ytaflmiopaiigbaa

/-
  A list literal of any number of values of any size. Plain theorems over whatever program. Own work.
-/
import Derived.Test.YthjcmgjmdjihnaaDoorBuildA
import Derived.Test.YthjcmgjmdjihnaaDoorBut
namespace Go.Proofs.YthjcmgjmdjihnaaDoor
open Go.RowKit
set_option linter.unusedVariables false
set_option linter.unusedSimpArgs false
def numb : Nat → List Value → List (Nat × Value)
  | _, [] => []
  | i, v :: r => (i, v) :: numb (i + 1) r
def cellsOk (k : Nat) : List Value → List (List Value) → Prop
  | [], [] => True
  | v :: r, V :: R => v.cells = V.toArray ∧ V.length = k ∧ cellsOk k r R
  | _, _ => False
theorem fill_all (k : Nat) : ∀ (vs : List Value) (Vs : List (List Value)) (i : Nat) (A Z : List Value), cellsOk k vs Vs → A.length = i * k → Z.length = vs.length * k →
    Instr.fill (fun i => some (i * k, k)) (A ++ Z).toArray (numb i vs) = some (A ++ Vs.flatten).toArray
  | [], [], i, A, Z, _, hA, hZ => by
    have : Z = [] := List.eq_nil_of_length_eq_zero (by simpa using hZ)
    subst this
    rfl
  | v :: r, V :: R, i, A, Z, hc, hA, hZ => by
    obtain ⟨h1, h2, h3⟩ := hc
    have hz : Z = Z.take k ++ Z.drop k := (List.take_append_drop k Z).symm
    have hk : (Z.take k).length = k := by
      rw [List.length_take, hZ, List.length_cons, Nat.add_mul]; omega
    rw [hz]
    unfold numb
    rw [fill_part (off := i * k) (n := k) rfl h1 h2 hA hk, ← List.append_assoc]
    have ih := fill_all k r R (i + 1) (A ++ V) (Z.drop k) h3 (by rw [List.length_append, hA, h2, Nat.add_mul]; omega) (by rw [List.length_drop, hZ, List.length_cons, Nat.add_mul]; omega)
    rw [ih, List.flatten_cons, List.append_assoc]
  | [], _ :: _, _, _, _, hc, _, _ => hc.elim
  | _ :: _, [], _, _, _, hc, _, _ => hc.elim
theorem st_buildN {P : Program} {o : Oper} {a : Act} {w : World} {K : Act → World → Prop} {Q : Exit → Act → World → Prop} (t n : Nat) (ps : List (Nat × Operand)) (ho : o.op = .buildSlice t n ps.toArray) (e : TypeId) (i : TypeInfo) (z : Value) (k : Nat) (vs : List Value) (Vs : List (List Value)) (ht : P.underlying t = some (.slice e)) (hi : P.info? e = some i) (hz : i.zero = some z) (hzs : z.cells.size = k) (hsz : i.size = k) (h0 : 0 < k) (hn : n * k ≤ 10000) (hn0 : 0 < n)
    (hv : ps.map (fun p => (p.1, a.eval p.2)) = numb 0 vs) (hl : vs.length = n) (hc : cellsOk k vs Vs)
    (hk : ∀ g w', Row w' e g Vs.flatten → w.heap.size ≤ g → g < w'.heap.size → Below w.heap.size w w' → K (a.put o.dst (.slice (some ⟨g, 0, none⟩) n n)) w') : o.wp P a w K Q := by
  have hzz : ∀ w, (zeroValue e).run P w = .ok z w := fun w => by simp [zeroValue, typeInfo, hi, hz]
  have hss : ∀ w, (sizeOf e).run P w = .ok k w := fun w => by simp [sizeOf, typeInfo, hi, hsz]
  have hf : Instr.fill (fun i => some (i * k, k)) ((Array.range (n * k)).map (z.cells[· % z.cells.size]!)) (numb 0 vs) = some Vs.flatten.toArray := by
    have h2 := fill_all k vs Vs 0 [] ((Array.range (n * k)).map (z.cells[· % z.cells.size]!)).toList hc (by simp) (by simp [hl])
    simp only [List.nil_append, Array.toArray_toList] at h2
    exact h2
  have hnk : 0 < n * k := Nat.mul_pos hn0 h0
  have hrun : (Instr.buildSlice t n (ps.toArray.map fun p => (p.1, a.eval p.2))).run P w = .ok (.slice (some ⟨w.heap.size, 0, none⟩) n n) (w.alloc (.cells Vs.flatten.toArray e)) := by
    have h1 : ¬ (2 ^ 24 < n * k) := by omega
    have h2 : ¬ (n * k = 0) := by omega
    have h3 : (ps.toArray.map fun p => (p.1, a.eval p.2)).toList = numb 0 vs := by simpa using hv
    simp only [Instr.buildSlice, run_underlying ht, Sem.run_bind, Sem.run_pure, Result.andThen_ok, hss, gt_iff_lt, h1, if_false, h2, hzz, h3, hf, newRow]
    simp
  unfold Oper.wp execOp
  simp only [ho, hrun, Sem.run_bind, Result.andThen_ok, Sem.run_pure]
  exact hk _ _ (by unfold Row; exact heap_alloc_new _ _) (Nat.le_refl _) (by simp) ((Below.refl _ _).alloc (Nat.le_refl _) _)
theorem wl_buildN {P : Program} {ops : Array Oper} {rest : List Oper} {o : Oper} {a : Act} {w : World} {Q : Exit → Act → World → Prop} (hgd : o.guard = none) (t n : Nat) (ps : List (Nat × Operand)) (ho : o.op = .buildSlice t n ps.toArray) (e : TypeId) (i : TypeInfo) (z : Value) (k : Nat) (vs : List Value) (Vs : List (List Value)) (ht : P.underlying t = some (.slice e)) (hi : P.info? e = some i) (hz : i.zero = some z) (hzs : z.cells.size = k) (hsz : i.size = k) (h0 : 0 < k) (hn : n * k ≤ 10000) (hn0 : 0 < n)
    (hv : ps.map (fun p => (p.1, a.eval p.2)) = numb 0 vs) (hl : vs.length = n) (hc : cellsOk k vs Vs)
    (hk : ∀ g w', Row w' e g Vs.flatten → w.heap.size ≤ g → g < w'.heap.size → Below w.heap.size w w' → wpList P ops Q rest (a.put o.dst (.slice (some ⟨g, 0, none⟩) n n)) w') : wpList P ops Q (o :: rest) a w :=
  wpList_plain hgd fun K hK => st_buildN t n ps ho e i z k vs Vs ht hi hz hzs hsz h0 hn hn0 hv hl hc fun g w' h1 h2 h3 h4 => hK _ _ (hk g w' h1 h2 h3 h4)
end Go.Proofs.YthjcmgjmdjihnaaDoor

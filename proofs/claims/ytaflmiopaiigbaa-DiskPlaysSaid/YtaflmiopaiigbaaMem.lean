/-
  Steps that touch memory, each behind a new name for the world: blocks known whole ('Row'), whatever they hold. Plain theorems over whatever program. Own work.
-/
import Derived.Test.YtaflmiopaiigbaaVals
import Derived.Test.YtaflmiopaiigbaaRow
namespace Go.Proofs.Ytaflmiopaiigbaa
set_option linter.unusedVariables false
set_option linter.unusedSimpArgs false
open Go.RowKit

/-- Block g of w is the cells vs, of type t; none is frozen. -/
def Row (w : World) (t g : Nat) (vs : List Value) : Prop := w.heap[g]? = some (.cells vs.toArray t (0, 0))
/-- From w to w' nothing has turned but block g. -/
structure Only (g : Nat) (w w' : World) : Prop where
  os : w'.os = w.os
  tape : w'.tape = w.tape
  output : w'.output = w.output
  size : w'.heap.size = w.heap.size
  block : ∀ k, k ≠ g → w'.heap[k]? = w.heap[k]?
theorem Only.below {g B : Nat} {w w' : World} (h : Only g w w') (hB : B ≤ g) : Below B w w' := ⟨h.os, h.tape, h.output, Nat.le_of_eq h.size.symm, fun k hk => h.block k (by omega)⟩
theorem Only.trans {g : Nat} {a b c : World} (h : Only g a b) (k : Only g b c) : Only g a c :=
  ⟨k.os.trans h.os, k.tape.trans h.tape, k.output.trans h.output, k.size.trans h.size, fun i hi => (k.block i hi).trans (h.block i hi)⟩
section
variable {w w' : World} {t g : Nat} {vs : List Value}
theorem Row.lt (h : Row w t g vs) : g < w.heap.size := by
  rcases Nat.lt_or_ge g w.heap.size with h1 | h1
  · exact h1
  · unfold Row at h; rw [Array.getElem?_eq_none h1] at h; cases h
theorem Row.cell (h : Row w t g vs) {j : Nat} {v : Value} (hj : vs[j]? = some v) : w.cell? ⟨g, j, none⟩ = some v := by
  rw [cell_of_row w g j _ t (0, 0) h]; simpa using hj
theorem Row.frozen (h : Row w t g vs) (j : Nat) : w.frozen? ⟨g, j, none⟩ = false := frozen_of_row w g j _ t h
theorem Row.below {B : Nat} (h : Row w t g vs) (hb : Below B w w') (hg : g < B) : Row w' t g vs := (hb.block g hg).trans h
theorem Row.later (h : Row w t g vs) (hb : Below w.heap.size w w') : Row w' t g vs := h.below hb h.lt
theorem Row.only {g' : Nat} (h : Row w t g vs) (ho : Only g' w w') (hne : g ≠ g') : Row w' t g vs := (ho.block g hne).trans h
theorem Row.drewN (h : Row w t g vs) (n : Nat) : Row (w.drewN n) t g vs := h
theorem Row.ofK {kd : IntKind} {cs : List Int} (h : OwnK kd w t g cs) : Row w t g (vk kd cs) := h
theorem Row.toK {kd : IntKind} {cs : List Int} (h : Row w t g (vk kd cs)) : OwnK kd w t g cs := h
theorem Row.toOwn {cs : List Int} (h : Row w t g (bv cs)) : Own w t g cs := h
theorem Row.ofOwn {cs : List Int} (h : Own w t g cs) : Row w t g (bv cs) := h
theorem OwnK.only {kd : IntKind} {cs : List Int} {g' : Nat} (h : OwnK kd w t g cs) (ho : Only g' w w') (hne : g ≠ g') : OwnK kd w' t g cs := (ho.block g hne).trans h
theorem OwnK.at_ {kd : IntKind} {cs : List Int} (h : OwnK kd w t g cs) {j : Nat} (hj : j < cs.length) : w.cell? ⟨g, j, none⟩ = some (.int kd (cs.getD j 0)) := h.cell hj
theorem Bs.only {B n g' : Nat} {A : Option Addr} {xs : List Int} (h : Bs w B A n xs) (ho : Only g' w w') (hB : B ≤ g') : Bs w' B A n xs := h.below (ho.below hB)
/-- Bytes in the middle of a row. -/
theorem Row.bs {B off : Nat} {A C : List Value} {xs : List Int} (h : Row w t g (A ++ (bv xs ++ C))) (hA : A.length = off) (hB : g < B) : Bs w B (some ⟨g, off, none⟩) xs.length xs := by
  refine ⟨rfl, fun _ => ⟨g, off, rfl, hB, fun j hj => h.cell ?_⟩⟩
  subst hA
  rw [List.getElem?_append_right (by omega), Nat.add_sub_cancel_left, List.getElem?_append_left (by rw [bv_len]; exact hj)]
  simp [bv, List.getD, List.getElem?_eq_getElem hj]
end
theorem vk_get {kd : IntKind} {xs : List Int} {j : Nat} (hj : j < xs.length) : (vk kd xs)[j]? = some (.int kd (xs.getD j 0)) := by
  simp [vk, List.getD, List.getElem?_eq_getElem hj]
theorem vk_set (kd : IntKind) (xs : List Int) (i : Nat) (v : Int) : (vk kd xs).set i (.int kd v) = vk kd (xs.set i v) := by simp [vk, List.map_set]
theorem bv_set (xs : List Int) (i : Nat) (v : Int) : (bv xs).set i (.int .u8 v) = bv (xs.set i v) := by simp [bv, List.map_set]
theorem only_setCell (w : World) (g i : Nat) (v : Value) : Only g w (w.setCell ⟨g, i, none⟩ v) := ⟨rfl, rfl, rfl, by simp [World.setCell], fun k hk => Below.heap_setCell _ _ _ _ hk⟩
theorem only_setRow (w : World) (g : Nat) (cs : Array Value) : Only g w (w.setRow g cs) := ⟨rfl, rfl, rfl, by simp [World.setRow], fun k hk => by simp only [World.setRow]; rw [Array.getElem?_modify, if_neg (fun e => hk e.symm)]⟩

section
variable {P : Program} {o : Oper} {a : Act} {w : World} {K : Act → World → Prop} {Q : Exit → Act → World → Prop}

/-! ### Single operations -/
theorem st_alloc (T : TypeId) (z : Value) (vs : List Value) (ho : o.op = .alloc T) (hz : (P.info? T).map (fun i => i.zero) = some (some z)) (hv : z.cells = vs.toArray)
    (hk : ∀ g w', Row w' T g vs → w.heap.size ≤ g → g < w'.heap.size → Below w.heap.size w w' → K (a.put o.dst (.pointer (some ⟨g, 0, none⟩))) w') : o.wp P a w K Q := by
  have hzz : ∀ w, (zeroValue T).run P w = .ok z w := by
    cases hq : P.info? T with
    | none => simp [hq] at hz
    | some i => simp [hq] at hz; intro w; simp [zeroValue, typeInfo, hq, hz]
  unfold Oper.wp execOp
  simp only [ho, Instr.alloc, Sem.run_bind, Sem.run_pure, Result.andThen_ok, hzz, newVar, newRow, hv]
  go_simp
  exact hk _ _ (by unfold Row; exact heap_alloc_new _ _) (Nat.le_refl _) (by simp) ((Below.refl _ _).alloc (Nat.le_refl _) _)
theorem st_box (T : TypeId) (x : Operand) (v : Value) (vs : List Value) (ho : o.op = .box T x) (hx : a.eval x = v) (hv : v.cells = vs.toArray)
    (hk : ∀ g w', Row w' T g vs → w.heap.size ≤ g → g < w'.heap.size → Below w.heap.size w w' → K (a.put o.dst (.pointer (some ⟨g, 0, none⟩))) w') : o.wp P a w K Q := by
  unfold Oper.wp execOp
  simp only [ho, Instr.box, hx, Sem.run_bind, Sem.run_pure, Result.andThen_ok, newVar, newRow, hv]
  go_simp
  exact hk _ _ (by unfold Row; exact heap_alloc_new _ _) (Nat.le_refl _) (by simp) ((Below.refl _ _).alloc (Nat.le_refl _) _)
theorem run_loadVar_part (ty : TypeId) (g off t : Nat) (A M C : List Value) (d : TypeDesc) (h : Row w t g (A ++ (M ++ C))) (hA : A.length = off)
    (hu : P.underlying ty = some d) (hd : (match d with | .struct _ | .array _ _ => true | _ => false) = true) (hi : (P.info? ty).map (·.size) = some M.length) :
    (loadVar ty ⟨g, off, none⟩).run P w = .ok (.agg M.toArray) w := by
  have hl : (loadCells ⟨g, off, none⟩ M.length).run P w = .ok M.toArray w :=
    run_loadCells_list (P := P) w ⟨g, off, none⟩ M (fun j v hv => by
      have hadd : (⟨g, off, none⟩ : Addr).add j = ⟨g, off + j, none⟩ := by unfold Addr.add; split <;> simp_all
      rw [hadd]
      refine h.cell ?_
      subst hA
      have hj : j < M.length := (List.getElem?_eq_some_iff.1 hv).1
      rw [List.getElem?_append_right (by omega), Nat.add_sub_cancel_left, List.getElem?_append_left hj]
      exact hv)
  cases hq : P.info? ty with
  | none => simp [hq] at hi
  | some i =>
    have hs : M.length = i.size := by simp [hq] at hi; omega
    have hagg : (isAgg ty).run P w = .ok true w := by
      cases d <;> simp at hd <;> simp [isAgg, underlying, hu]
    simp [loadVar, sizeOf, typeInfo, hq, hagg, ← hs, hl]
theorem run_loadP (ty : TypeId) (x : Operand) (g off t : Nat) (A M C : List Value) (d : TypeDesc) (ho : o.op = .load ty x) (hx : a.eval x = .pointer (some ⟨g, off, none⟩)) (h : Row w t g (A ++ (M ++ C))) (hA : A.length = off)
    (hu : P.underlying ty = some d) (hd : (match d with | .struct _ | .array _ _ => true | _ => false) = true) (hi : (P.info? ty).map (·.size) = some M.length) : (execOp a.eval o).run P w = .ok (.value (.agg M.toArray)) w := by
  unfold execOp
  simp only [ho, hx, Instr.loadAt, Instr.sureAddr, Sem.run_bind, Sem.run_pure, Result.andThen_ok, run_loadVar_part ty g off t A M C d h hA hu hd hi]
/-- An array or a struct, out of the middle of a block. -/
theorem st_load_part (ty : TypeId) (x : Operand) (g off t : Nat) (A M C : List Value) (d : TypeDesc) (ho : o.op = .load ty x) (hx : a.eval x = .pointer (some ⟨g, off, none⟩)) (h : Row w t g (A ++ (M ++ C))) (hA : A.length = off)
    (hu : P.underlying ty = some d) (hd : (match d with | .struct _ | .array _ _ => true | _ => false) = true) (hi : (P.info? ty).map (·.size) = some M.length)
    (hk : K (a.put o.dst (.agg M.toArray)) w) : o.wp P a w K Q := by
  unfold Oper.wp execOp
  simp only [ho, hx, Instr.loadAt, Instr.sureAddr, Sem.run_bind, Sem.run_pure, Result.andThen_ok, run_loadVar_part ty g off t A M C d h hA hu hd hi]
  exact hk
theorem run_loadVar_cells (ty : TypeId) (g off : Nat) (M : List Value) (d : TypeDesc) (h : ∀ j v, M[j]? = some v → w.cell? ⟨g, off + j, none⟩ = some v)
    (hu : P.underlying ty = some d) (hd : (match d with | .struct _ | .array _ _ => true | _ => false) = true) (hi : (P.info? ty).map (·.size) = some M.length) :
    (loadVar ty ⟨g, off, none⟩).run P w = .ok (.agg M.toArray) w := by
  have hl : (loadCells ⟨g, off, none⟩ M.length).run P w = .ok M.toArray w :=
    run_loadCells_list (P := P) w ⟨g, off, none⟩ M (fun j v hv => by
      have hadd : (⟨g, off, none⟩ : Addr).add j = ⟨g, off + j, none⟩ := by unfold Addr.add; split <;> simp_all
      rw [hadd]
      exact h j v hv)
  cases hq : P.info? ty with
  | none => simp [hq] at hi
  | some i =>
    have hs : M.length = i.size := by simp [hq] at hi; omega
    have hagg : (isAgg ty).run P w = .ok true w := by
      cases d <;> simp at hd <;> simp [isAgg, underlying, hu]
    simp [loadVar, sizeOf, typeInfo, hq, hagg, ← hs, hl]
theorem st_load_cells (ty : TypeId) (x : Operand) (g off : Nat) (M : List Value) (d : TypeDesc) (ho : o.op = .load ty x) (hx : a.eval x = .pointer (some ⟨g, off, none⟩)) (h : ∀ j v, M[j]? = some v → w.cell? ⟨g, off + j, none⟩ = some v)
    (hu : P.underlying ty = some d) (hd : (match d with | .struct _ | .array _ _ => true | _ => false) = true) (hi : (P.info? ty).map (·.size) = some M.length)
    (hk : K (a.put o.dst (.agg M.toArray)) w) : o.wp P a w K Q := by
  unfold Oper.wp execOp
  simp only [ho, hx, Instr.loadAt, Instr.sureAddr, Sem.run_bind, Sem.run_pure, Result.andThen_ok, run_loadVar_cells ty g off M d h hu hd hi]
  exact hk
/-- The same, whole. -/
theorem st_load_row (ty : TypeId) (x : Operand) (g t : Nat) (M : List Value) (d : TypeDesc) (ho : o.op = .load ty x) (hx : a.eval x = .pointer (some ⟨g, 0, none⟩)) (h : Row w t g M)
    (hu : P.underlying ty = some d) (hd : (match d with | .struct _ | .array _ _ => true | _ => false) = true) (hi : (P.info? ty).map (·.size) = some M.length)
    (hk : K (a.put o.dst (.agg M.toArray)) w) : o.wp P a w K Q :=
  st_load_part ty x g 0 t [] M [] d ho hx (by simpa using h) rfl hu hd hi hk
theorem st_load (ty : TypeId) (x : Operand) (g i t : Nat) (vs : List Value) (v : Value) (ho : o.op = .load ty x) (ha : ∀ w, (isAgg ty).run P w = .ok false w) (hx : a.eval x = .pointer (some ⟨g, i, none⟩)) (h : Row w t g vs) (hv : vs[i]? = some v)
    (hk : K (a.put o.dst v) w) : o.wp P a w K Q := by
  have hc := h.cell hv
  unfold Oper.wp execOp
  simp only [ho, hx]
  go_simp
  exact hk
theorem st_store (ty : TypeId) (x y : Operand) (g i t : Nat) (vs : List Value) (v : Value) (ho : o.op = .store ty x y) (hsz : (P.info? ty).map (·.size) = some 1) (hx : a.eval x = .pointer (some ⟨g, i, none⟩)) (hy : a.eval y = v) (h : Row w t g vs) (hi : i < vs.length) (h1 : v.oneCell' = true)
    (hk : ∀ w', Row w' t g (vs.set i v) → Only g w w' → K (a.put o.dst undef) w') : o.wp P a w K Q := by
  have hc : w.cell? ⟨g, i, none⟩ = some vs[i] := h.cell (by simp [hi])
  have hf := h.frozen i
  have hcells : v.cells = #[v] := by cases v <;> first | rfl | (simp [Value.oneCell'] at h1)
  have hrow : Row (w.setCell ⟨g, i, none⟩ v) t g (vs.set i v) := by
    have := heap_setCell_same w g i _ t v h
    unfold Row; rw [this]; simp
  have hadd : (⟨g, i, none⟩ : Addr).add 0 = ⟨g, i, none⟩ := by unfold Addr.add; split <;> simp_all
  cases hq : P.info? ty with
  | none => simp [hq] at hsz
  | some inf =>
    have hs : inf.size = 1 := by simp [hq] at hsz; exact hsz
    have hrun : (storeVar ty ⟨g, i, none⟩ v).run P w = .ok () (w.setCell ⟨g, i, none⟩ v) := by
      simp [storeVar, sizeOf, typeInfo, hq, hs, hcells, storeCells, hadd, run_store P w _ v _ h1, hc, hf]
    unfold Oper.wp execOp
    simp only [ho, hx, hy, Instr.storeAt, Instr.sureAddr, Sem.run_bind, Sem.run_pure, Result.andThen_ok, hrun]
    exact hk _ hrow (only_setCell _ _ _ _)
theorem st_store_row (ty : TypeId) (x y : Operand) (g t : Nat) (vs us : List Value) (ho : o.op = .store ty x y) (hx : a.eval x = .pointer (some ⟨g, 0, none⟩)) (hy : a.eval y = .agg us.toArray) (h : Row w t g vs) (hi : (P.info? ty).map (·.size) = some us.length) (hl : vs.length = us.length) (h1 : ∀ u ∈ us, u.oneCell' = true)
    (hk : ∀ w', Row w' t g us → Only g w w' → K (a.put o.dst undef) w') : o.wp P a w K Q :=
  wp_store_row ty x y ho g us.toArray hx hy t vs.toArray h (by simpa using hi) (by simpa using hl) (by simpa using h1) (hk _ (setRow_heap _ _ _ _ _ _ h) (only_setRow _ _ _))
/-- 'copy(dst, src)' into a block of the call's own; at least one byte, and all fit. -/
theorem st_copy (d s : Operand) (dT sT : TypeId) (ho : o.op = .call { callee := .builtin .copy, args := #[d, s], argTypes := #[dT, sT] }) (elem : TypeId) (hu : P.underlying dT = some (.slice elem)) (hsz : (P.info? elem).map (·.size) = some 1)
    (g off dLen dCap n c t B : Nat) (A : Option Addr) (hd : a.eval d = .slice (some ⟨g, off, none⟩) dLen dCap) (hs : a.eval s = .slice A n c) (cur : List Value) (xs : List Int) (h : Row w t g cur) (hx : Bs w B A n xs) (hn : n ≤ dLen) (hpos : 0 < n) (hfit : off + n ≤ cur.length)
    (hk : ∀ w', Row w' t g (cur.take off ++ (bv xs ++ cur.drop (off + n))) → Only g w w' → K (a.put o.dst (goInt n)) w') : o.wp P a w K Q := by
  obtain ⟨b, o', rfl, _, _⟩ := hx.2 hpos
  have hl : (bv xs).length = Nat.min n dLen := by rw [bv_len, hx.1]; exact (Nat.min_eq_left hn).symm
  have hrun := run_copy_row (P := P) w dT sT o.type elem g off dLen dCap ⟨b, o', none⟩ n c cur.toArray t (bv xs) hu hsz h hl (hx.cells rfl) (by rw [bv_len, hx.1]; simpa using hfit) (bv_one xs)
  rw [bv_len, hx.1] at hrun
  unfold Oper.wp
  simp [execOp, ho, resolve, invoke, builtin, hd, hs, hrun, Result.andThen]
  refine hk _ ?_ (only_setRow _ _ _)
  have := setRow_heap w g _ (cur.take off ++ (bv xs ++ cur.drop (off + n))).toArray t _ h
  exact this
end

/-- 'x[l:]' of an array. -/
theorem run_sliceArr {P : Program} (w : World) (T n e : Nat) (hu : P.underlying T = some (.array n e)) (hs : ∀ w, (sizeOf e).run P w = .ok 1 w) (kd : IntKind) (g l : Nat) (hl : l < n) :
    (Instr.sliceAt T (.pointer (some ⟨g, 0, none⟩)) (some (.int kd l)) none none).run P w = .ok (.slice (some ⟨g, l, none⟩) (n - l) (n - l)) w := by
  have h1 : (0 : Int) ≤ l := by omega
  have h3 : n ≠ l := by omega
  have hadd : (⟨g, 0, none⟩ : Addr).add l = ⟨g, l, none⟩ := by unfold Addr.add; split <;> simp_all
  simp [Instr.sliceAt, underlying, hu, Instr.sureAddr, Instr.sliceBounds, Instr.sliceBound, asIntOf, hs, h1, h3, hadd, show l ≤ n by omega]
theorem addr_add0 (a : Addr) : a.add 0 = a := by unfold Addr.add; split <;> simp_all
/-- 'x[:m]' of a slice. -/
theorem run_sliceTo {P : Program} (w : World) (T e z : Nat) (hu : P.underlying T = some (.slice e)) (hs : ∀ w, (sizeOf e).run P w = .ok z w) (A : Option Addr) (len cap : Nat) (kd : IntKind) (m : Int) (m' : Nat) (hm : m = m') (h1 : m' ≤ cap) :
    (Instr.sliceAt T (.slice A len cap) none (some (.int kd m)) none).run P w = .ok (.slice A m' cap) w := by
  subst hm
  cases A <;> simp [Instr.sliceAt, Instr.slice, underlying, hu, Instr.sliceBounds, Instr.sliceBound, asIntOf, h1, hs, addr_add0]
/-- An element of an array of arrays, by value. -/
theorem run_index_part {P : Program} (w : World) (T elem len n : Nat) (cs : List Value) (i : Nat) (hu : P.underlying T = some (.array len elem)) (ha : ∀ w, (isAgg elem).run P w = .ok true w) (hs : ∀ w, (sizeOf elem).run P w = .ok n w) (hi : i < len) :
    (Instr.index T (.agg cs.toArray) (.int .i64 i)).run P w = .ok (.agg ((cs.drop (i * n)).take n).toArray) w := by
  have h2 : ((0 : Int) ≤ i ∧ (i : Int) < len) := by omega
  have h3 : ¬ len ≤ i := by omega
  simp [Instr.index, asIntOf, underlying, hu, part, ha, hs, h2, h3]
theorem bv_one' (xs : List Int) : ∀ u ∈ bv xs, u.oneCell' = true := bv_one xs
theorem vk_one' (kd : IntKind) (xs : List Int) : ∀ u ∈ vk kd xs, u.oneCell' = true := by
  intro u hu; simp only [vk, List.mem_map] at hu; obtain ⟨x, _, rfl⟩ := hu; rfl
theorem size_k {P : Program} {T n : Nat} {kd : IntKind} {xs : List Int} (h : (P.info? T).map (·.size) = some n) (hx : xs.length = n) : (P.info? T).map (·.size) = some (vk kd xs).length := by rw [h, vk_len, hx]
theorem size_b {P : Program} {T n : Nat} {xs : List Int} (h : (P.info? T).map (·.size) = some n) (hx : xs.length = n) : (P.info? T).map (·.size) = some (bv xs).length := by rw [h, bv_len, hx]

/-! ### The same in a walk -/
section
variable {P : Program} {ops : Array Oper} {rest : List Oper} {o : Oper} {a : Act} {w : World} {Q : Exit → Act → World → Prop}
theorem wl_alloc (hgd : o.guard = none) (T : TypeId) (z : Value) (vs : List Value) (ho : o.op = .alloc T) (hz : (P.info? T).map (fun i => i.zero) = some (some z)) (hv : z.cells = vs.toArray)
    (hk : ∀ g w', Row w' T g vs → w.heap.size ≤ g → g < w'.heap.size → Below w.heap.size w w' → wpList P ops Q rest (a.put o.dst (.pointer (some ⟨g, 0, none⟩))) w') : wpList P ops Q (o :: rest) a w :=
  wpList_plain hgd fun K hK => st_alloc T z vs ho hz hv fun g w' h1 h2 h3 h4 => hK _ _ (hk g w' h1 h2 h3 h4)
theorem wl_box (hgd : o.guard = none) (T : TypeId) (x : Operand) (v : Value) (vs : List Value) (ho : o.op = .box T x) (hx : a.eval x = v) (hv : v.cells = vs.toArray)
    (hk : ∀ g w', Row w' T g vs → w.heap.size ≤ g → g < w'.heap.size → Below w.heap.size w w' → wpList P ops Q rest (a.put o.dst (.pointer (some ⟨g, 0, none⟩))) w') : wpList P ops Q (o :: rest) a w :=
  wpList_plain hgd fun K hK => st_box T x v vs ho hx hv fun g w' h1 h2 h3 h4 => hK _ _ (hk g w' h1 h2 h3 h4)
theorem wl_build (hgd : o.guard = none) (t : TypeId) (parts : List (Nat × Operand)) (ho : o.op = .build t parts.toArray) (vals : List (Nat × Value)) (hv : parts.map (fun p => (p.1, a.eval p.2)) = vals) (cells : List Value) (hb : P.built t vals = some cells.toArray)
    (hk : wpList P ops Q rest (a.put o.dst (.agg cells.toArray)) w) : wpList P ops Q (o :: rest) a w := by
  subst hv
  have e : (parts.toArray.map fun (i, x) => (i, a.eval x)).toList = parts.map (fun p => (p.1, a.eval p.2)) := by simp
  exact wpList_build hgd t _ ho (by rw [e, hb]; rfl) (by rw [e, hb]; exact hk)
theorem wl_load_part (hgd : o.guard = none) (ty : TypeId) (x : Operand) (g off t : Nat) (A M C : List Value) (d : TypeDesc) (ho : o.op = .load ty x) (hx : a.eval x = .pointer (some ⟨g, off, none⟩)) (h : Row w t g (A ++ (M ++ C))) (hA : A.length = off)
    (hu : P.underlying ty = some d) (hd : (match d with | .struct _ | .array _ _ => true | _ => false) = true) (hi : (P.info? ty).map (·.size) = some M.length)
    (hk : wpList P ops Q rest (a.put o.dst (.agg M.toArray)) w) : wpList P ops Q (o :: rest) a w :=
  wpList_plain hgd fun K hK => st_load_part ty x g off t A M C d ho hx h hA hu hd hi (hK _ _ hk)
theorem wl_load_row (hgd : o.guard = none) (ty : TypeId) (x : Operand) (g t : Nat) (M : List Value) (d : TypeDesc) (ho : o.op = .load ty x) (hx : a.eval x = .pointer (some ⟨g, 0, none⟩)) (h : Row w t g M)
    (hu : P.underlying ty = some d) (hd : (match d with | .struct _ | .array _ _ => true | _ => false) = true) (hi : (P.info? ty).map (·.size) = some M.length)
    (hk : wpList P ops Q rest (a.put o.dst (.agg M.toArray)) w) : wpList P ops Q (o :: rest) a w :=
  wpList_plain hgd fun K hK => st_load_row ty x g t M d ho hx h hu hd hi (hK _ _ hk)
theorem wl_load_cells (hgd : o.guard = none) (ty : TypeId) (x : Operand) (g off : Nat) (M : List Value) (d : TypeDesc) (ho : o.op = .load ty x) (hx : a.eval x = .pointer (some ⟨g, off, none⟩)) (h : ∀ j v, M[j]? = some v → w.cell? ⟨g, off + j, none⟩ = some v)
    (hu : P.underlying ty = some d) (hd : (match d with | .struct _ | .array _ _ => true | _ => false) = true) (hi : (P.info? ty).map (·.size) = some M.length)
    (hk : wpList P ops Q rest (a.put o.dst (.agg M.toArray)) w) : wpList P ops Q (o :: rest) a w :=
  wpList_plain hgd fun K hK => st_load_cells ty x g off M d ho hx h hu hd hi (hK _ _ hk)
theorem wl_load (hgd : o.guard = none) (ty : TypeId) (x : Operand) (g i t : Nat) (vs : List Value) (v : Value) (ho : o.op = .load ty x) (ha : ∀ w, (isAgg ty).run P w = .ok false w) (hx : a.eval x = .pointer (some ⟨g, i, none⟩)) (h : Row w t g vs) (hv : vs[i]? = some v)
    (hk : wpList P ops Q rest (a.put o.dst v) w) : wpList P ops Q (o :: rest) a w :=
  wpList_plain hgd fun K hK => st_load ty x g i t vs v ho ha hx h hv (hK _ _ hk)
theorem wl_store (hgd : o.guard = none) (ty : TypeId) (x y : Operand) (g i t : Nat) (vs : List Value) (v : Value) (ho : o.op = .store ty x y) (hsz : (P.info? ty).map (·.size) = some 1) (hx : a.eval x = .pointer (some ⟨g, i, none⟩)) (hy : a.eval y = v) (h : Row w t g vs) (hi : i < vs.length) (h1 : v.oneCell' = true)
    (hk : ∀ w', Row w' t g (vs.set i v) → Only g w w' → wpList P ops Q rest (a.put o.dst undef) w') : wpList P ops Q (o :: rest) a w :=
  wpList_plain hgd fun K hK => st_store ty x y g i t vs v ho hsz hx hy h hi h1 fun w' h1 h2 => hK _ _ (hk w' h1 h2)
theorem wl_store_row (hgd : o.guard = none) (ty : TypeId) (x y : Operand) (g t : Nat) (vs us : List Value) (ho : o.op = .store ty x y) (hx : a.eval x = .pointer (some ⟨g, 0, none⟩)) (hy : a.eval y = .agg us.toArray) (h : Row w t g vs) (hi : (P.info? ty).map (·.size) = some us.length) (hl : vs.length = us.length) (h1 : ∀ u ∈ us, u.oneCell' = true)
    (hk : ∀ w', Row w' t g us → Only g w w' → wpList P ops Q rest (a.put o.dst undef) w') : wpList P ops Q (o :: rest) a w :=
  wpList_plain hgd fun K hK => st_store_row ty x y g t vs us ho hx hy h hi hl h1 fun w' h1 h2 => hK _ _ (hk w' h1 h2)
end
end Go.Proofs.Ytaflmiopaiigbaa

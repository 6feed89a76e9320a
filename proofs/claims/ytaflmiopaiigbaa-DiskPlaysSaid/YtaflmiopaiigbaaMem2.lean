/-
  More steps that touch memory: slices that the call makes and fills in place. Plain theorems over whatever program. Own work.
-/
import Derived.Test.YtaflmiopaiigbaaMem
namespace Go.Proofs.Ytaflmiopaiigbaa
set_option linter.unusedVariables false
set_option linter.unusedSimpArgs false
open Go.RowKit
theorem lt_alloc (w : World) (o : Obj) : w.heap.size < (w.alloc o).heap.size := by
  show _ < (w.heap.push o).size
  rw [Array.size_push]
  omega
section
variable {P : Program} {o : Oper} {a : Act} {w : World} {K : Act → World → Prop} {Q : Exit → Act → World → Prop}
/-- 'make([]T, l, c)', T of one cell. -/
theorem st_make (t : TypeId) (x y : Operand) (ho : o.op = .makeSlice t x y) (e : TypeId) (i : TypeInfo) (z : Value) (ht : P.underlying t = some (.slice e)) (hi : P.info? e = some i) (hz : i.zero = some z) (hsz : i.size = 1) (hzc : z.cells = #[z])
    (kl kc : IntKind) (l c : Nat) (l' c' : Int) (hx : a.eval x = .int kl l') (hy : a.eval y = .int kc c') (hl' : l' = (l : Int)) (hc' : c' = (c : Int)) (hlc : l ≤ c) (hlen : i.bytes * c ≤ 281474976710656) (hc : c ≤ 9223372036854775807)
    (hk : ∀ g w', Row w' e g (List.replicate c z) → w.heap.size ≤ g → g < w'.heap.size → Below w.heap.size w w' → K (a.put o.dst (.slice (some ⟨g, 0, none⟩) l c)) w') : o.wp P a w K Q := by
  subst hl'
  subst hc'
  have hb' : (i.bytes : Int) * (c : Int) ≤ 281474976710656 := by
    have h : ((i.bytes * c : Nat) : Int) ≤ 281474976710656 := by omega
    rwa [Int.natCast_mul] at h
  have hrun := run_make (P := P) w t e i z ht hi hz kl kc l c (by omega) (by omega) hb' (by omega)
  unfold Oper.wp execOp
  simp only [ho, hx, hy, hrun, Sem.run_bind, Result.andThen_ok, Sem.run_pure, Int.toNat_natCast]
  refine hk _ _ ?_ (Nat.le_refl _) (lt_alloc _ _) ((Below.refl _ _).alloc (Nat.le_refl _) _)
  unfold Row
  rw [heap_alloc_new]
  congr 2
  rw [hsz, Nat.mul_one]
  apply Array.toList_inj.1
  rw [hzc, toList_madeCells_one]
/-- '[]T{x}', T of one cell. -/
theorem st_build1 (t : TypeId) (x : Operand) (ho : o.op = .buildSlice t 1 #[(0, x)]) (e : TypeId) (i : TypeInfo) (z v : Value) (ht : P.underlying t = some (.slice e)) (hi : P.info? e = some i) (hz : i.zero = some z) (hsz : i.size = 1) (hzc : z.cells = #[z]) (hx : a.eval x = v) (hv : v.cells = #[v])
    (hk : ∀ g w', Row w' e g [v] → w.heap.size ≤ g → g < w'.heap.size → Below w.heap.size w w' → K (a.put o.dst (.slice (some ⟨g, 0, none⟩) 1 1)) w') : o.wp P a w K Q := by
  have hr : (Array.range 1) = #[0] := rfl
  have hzz : ∀ w, (zeroValue e).run P w = .ok z w := fun w => by simp [zeroValue, typeInfo, hi, hz]
  have hss : ∀ w, (sizeOf e).run P w = .ok 1 w := fun w => by simp [sizeOf, typeInfo, hi, hsz]
  have hrun : (Instr.buildSlice t 1 #[(0, v)]).run P w = .ok (.slice (some ⟨w.heap.size, 0, none⟩) 1 1) (w.alloc (.cells #[v] e)) := by
    simp [Instr.buildSlice, run_underlying ht, hss, hzz, hr, hzc, Instr.fill, hv, newRow]
  unfold Oper.wp execOp
  simp only [ho, List.map_toArray, List.map_cons, List.map_nil, hx, hrun, Sem.run_bind, Result.andThen_ok, Sem.run_pure]
  exact hk _ _ (by unfold Row; exact heap_alloc_new _ _) (Nat.le_refl _) (by simp) ((Below.refl _ _).alloc (Nat.le_refl _) _)
/-- 'append(s, xs...)' where there is room. -/
theorem st_append (s x : Operand) (t : TypeId) (ho : o.op = .call { callee := .builtin .append, args := #[s, x], argTypes := #[t, t] }) (e : TypeId) (i : TypeInfo) (ht : P.underlying t = some (.slice e)) (hi : P.info? e = some i) (hsz : i.size = 1)
    (g n cap m c : Nat) (ad : Addr) (hs : a.eval s = .slice (some ⟨g, 0, none⟩) n cap) (hx : a.eval x = .slice (some ad) m c) (A M C V : List Value) (h : Row w e g (A ++ (M ++ C))) (hA : A.length = n) (hM : M.length = m) (hV : V.length = m)
    (hsrc : ∀ j u, V[j]? = some u → w.cell? (ad.add j) = some u) (h1 : ∀ u ∈ V, u.oneCell' = true) (hroom : n + m ≤ cap)
    (hk : ∀ w', Row w' e g (A ++ (V ++ C)) → Only g w w' → K (a.put o.dst (.slice (some ⟨g, 0, none⟩) (n + m) cap)) w') : o.wp P a w K Q := by
  have hrun := run_append_room (P := P) w t o.type e i ht hi g n cap (A ++ (M ++ C)).toArray h ad m c V (by rw [hsz, hV, Nat.mul_one]) hsrc h1 hroom (by simp [hsz]; omega)
  unfold Oper.wp execOp
  simp only [ho, resolve, invoke, builtin, Sem.run_bind, Sem.run_pure, Result.andThen_ok, List.map_toArray, List.map_cons, List.map_nil, hs, hx, hrun]
  have e1 : (A ++ (M ++ C)).take (n * 1) ++ V ++ (A ++ (M ++ C)).drop (n * 1 + V.length) = A ++ (V ++ C) := by
    subst hA
    simp [hV, hM, List.drop_append]
  refine hk _ ?_ (only_setRow _ _ _)
  have := setRow_heap w g _ (A ++ (V ++ C)).toArray e _ h
  rw [hsz]
  simp only [e1] at *
  exact this
end
section
variable {P : Program} {ops : Array Oper} {rest : List Oper} {o : Oper} {a : Act} {w : World} {Q : Exit → Act → World → Prop}
theorem wl_make (hgd : o.guard = none) (t : TypeId) (x y : Operand) (ho : o.op = .makeSlice t x y) (e : TypeId) (i : TypeInfo) (z : Value) (ht : P.underlying t = some (.slice e)) (hi : P.info? e = some i) (hz : i.zero = some z) (hsz : i.size = 1) (hzc : z.cells = #[z])
    (kl kc : IntKind) (l c : Nat) (l' c' : Int) (hx : a.eval x = .int kl l') (hy : a.eval y = .int kc c') (hl' : l' = (l : Int)) (hc' : c' = (c : Int)) (hlc : l ≤ c) (hlen : i.bytes * c ≤ 281474976710656) (hc : c ≤ 9223372036854775807)
    (hk : ∀ g w', Row w' e g (List.replicate c z) → w.heap.size ≤ g → g < w'.heap.size → Below w.heap.size w w' → wpList P ops Q rest (a.put o.dst (.slice (some ⟨g, 0, none⟩) l c)) w') : wpList P ops Q (o :: rest) a w :=
  wpList_plain hgd fun K hK => st_make t x y ho e i z ht hi hz hsz hzc kl kc l c l' c' hx hy hl' hc' hlc hlen hc fun g w' h1 h2 h3 h4 => hK _ _ (hk g w' h1 h2 h3 h4)
theorem wl_build1 (hgd : o.guard = none) (t : TypeId) (x : Operand) (ho : o.op = .buildSlice t 1 #[(0, x)]) (e : TypeId) (i : TypeInfo) (z v : Value) (ht : P.underlying t = some (.slice e)) (hi : P.info? e = some i) (hz : i.zero = some z) (hsz : i.size = 1) (hzc : z.cells = #[z]) (hx : a.eval x = v) (hv : v.cells = #[v])
    (hk : ∀ g w', Row w' e g [v] → w.heap.size ≤ g → g < w'.heap.size → Below w.heap.size w w' → wpList P ops Q rest (a.put o.dst (.slice (some ⟨g, 0, none⟩) 1 1)) w') : wpList P ops Q (o :: rest) a w :=
  wpList_plain hgd fun K hK => st_build1 t x ho e i z v ht hi hz hsz hzc hx hv fun g w' h1 h2 h3 h4 => hK _ _ (hk g w' h1 h2 h3 h4)
theorem wl_append (hgd : o.guard = none) (s x : Operand) (t : TypeId) (ho : o.op = .call { callee := .builtin .append, args := #[s, x], argTypes := #[t, t] }) (e : TypeId) (i : TypeInfo) (ht : P.underlying t = some (.slice e)) (hi : P.info? e = some i) (hsz : i.size = 1)
    (g n cap m c : Nat) (ad : Addr) (hs : a.eval s = .slice (some ⟨g, 0, none⟩) n cap) (hx : a.eval x = .slice (some ad) m c) (A M C V : List Value) (h : Row w e g (A ++ (M ++ C))) (hA : A.length = n) (hM : M.length = m) (hV : V.length = m)
    (hsrc : ∀ j u, V[j]? = some u → w.cell? (ad.add j) = some u) (h1 : ∀ u ∈ V, u.oneCell' = true) (hroom : n + m ≤ cap)
    (hk : ∀ w', Row w' e g (A ++ (V ++ C)) → Only g w w' → wpList P ops Q rest (a.put o.dst (.slice (some ⟨g, 0, none⟩) (n + m) cap)) w') : wpList P ops Q (o :: rest) a w :=
  wpList_plain hgd fun K hK => st_append s x t ho e i ht hi hsz g n cap m c ad hs hx A M C V h hA hM hV hsrc h1 hroom fun w' h1 h2 => hK _ _ (hk w' h1 h2)
end
theorem one_int (kd : IntKind) (v : Int) : ∀ u ∈ [Value.int kd v], u.oneCell' = true := by intro u hu; simp at hu; subst hu; rfl
/-! ### Behind a guard that holds -/
section
variable {P : Program} {ops : Array Oper} {rest : List Oper} {o : Oper} {a : Act} {w : World} {Q : Exit → Act → World → Prop}
theorem wpList_guarded (g : Nat) (b : Bool) (d : Nat) (hg : o.guard = some (g, b)) (hd : (ops[g]?).bind (·.dst) = some d) (hv : a.tmps[d]? = some (.bool b))
    (h : ∀ K : Act → World → Prop, (∀ a w, wpList P ops Q rest a w → K a w) → o.wp P a w K Q) : wpList P ops Q (o :: rest) a w :=
  wpList_step fun K hK => by
    have hw : Region.wanted o (yielded ops a.tmps) = true := by simp [Region.wanted, hg, yielded, hd, hv]
    rw [if_pos hw]
    exact h K hK
theorem wg_load_part (g' : Nat) (b : Bool) (d' : Nat) (hg : o.guard = some (g', b)) (hd' : (ops[g']?).bind (·.dst) = some d') (hv : a.tmps[d']? = some (.bool b)) (ty : TypeId) (x : Operand) (g off t : Nat) (A M C : List Value) (d : TypeDesc) (ho : o.op = .load ty x) (hx : a.eval x = .pointer (some ⟨g, off, none⟩)) (h : Row w t g (A ++ (M ++ C))) (hA : A.length = off)
    (hu : P.underlying ty = some d) (hd : (match d with | .struct _ | .array _ _ => true | _ => false) = true) (hi : (P.info? ty).map (·.size) = some M.length)
    (hk : wpList P ops Q rest (a.put o.dst (.agg M.toArray)) w) : wpList P ops Q (o :: rest) a w :=
  wpList_guarded g' b d' hg hd' hv fun K hK => st_load_part ty x g off t A M C d ho hx h hA hu hd hi (hK _ _ hk)
theorem wg_load_row (g' : Nat) (b : Bool) (d' : Nat) (hg : o.guard = some (g', b)) (hd' : (ops[g']?).bind (·.dst) = some d') (hv : a.tmps[d']? = some (.bool b)) (ty : TypeId) (x : Operand) (g t : Nat) (M : List Value) (d : TypeDesc) (ho : o.op = .load ty x) (hx : a.eval x = .pointer (some ⟨g, 0, none⟩)) (h : Row w t g M)
    (hu : P.underlying ty = some d) (hd : (match d with | .struct _ | .array _ _ => true | _ => false) = true) (hi : (P.info? ty).map (·.size) = some M.length)
    (hk : wpList P ops Q rest (a.put o.dst (.agg M.toArray)) w) : wpList P ops Q (o :: rest) a w :=
  wpList_guarded g' b d' hg hd' hv fun K hK => st_load_row ty x g t M d ho hx h hu hd hi (hK _ _ hk)
theorem wg_load (g' : Nat) (b : Bool) (d' : Nat) (hg : o.guard = some (g', b)) (hd' : (ops[g']?).bind (·.dst) = some d') (hv' : a.tmps[d']? = some (.bool b)) (ty : TypeId) (x : Operand) (g i t : Nat) (vs : List Value) (v : Value) (ho : o.op = .load ty x) (ha : ∀ w, (isAgg ty).run P w = .ok false w) (hx : a.eval x = .pointer (some ⟨g, i, none⟩)) (h : Row w t g vs) (hv : vs[i]? = some v)
    (hk : wpList P ops Q rest (a.put o.dst v) w) : wpList P ops Q (o :: rest) a w :=
  wpList_guarded g' b d' hg hd' hv' fun K hK => st_load ty x g i t vs v ho ha hx h hv (hK _ _ hk)
end
/-- 'append(s, xs...)' onto a row of the call's own, whatever xs is. -/
theorem st_append_bs {P : Program} {o : Oper} {a : Act} {w : World} {K : Act → World → Prop} {Q : Exit → Act → World → Prop} (s x : Operand) (t : TypeId)
    (ho : o.op = .call { callee := .builtin .append, args := #[s, x], argTypes := #[t, t] })
    (base : Nat) (e : TypeId) (i : TypeInfo) (ht : P.underlying t = some (.slice e)) (hi : P.info? e = some i) (hz : i.zero = some (.int .u8 0)) (hsz : i.size = 1) (hby : i.bytes = 1)
    (v : Value) (n : Nat) (xs : List Int) (hs : a.eval s = v) (hown : w.ownsRow base e 1 v n (bv xs)) (B : Nat) (A : Option Addr) (m c : Nat) (ys : List Int) (hx : a.eval x = .slice A m c) (hr : Bs w B A m ys)
    (hlen : n + m ≤ 140737488355328) (hbase : base ≤ w.heap.size)
    (h : ∀ v' w', w'.ownsRow base e 1 v' (n + m) (bv (xs ++ ys)) → w.grownBy w' v.ownBlock → K (a.put o.dst v') w') : o.wp P a w K Q := by
  obtain ⟨v', w', hrun, h2, h3, _⟩ := run_append_bs (P := P) w base t o.type e i ht hi hz hsz hby v n xs hown B A m c ys hr hlen hbase
  unfold Oper.wp execOp
  simp only [ho, resolve, invoke, builtin, Sem.run_bind, Sem.run_pure, Result.andThen_ok, List.map_toArray, List.map_cons, List.map_nil, hs, hx, hrun]
  exact h v' w' h2 h3
/-- '[]byte{}'. -/
theorem st_build0 {P : Program} {o : Oper} {a : Act} {w : World} {K : Act → World → Prop} {Q : Exit → Act → World → Prop} (t : TypeId) (ho : o.op = .buildSlice t 0 #[]) (e : TypeId) (i : TypeInfo) (ht : P.underlying t = some (.slice e)) (hi : P.info? e = some i) (hsz : i.size = 1)
    (hk : ∀ v w', w'.ownsRow w.heap.size e 1 v 0 (bv []) → Below w.heap.size w w' → K (a.put o.dst v) w') : o.wp P a w K Q := by
  have hss : ∀ w, (sizeOf e).run P w = .ok 1 w := fun w => by simp [sizeOf, typeInfo, hi, hsz]
  have hr : (Array.range 0) = #[] := rfl
  have hrun : (Instr.buildSlice t 0 #[]).run P w = .ok (.slice (some ⟨w.heap.size, 0, none⟩) 0 0) (w.alloc (.cells #[] e)) := by
    simp [Instr.buildSlice, run_underlying ht, hss, hr, Instr.fill, newRow]
  unfold Oper.wp execOp
  simp only [ho, List.map_toArray, List.map_nil, hrun, Sem.run_bind, Result.andThen_ok, Sem.run_pure]
  exact hk _ _ (World.ownsRow_made w #[] 0 (Nat.le_refl _) (by simp [maxLen]) (by simp)) ((Below.refl _ _).alloc (Nat.le_refl _) _)
section
variable {P : Program} {ops : Array Oper} {rest : List Oper} {o : Oper} {a : Act} {w : World} {Q : Exit → Act → World → Prop}
theorem wg_append_bs (g' : Nat) (b : Bool) (d' : Nat) (hg : o.guard = some (g', b)) (hd' : (ops[g']?).bind (·.dst) = some d') (hv : a.tmps[d']? = some (.bool b)) (s x : Operand) (t : TypeId)
    (ho : o.op = .call { callee := .builtin .append, args := #[s, x], argTypes := #[t, t] })
    (base : Nat) (e : TypeId) (i : TypeInfo) (ht : P.underlying t = some (.slice e)) (hi : P.info? e = some i) (hz : i.zero = some (.int .u8 0)) (hsz : i.size = 1) (hby : i.bytes = 1)
    (v : Value) (n : Nat) (xs : List Int) (hs : a.eval s = v) (hown : w.ownsRow base e 1 v n (bv xs)) (B : Nat) (A : Option Addr) (m c : Nat) (ys : List Int) (hx : a.eval x = .slice A m c) (hr : Bs w B A m ys)
    (hlen : n + m ≤ 140737488355328) (hbase : base ≤ w.heap.size)
    (h : ∀ v' w', w'.ownsRow base e 1 v' (n + m) (bv (xs ++ ys)) → w.grownBy w' v.ownBlock → wpList P ops Q rest (a.put o.dst v') w') : wpList P ops Q (o :: rest) a w :=
  wpList_guarded g' b d' hg hd' hv fun K hK => st_append_bs s x t ho base e i ht hi hz hsz hby v n xs hs hown B A m c ys hx hr hlen hbase fun v' w' h1 h2 => hK _ _ (h v' w' h1 h2)
theorem wg_build0 (g' : Nat) (b : Bool) (d' : Nat) (hg : o.guard = some (g', b)) (hd' : (ops[g']?).bind (·.dst) = some d') (hv : a.tmps[d']? = some (.bool b)) (t : TypeId) (ho : o.op = .buildSlice t 0 #[]) (e : TypeId) (i : TypeInfo) (ht : P.underlying t = some (.slice e)) (hi : P.info? e = some i) (hsz : i.size = 1)
    (hk : ∀ v w', w'.ownsRow w.heap.size e 1 v 0 (bv []) → Below w.heap.size w w' → wpList P ops Q rest (a.put o.dst v) w') : wpList P ops Q (o :: rest) a w :=
  wpList_guarded g' b d' hg hd' hv fun K hK => st_build0 t ho e i ht hi hsz fun v w' h1 h2 => hK _ _ (hk v w' h1 h2)
end
/-- Where the part from place I on begins. -/
def subA (A : Option Addr) (cap I : Nat) : Option Addr := if cap = I then A else A.map (·.add I)
/-- 'x[I:K]' of a slice of cells. -/
theorem run_sliceMid {P : Program} (w : World) (T e : Nat) (hu : P.underlying T = some (.slice e)) (hs : ∀ w, (sizeOf e).run P w = .ok 1 w) (A : Option Addr) (len cap : Nat) (kl kh : IntKind) (I K : Nat) (h1 : I ≤ K) (h2 : K ≤ cap) :
    (Instr.sliceAt T (.slice A len cap) (some (.int kl I)) (some (.int kh K)) none).run P w = .ok (.slice (subA A cap I) (K - I) (cap - I)) w := by
  have h3 : (0 : Int) ≤ I := by omega
  have h4 : (0 : Int) ≤ K := by omega
  simp [Instr.sliceAt, Instr.slice, underlying, hu, Instr.sliceBounds, Instr.sliceBound, asIntOf, h1, h2, h3, h4, hs, subA]
/-- 'x[I:]' of a slice of cells. -/
theorem run_sliceFrom {P : Program} (w : World) (T e : Nat) (hu : P.underlying T = some (.slice e)) (hs : ∀ w, (sizeOf e).run P w = .ok 1 w) (A : Option Addr) (len cap : Nat) (kl : IntKind) (I : Nat) (h1 : I ≤ len) :
    (Instr.sliceAt T (.slice A len cap) (some (.int kl I)) none none).run P w = .ok (.slice (subA A cap I) (len - I) (cap - I)) w := by
  have h3 : (0 : Int) ≤ I := by omega
  simp [Instr.sliceAt, Instr.slice, underlying, hu, Instr.sliceBounds, Instr.sliceBound, asIntOf, h1, h3, hs, subA]
theorem Bs.sub {w : World} {B n cap I K : Nat} {A : Option Addr} {xs : List Int} (h : Bs w B A n xs) (h1 : I ≤ K) (h2 : K ≤ n) (h3 : n ≤ cap) : Bs w B (subA A cap I) (K - I) ((xs.drop I).take (K - I)) := by
  have hl := h.1
  refine ⟨by rw [List.length_take, List.length_drop]; omega, fun hp => ?_⟩
  obtain ⟨b, o, rfl, hb, hc⟩ := h.2 (by omega)
  refine ⟨b, o + I, ?_, hb, fun j hj => ?_⟩
  · unfold subA
    rw [if_neg (by omega), Option.map_some, addr_plain]
  · rw [Nat.add_assoc, hc (I + j) (by omega)]
    simp [List.getD, List.getElem?_take, hj, List.getElem?_drop]
/-- One byte, out of a block of one. -/
theorem src_one {w : World} {t g : Nat} {v : Value} (h : Row w t g [v]) : ∀ j u, [v][j]? = some u → w.cell? ((⟨g, 0, none⟩ : Addr).add j) = some u := by
  intro j u hu
  rw [addr_plain, Nat.zero_add]
  exact h.cell hu
end Go.Proofs.Ytaflmiopaiigbaa

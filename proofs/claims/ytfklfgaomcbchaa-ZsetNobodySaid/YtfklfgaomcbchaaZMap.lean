/-
  A map from members to scores: what it has, as a list of names and values; look-up, store, delete, length. Own work, over the library's maps.
-/
import Derived.Test.YtfklfgaomcbchaaZsetA
import Derived.Test.YtfklfgaomcbchaaEqArr
import Derived.Test.YtfklfgaomcbchaaFacts2
import Derived.Test.YtfklfgaomcbchaaCmp
import Derived.Maps.OwnSet
import Derived.Maps.RangeWalk
import Derived.Sort.KeysCollected
import Derived.StringKeys
namespace Go.Proofs.Ytfklfgaomcbchaa
open Go.RowKit Go.Maps Go.ChangeMaps
set_option linter.unusedVariables false
set_option linter.unusedSimpArgs false
abbrev Ents := List (Nm × Value)
/-- An element reads as itself. -/
def heldE : Value → Option (DataW Value × List MemPlace) := fun v => some (.held v, [])
def entD (l : Ents) : DataW Value := .map (l.map fun p => (.string p.1, .held p.2))
def insE (x : Nm × Value) : Ents → Ents
  | [] => [x]
  | y :: r => if bytesBefore x.1 y.1 then x :: y :: r else y :: insE x r
def delE (l : Ents) (n : Nm) : Ents := l.filter fun p => !(p.1 == n)
def putE (l : Ents) (n : Nm) (v : Value) : Ents := insE (n, v) (delE l n)
def atE (l : Ents) (n : Nm) : Option Value := (l.find? fun p => p.1 == n).map (·.2)
def riseE (l : Ents) : Prop := l.Pairwise fun p q => bytesBefore p.1 q.1 = true
theorem entD_ins (x : Nm × Value) : ∀ l : Ents, DataW.insert (Lit.string x.1, DataW.held x.2) (l.map fun p => (Lit.string p.1, DataW.held p.2)) = (insE x l).map fun p => (Lit.string p.1, DataW.held p.2)
  | [] => rfl
  | y :: r => by
    simp only [List.map_cons, DataW.insert, insE, Lit.before]
    by_cases h : bytesBefore x.1 y.1 = true
    · simp only [h, if_true]; rfl
    · simp only [h]; rw [entD_ins x r]; rfl
theorem entD_filter (l : Ents) (n : Nm) : (l.map fun p => ((Lit.string p.1, DataW.held p.2) : Lit × DataW Value)).filter (fun p => !p.1.sameKey (.string n)) = (delE l n).map fun p => (Lit.string p.1, DataW.held p.2) := by
  unfold delE
  rw [List.filter_map]
  rfl
theorem entD_put (l : Ents) (n : Nm) (v : Value) : (entD l).put (.string n) (.held v) = entD (putE l n v) := by
  show DataW.map (DataW.insert (Lit.string n, DataW.held v) ((l.map fun p => ((Lit.string p.1, DataW.held p.2) : Lit × DataW Value)).filter fun p => !p.1.sameKey (.string n))) = _
  rw [entD_filter, entD_ins (n, v)]
  rfl
theorem entD_del (l : Ents) (n : Nm) : (entD l).del (.string n) = entD (delE l n) := by
  show DataW.map ((l.map fun p => ((Lit.string p.1, DataW.held p.2) : Lit × DataW Value)).filter fun p => !p.1.sameKey (.string n)) = _
  rw [entD_filter]
  rfl
theorem entD_find (l : Ents) (n : Nm) : (l.map fun p => ((Lit.string p.1, DataW.held p.2) : Lit × DataW Value)).find? (fun p => p.1.sameKey (.string n)) = (l.find? fun p => p.1 == n).map fun p => (Lit.string p.1, DataW.held p.2) := by
  rw [List.find?_map]
  rfl
theorem entD_at (l : Ents) (n : Nm) (z : Value) : (entD l).atKey (.string n) (.held z) = .held ((atE l n).getD z) := by
  unfold entD atE DataW.atKey
  simp only [entD_find]
  cases l.find? fun p => p.1 == n <;> rfl
theorem entD_has (l : Ents) (n : Nm) : has (entD l) (.string n) = (atE l n).isSome := by
  show (l.map fun p => ((Lit.string p.1, DataW.held p.2) : Lit × DataW Value)).any (fun p => p.1.sameKey (.string n)) = _
  rw [List.any_map]
  unfold atE
  rw [Option.isSome_map]
  apply Bool.eq_iff_iff.2
  rw [List.find?_isSome]
  simp [Lit.sameKey]
theorem entD_size (l : Ents) : size (entD l) = l.length := by show (l.map _).length = _; simp
theorem entD_keys (l : Ents) : strKeys (entD l) = l.map (·.1) := by
  show (l.map fun p => ((Lit.string p.1, DataW.held p.2) : Lit × DataW Value)).map (fun p => strOf p.1) = _
  rw [List.map_map]
  rfl
/-- Block b is a map that has just these. -/
def MapAt (w : World) (b : Nat) (l : Ents) : Prop := w.ownsMap Try.prog 9 heldE b l.length (entD l)
theorem keyS : Keyed Try.prog 9 := string_keyed Try.underlying9
theorem keyOf_enc (n : Nm) (h : n.length ≤ maxLen) : keyOf Try.prog 9 (encStr n) = some (.string n) := by
  have := Go.WideMaps.keyOf_string_mk (P := Try.prog) (k := 9) Try.underlying9 (s := ⟨n.toArray⟩) (by show n.toArray.size ≤ _; simpa using h)
  simpa using this
theorem own_exact {w : World} {b n : Nat} {D : DataW Value} (h : w.ownsMap Try.prog 9 heldE b n D) : w.ownsMap Try.prog 9 heldE b (size D) D := by
  obtain ⟨es, clock, hb, F, hs, rfl⟩ := h
  exact ⟨es, clock, hb, F, by simp [size, length_sorted], rfl⟩
section
variable {w w' : World} {b B : Nat} {l : Ents}
theorem MapAt.lt (h : MapAt w b l) : b < w.heap.size := World.ownsMap.lt h
theorem MapAt.rise (h : MapAt w b l) : riseE l := by
  obtain ⟨es, clock, hb, F, hs, hD⟩ := h
  have h1 := Go.WideShapes.rising_pairwise _ (fit_rising keyS F)
  have h2 : (l.map fun p => ((Lit.string p.1, DataW.held p.2) : Lit × DataW Value)) = _ := DataW.map.inj hD
  rw [← h2, List.pairwise_map] at h1
  exact h1
theorem MapAt.same (h : MapAt w b l) (e : w'.heap[b]? = w.heap[b]?) : MapAt w' b l := by
  obtain ⟨es, clock, hb, F, hs, hD⟩ := h
  exact ⟨es, clock, e.trans hb, F, hs, hD⟩
theorem MapAt.later (h : MapAt w b l) (hb : Below w.heap.size w w') : MapAt w' b l := h.same (hb.block b h.lt)
theorem MapAt.below (h : MapAt w b l) (hb : Below B w w') (hB : b < B) : MapAt w' b l := h.same (hb.block b hB)
theorem MapAt.only {g : Nat} (h : MapAt w b l) (ho : Only g w w') (hne : b ≠ g) : MapAt w' b l := h.same (ho.block b hne)
theorem MapAt.ne_row {t g : Nat} {vs : List Value} (h : MapAt w b l) (hr : Row w t g vs) : b ≠ g := by
  obtain ⟨es, clock, hb, _⟩ := h
  intro e
  subst e
  unfold Row at hr
  rw [hb] at hr
  cases hr
theorem MapAt.made (w : World) : MapAt (w.alloc (.map #[] 0)) w.heap.size [] := World.ownsMap_made w _ _ _
theorem turned_only {g : Nat} (h : w.mapTurned w' g) : Only g w w' := by
  obtain ⟨es, clock, es', clock', hb, rfl⟩ := h
  exact ⟨rfl, rfl, rfl, by simp [ChangeMaps.setBlock], fun k hk => Go.ChangeMaps.heap_setBlock_other hb _ hk⟩
end
/-- A score that is not there. -/
abbrev zF : Value := .int .i64 0
theorem zeroF (w : World) : (zeroValue 3).run Try.prog w = .ok zF w := by kernel_rfl
theorem szE {w : World} {b n : Nat} {l : Ents} (h : MapAt w b l) : l.length < maxLen ∨ maxLen ≤ l.length := by omega
section
variable {ops : Array Oper} {rest : List Oper} {o : Oper} {a : Act} {w : World} {Q : Exit → Act → World → Prop} {K : Act → World → Prop} {b : Nat} {l : Ents} {n : Nm}
theorem run_look2 (m x : Operand) (ho : o.op = .lookup 49 m x true) (hm : a.eval m = .map (some b)) (hx : a.eval x = encStr n) (h : MapAt w b l) (hn : n.length ≤ maxLen) :
    (execOp a.eval o).run Try.prog w = .ok (.value (.tuple #[(atE l n).getD zF, .bool (atE l n).isSome])) w := by
  obtain ⟨v, ps, hrun, hv⟩ := World.ownsMap.look_ok h keyS Try.underlying49 (zeroF w) (zd := .held zF) (zp := []) rfl (keyOf_enc n hn)
  rw [entD_at] at hv
  rw [entD_has] at hrun
  obtain rfl : v = (atE l n).getD zF := by simp [heldE] at hv; exact hv.1
  unfold execOp
  simp [ho, hm, hx, hrun, Result.andThen]
theorem run_look1 (m x : Operand) (ho : o.op = .lookup 49 m x false) (hm : a.eval m = .map (some b)) (hx : a.eval x = encStr n) (h : MapAt w b l) (hn : n.length ≤ maxLen) :
    (execOp a.eval o).run Try.prog w = .ok (.value ((atE l n).getD zF)) w := by
  obtain ⟨v, ps, hrun, hv⟩ := World.ownsMap.lookup h keyS Try.underlying49 (zeroF w) (zd := .held zF) (zp := []) rfl (keyOf_enc n hn)
  rw [entD_at] at hv
  obtain rfl : v = (atE l n).getD zF := by simp [heldE] at hv; exact hv.1
  unfold execOp
  simp [ho, hm, hx, hrun, Result.andThen]
theorem st_put (m x y : Operand) (v : Value) (ho : o.op = .mapUpdate 49 m x y) (hm : a.eval m = .map (some b)) (hx : a.eval x = encStr n) (hy : a.eval y = v) (h : MapAt w b l) (hn : n.length ≤ maxLen) (hl : l.length < maxLen)
    (hk : ∀ w', MapAt w' b (putE l n v) → Only b w w' → K (a.put o.dst undef) w') : o.wp Try.prog a w K Q := by
  obtain ⟨w', hrun, r1, r2⟩ := World.ownsMap.store h keyS Try.underlying49 hl (keyOf_enc n hn) (val := v) (d := .held v) (ps := []) rfl
  rw [entD_put] at r1
  have r3 := own_exact r1
  rw [entD_size] at r3
  unfold Oper.wp
  simp [execOp, ho, hm, hx, hy, hrun, Result.andThen]
  exact hk _ r3 (turned_only r2)
theorem st_del (m x : Operand) (ho : o.op = .call { callee := .builtin .delete, args := #[m, x], argTypes := #[49, 9] }) (hm : a.eval m = .map (some b)) (hx : a.eval x = encStr n) (h : MapAt w b l) (hn : n.length ≤ maxLen)
    (hk : ∀ w', MapAt w' b (delE l n) → Only b w w' → K (a.put o.dst (.tuple #[])) w') : o.wp Try.prog a w K Q := by
  obtain ⟨w', hrun, r1, r2⟩ := World.ownsMap.drop h keyS Try.underlying49 (keyOf_enc n hn) o.type
  rw [entD_del] at r1
  have r3 := own_exact r1
  rw [entD_size] at r3
  unfold Oper.wp
  simp [execOp, ho, resolve, invoke, builtin, hm, hx, hrun, Result.andThen]
  exact hk _ r3 (turned_only r2)
theorem run_mapLen (m : Operand) (ho : o.op = .call { callee := .builtin .len, args := #[m], argTypes := #[49] }) (hm : a.eval m = .map (some b)) (h : MapAt w b l) :
    (execOp a.eval o).run Try.prog w = .ok (.value (.int .i64 l.length)) w := by
  have := World.ownsMap.len h Try.underlying49 o.type
  rw [entD_size] at this
  unfold execOp
  simp [ho, resolve, invoke, builtin, hm, this, Result.andThen]
theorem wl_run1 (hgd : o.guard = none) (v : Value) (hr : (execOp a.eval o).run Try.prog w = .ok (.value v) w) (hk : wpList Try.prog ops Q rest (a.put o.dst v) w) : wpList Try.prog ops Q (o :: rest) a w :=
  wpList_plain hgd fun K hK => by
    unfold Oper.wp
    rw [hr]
    exact hK _ _ hk
theorem wg_run1 (g : Nat) (c : Bool) (d : Nat) (hg : o.guard = some (g, c)) (hd : (ops[g]?).bind (·.dst) = some d) (hv : a.tmps[d]? = some (.bool c)) (v : Value) (hr : (execOp a.eval o).run Try.prog w = .ok (.value v) w) (hk : wpList Try.prog ops Q rest (a.put o.dst v) w) : wpList Try.prog ops Q (o :: rest) a w :=
  wpList_guarded g c d hg hd hv fun K hK => by
    unfold Oper.wp
    rw [hr]
    exact hK _ _ hk
theorem wl_mapLen (hgd : o.guard = none) (m : Operand) (b : Nat) (l : Ents) (ho : o.op = .call { callee := .builtin .len, args := #[m], argTypes := #[49] }) (hm : a.eval m = .map (some b)) (h : MapAt w b l)
    (hk : wpList Try.prog ops Q rest (a.put o.dst (.int .i64 l.length)) w) : wpList Try.prog ops Q (o :: rest) a w := wl_run1 hgd _ (run_mapLen m ho hm h) hk
theorem wl_put (hgd : o.guard = none) (m x y : Operand) (n : Nm) (v : Value) (b : Nat) (l : Ents) (ho : o.op = .mapUpdate 49 m x y) (hm : a.eval m = .map (some b)) (hx : a.eval x = encStr n) (hy : a.eval y = v) (h : MapAt w b l) (hn : n.length ≤ maxLen) (hl : l.length < maxLen)
    (hk : ∀ w', MapAt w' b (putE l n v) → Only b w w' → wpList Try.prog ops Q rest (a.put o.dst undef) w') : wpList Try.prog ops Q (o :: rest) a w :=
  wpList_plain hgd fun K hK => st_put m x y v ho hm hx hy h hn hl fun w' h1 h2 => hK _ _ (hk w' h1 h2)
theorem wl_makeMap (hgd : o.guard = none) (ho : o.op = .makeMap 49 none)
    (hk : ∀ b w', MapAt w' b [] → w.heap.size ≤ b → Below w.heap.size w w' → wpList Try.prog ops Q rest (a.put o.dst (.map (some b))) w') : wpList Try.prog ops Q (o :: rest) a w :=
  wpList_plain hgd fun K hK => by
    unfold Oper.wp
    simp [execOp, ho, run_makeMap, Result.andThen]
    exact hK _ _ (hk _ _ (MapAt.made w) (Nat.le_refl _) ((Below.refl _ _).alloc (Nat.le_refl _) _))
theorem wl_del (hgd : o.guard = none) (m x : Operand) (n : Nm) (b : Nat) (l : Ents) (ho : o.op = .call { callee := .builtin .delete, args := #[m, x], argTypes := #[49, 9] }) (hm : a.eval m = .map (some b)) (hx : a.eval x = encStr n) (h : MapAt w b l) (hn : n.length ≤ maxLen)
    (hk : ∀ w', MapAt w' b (delE l n) → Only b w w' → wpList Try.prog ops Q rest (a.put o.dst (.tuple #[])) w') : wpList Try.prog ops Q (o :: rest) a w :=
  wpList_plain hgd fun K hK => st_del m x ho hm hx h hn fun w' h1 h2 => hK _ _ (hk w' h1 h2)
theorem wl_lookE (hgd : o.guard = none) (m x : Operand) (n : Nm) (b : Nat) (l : Ents) (v : Value) (t : Bool) (hv : (atE l n).getD zF = v) (ht : (atE l n).isSome = t) (ho : o.op = .lookup 49 m x true) (hm : a.eval m = .map (some b)) (hx : a.eval x = encStr n) (h : MapAt w b l) (hn : n.length ≤ maxLen)
    (hk : wpList Try.prog ops Q rest (a.put o.dst (.tuple #[v, .bool t])) w) : wpList Try.prog ops Q (o :: rest) a w := wl_run1 hgd _ (hv ▸ ht ▸ run_look2 m x ho hm hx h hn) hk
end
theorem atE_ins (x : Nm × Value) (n : Nm) : ∀ l : Ents, (∀ p ∈ l, p.1 ≠ x.1) → atE (insE x l) n = if n = x.1 then some x.2 else atE l n
  | [], _ => by
    show (List.find? (fun p => p.1 == n) [x]).map (·.2) = _
    by_cases h : n = x.1
    · subst h; simp
    · rw [if_neg h]; simp [atE, List.find?_cons, beq_eq_false_iff_ne.2 (Ne.symm h)]
  | y :: r, hne => by
    have ih := atE_ins x n r fun p hp => hne p (by simp [hp])
    have hy : y.1 ≠ x.1 := hne y (by simp)
    unfold insE
    by_cases hb : bytesBefore x.1 y.1 = true
    · rw [if_pos hb]
      unfold atE
      rw [List.find?_cons]
      by_cases h : n = x.1
      · subst h; simp
      · rw [if_neg h]; simp [beq_eq_false_iff_ne.2 (Ne.symm h)]
    · rw [if_neg hb]
      unfold atE at ih ⊢
      rw [List.find?_cons, List.find?_cons]
      by_cases h : y.1 = n
      · rw [if_neg (fun e => hy (h.trans e))]; simp [h]
      · simp only [h, beq_eq_false_iff_ne.2 h]; exact ih
theorem atE_del (n m : Nm) (l : Ents) : atE (delE l m) n = if n = m then none else atE l n := by
  unfold atE delE
  by_cases h : n = m
  · subst h
    rw [if_pos rfl, List.find?_eq_none.2]
    · rfl
    · intro p hp
      have := (List.mem_filter.1 hp).2
      simpa using this
  · rw [if_neg h]
    congr 1
    induction l with
    | nil => rfl
    | cons y r ih =>
      rw [List.filter_cons]
      by_cases hy : y.1 = m
      · have e1 : (!(y.1 == m)) = false := by simp [hy]
        have e2 : (y.1 == n) = false := by simp [hy, Ne.symm h]
        rw [e1, if_neg (by decide), ih, List.find?_cons, e2]
      · have e1 : (!(y.1 == m)) = true := by simp [hy]
        rw [e1, if_pos rfl, List.find?_cons, List.find?_cons, ih]
theorem atE_put (l : Ents) (m n : Nm) (v : Value) : atE (putE l m v) n = if n = m then some v else atE l n := by
  unfold putE
  rw [atE_ins (m, v) n _ (fun p hp => by have := (List.mem_filter.1 hp).2; simpa using this), atE_del]
  by_cases h : n = m
  · rw [if_pos h, if_pos h]
  · rw [if_neg h, if_neg h, if_neg h]
theorem insE_len (x : Nm × Value) : ∀ l : Ents, (insE x l).length = l.length + 1
  | [] => rfl
  | y :: r => by
    unfold insE
    by_cases hb : bytesBefore x.1 y.1 = true
    · rw [if_pos hb]; simp
    · rw [if_neg hb]; simp [insE_len x r]
theorem delE_len_none (l : Ents) (n : Nm) (h : atE l n = none) : (delE l n).length = l.length := by
  unfold atE at h
  rw [Option.map_eq_none_iff, List.find?_eq_none] at h
  unfold delE
  rw [List.filter_eq_self.2]
  intro p hp
  have := h p hp
  simpa using this
theorem putE_len (l : Ents) (n : Nm) (v : Value) (h : atE l n = none) : (putE l n v).length = l.length + 1 := by
  unfold putE
  rw [insE_len, delE_len_none l n h]
theorem delE_len_some : ∀ (l : Ents) (n : Nm), l.Pairwise (fun p q => p.1 ≠ q.1) → (atE l n).isSome = true → (delE l n).length + 1 = l.length
  | [], n, _, h => by simp [atE] at h
  | y :: r, n, hp, h => by
    have hr := List.Pairwise.of_cons hp
    have hy := (List.pairwise_cons.1 hp).1
    unfold delE
    rw [List.filter_cons]
    by_cases e : y.1 = n
    · have e1 : (!(y.1 == n)) = false := by simp [e]
      rw [e1, if_neg (by decide)]
      have h2 : atE r n = none := by
        unfold atE
        rw [Option.map_eq_none_iff, List.find?_eq_none]
        intro p hp
        have := hy p hp
        rw [e] at this
        simpa using Ne.symm this
      have := delE_len_none r n h2
      unfold delE at this
      rw [this, List.length_cons]
    · have e1 : (!(y.1 == n)) = true := by simp [e]
      rw [e1, if_pos rfl, List.length_cons, List.length_cons]
      have h2 : (atE r n).isSome = true := by
        unfold atE at h ⊢
        rw [List.find?_cons, beq_eq_false_iff_ne.2 e] at h
        exact h
      have := delE_len_some r n hr h2
      unfold delE at this
      omega
theorem rise_ne {l : Ents} (h : riseE l) (irr : ∀ a, bytesBefore a a = false) : l.Pairwise (fun p q => p.1 ≠ q.1) :=
  h.imp fun {p q} hb e => by rw [e, irr] at hb; cases hb
end Go.Proofs.Ytfklfgaomcbchaa

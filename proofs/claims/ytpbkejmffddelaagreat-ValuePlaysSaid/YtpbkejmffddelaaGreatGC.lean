/-
  Several own texts in one: ZsetK, ZMap, ZsetL, ZsetM, ZsetN, ZsetO, ZsetP, ZsetQ, ZsetR. Own work.
-/
import Derived.Maps.OwnSet
import Derived.Maps.RangeWalk
import Derived.Sort.KeysCollected
import Derived.StringKeys
import Derived.Test.YtpbkejmffddelaaGreatGA
import Derived.Test.YtpbkejmffddelaaGreatGB
set_option linter.unusedVariables false
set_option linter.unusedSimpArgs false
/-
  A set's behind: contract. Own work.
-/
namespace Go.Proofs.YtpbkejmffddelaaGreat
open Go.RowKit Go.Shelf
theorem own_at {w w' : World} {base e size n : Nat} {v : Value} {xs : List Value} (h : w.ownsRow base e size v n xs) (hb : ∀ k, v.ownBlock = some k → w'.heap[k]? = w.heap[k]?) : w'.ownsRow base e size v n xs := by
  refine ⟨h.1, h.2.imp id ?_⟩
  rintro ⟨g, cap, cur, rfl, h1, h2, h3⟩
  exact ⟨g, cap, cur, rfl, h1, (hb g rfl).trans h2, h3⟩
theorem own_butz {w w' : World} {base e size n : Nat} {v : Value} {xs : List Value} {S : List Nat} (h : w.ownsRow base e size v n xs) (hb : ButZ S w w') (hS : ∀ k ∈ S, k < base) : w'.ownsRow base e size v n xs :=
  own_at h fun k hk => hb.block k (h.lt k hk).2 fun hm => absurd (hS k hm) (by have := (h.lt k hk).1; omega)
theorem wl_build1B {P : Program} {ops : Array Oper} {rest : List Oper} {o : Oper} {a : Act} {w : World} {Q : Exit → Act → World → Prop} (hgd : o.guard = none) (t : TypeId) (x : Operand) (ho : o.op = .buildSlice t 1 #[(0, x)]) (e : TypeId) (i : TypeInfo) (z : Value) (M : List Value) (n : Nat) (ht : P.underlying t = some (.slice e)) (hi : P.info? e = some i) (hz : i.zero = some z) (hzs : z.cells.size = n) (hsz : i.size = n) (hl : M.length = n) (h0 : 0 < n) (hn : n ≤ 1000) (hx : a.eval x = .agg M.toArray)
    (hk : ∀ g w', Row w' e g M → w.heap.size ≤ g → g < w'.heap.size → Below w.heap.size w w' → wpList P ops Q rest (a.put o.dst (.slice (some ⟨g, 0, none⟩) 1 1)) w') : wpList P ops Q (o :: rest) a w :=
  wpList_plain hgd fun K hK => st_build1B t x ho e i z M n ht hi hz hzs hsz hl h0 hn hx fun g w' h1 h2 h3 h4 => hK _ _ (hk g w' h1 h2 h3 h4)
theorem own_lo {w : World} {base base2 e size n : Nat} {v : Value} {xs : List Value} (h : w.ownsRow base e size v n xs) (hb : base2 ≤ base) : w.ownsRow base2 e size v n xs := by
  refine ⟨h.1, h.2.imp id ?_⟩
  rintro ⟨g, cap, cur, rfl, h1, h2⟩
  exact ⟨g, cap, cur, rfl, Nat.le_trans hb h1, h2⟩
abbrev scsC (l : List Sc) : List Value := l.flatMap Sc.cells
theorem scsC_app (a b : List Sc) : scsC (a ++ b) = scsC a ++ scsC b := by simp [scsC]
theorem scsC_len (l : List Sc) : (scsC l).length = l.length * 2 := by
  induction l with
  | nil => rfl
  | cons p r ih =>
    show (p.cells ++ scsC r).length = (r.length + 1) * 2
    rw [List.length_append, ih]
    show 2 + _ = _
    omega
/-- A list of members of one's own. -/
abbrev OwnS (w : World) (T : Nat) (v : Value) (l : List Sc) : Prop := w.ownsRow T 99 2 v l.length (scsC l)
theorem score_info : ∃ i, Tryz.prog.info? 99 = some i ∧ i.zero = some (.agg #[.string ByteArray.empty, .int .i64 0]) ∧ i.size = 2 ∧ i.bytes = 24 := by
  have h : (Tryz.prog.info? 99).map (fun i => (i.zero, i.size, i.bytes)) = some (some (.agg #[.string ByteArray.empty, .int .i64 0]), 2, 24) := by kernel_rfl
  exact info_parts h
theorem one_sc (a : Sc) : ∀ u ∈ a.cells, u.oneCell' = true := by
  intro u hu
  simp [Sc.cells] at hu
  rcases hu with rfl | rfl <;> rfl
theorem neq_nil_map (m : Nat) (w : World) : (binOp .neq 146 (.map (some m)) (.map none)).run Tryz.prog w = .ok (.bool true) w := by kernel_rfl
set_option maxRecDepth 100000 in
theorem made_any (w : World) (gz mb : Nat) (x : Value) (h : Row w 152 gz [.map (some mb), x]) : Calls Tryz.prog 116 #[ptr gz] w fun e w' => e = .returned (.bool true) ∧ w = w' := by
  have c0 := h.cell (j := 0) rfl
  have hn := neq_nil_map mb
  go_enter Tryz.func116, Tryz.ntmps116
  go_wp2_with fail
  go_ret
  exact ⟨rfl, rfl⟩
end Go.Proofs.YtpbkejmffddelaaGreat

/-
  A map from members to scores: what it has, as a list of names and values; look-up, store, delete, length. Own work, over the library's maps.
-/
namespace Go.Proofs.YtpbkejmffddelaaGreat
open Go.RowKit Go.Maps Go.ChangeMaps
abbrev Ents := List (Nm × Value)
/-- An element reads as itself. -/
def heldE : Value → Option (DataW Value × List MemPlace) := fun v => some (.held v, [])
def entD (l : Ents) : DataW Value := .map (l.map fun p => (.string p.1, .held p.2))
def insE (x : Nm × Value) : Ents → Ents
  | [] => [x]
  | y :: r => if bytesBefore x.1 y.1 then x :: y :: r else y :: insE x r
def delE (l : Ents) (n : Nm) : Ents := l.filter fun p => !(p.1 == n)
def putE (l : Ents) (n : Nm) (v : Value) : Ents := insE (n, v) (delE l n)
def atE (l : Ents) (n : Nm) : Option Value := (l.find? fun p => p.1 == n).map (·.2)
def riseE (l : Ents) : Prop := l.Pairwise fun p q => bytesBefore p.1 q.1 = true
theorem entD_ins (x : Nm × Value) : ∀ l : Ents, DataW.insert (Lit.string x.1, DataW.held x.2) (l.map fun p => (Lit.string p.1, DataW.held p.2)) = (insE x l).map fun p => (Lit.string p.1, DataW.held p.2)
  | [] => rfl
  | y :: r => by
    simp only [List.map_cons, DataW.insert, insE, Lit.before]
    by_cases h : bytesBefore x.1 y.1 = true
    · simp only [h, if_true]; rfl
    · simp only [h]; rw [entD_ins x r]; rfl
theorem entD_filter (l : Ents) (n : Nm) : (l.map fun p => ((Lit.string p.1, DataW.held p.2) : Lit × DataW Value)).filter (fun p => !p.1.sameKey (.string n)) = (delE l n).map fun p => (Lit.string p.1, DataW.held p.2) := by
  unfold delE
  rw [List.filter_map]
  rfl
theorem entD_put (l : Ents) (n : Nm) (v : Value) : (entD l).put (.string n) (.held v) = entD (putE l n v) := by
  show DataW.map (DataW.insert (Lit.string n, DataW.held v) ((l.map fun p => ((Lit.string p.1, DataW.held p.2) : Lit × DataW Value)).filter fun p => !p.1.sameKey (.string n))) = _
  rw [entD_filter, entD_ins (n, v)]
  rfl
theorem entD_del (l : Ents) (n : Nm) : (entD l).del (.string n) = entD (delE l n) := by
  show DataW.map ((l.map fun p => ((Lit.string p.1, DataW.held p.2) : Lit × DataW Value)).filter fun p => !p.1.sameKey (.string n)) = _
  rw [entD_filter]
  rfl
theorem entD_find (l : Ents) (n : Nm) : (l.map fun p => ((Lit.string p.1, DataW.held p.2) : Lit × DataW Value)).find? (fun p => p.1.sameKey (.string n)) = (l.find? fun p => p.1 == n).map fun p => (Lit.string p.1, DataW.held p.2) := by
  rw [List.find?_map]
  rfl
theorem entD_at (l : Ents) (n : Nm) (z : Value) : (entD l).atKey (.string n) (.held z) = .held ((atE l n).getD z) := by
  unfold entD atE DataW.atKey
  simp only [entD_find]
  cases l.find? fun p => p.1 == n <;> rfl
theorem entD_has (l : Ents) (n : Nm) : has (entD l) (.string n) = (atE l n).isSome := by
  show (l.map fun p => ((Lit.string p.1, DataW.held p.2) : Lit × DataW Value)).any (fun p => p.1.sameKey (.string n)) = _
  rw [List.any_map]
  unfold atE
  rw [Option.isSome_map]
  apply Bool.eq_iff_iff.2
  rw [List.find?_isSome]
  simp [Lit.sameKey]
theorem entD_size (l : Ents) : size (entD l) = l.length := by show (l.map _).length = _; simp
theorem entD_keys (l : Ents) : strKeys (entD l) = l.map (·.1) := by
  show (l.map fun p => ((Lit.string p.1, DataW.held p.2) : Lit × DataW Value)).map (fun p => strOf p.1) = _
  rw [List.map_map]
  rfl
/-- Block b is a map that has just these. -/
def MapAt (w : World) (b : Nat) (l : Ents) : Prop := w.ownsMap Tryz.prog 9 heldE b l.length (entD l)
theorem keyS : Keyed Tryz.prog 9 := string_keyed Tryz.underlying9
theorem keyOf_enc (n : Nm) (h : n.length ≤ maxLen) : keyOf Tryz.prog 9 (encStr n) = some (.string n) := by
  have := Go.WideMaps.keyOf_string_mk (P := Tryz.prog) (k := 9) Tryz.underlying9 (s := ⟨n.toArray⟩) (by show n.toArray.size ≤ _; simpa using h)
  simpa using this
theorem own_exact {w : World} {b n : Nat} {D : DataW Value} (h : w.ownsMap Tryz.prog 9 heldE b n D) : w.ownsMap Tryz.prog 9 heldE b (size D) D := by
  obtain ⟨es, clock, hb, F, hs, rfl⟩ := h
  exact ⟨es, clock, hb, F, by simp [size, length_sorted], rfl⟩
section
variable {w w' : World} {b B : Nat} {l : Ents}
theorem MapAt.lt (h : MapAt w b l) : b < w.heap.size := World.ownsMap.lt h
theorem MapAt.rise (h : MapAt w b l) : riseE l := by
  obtain ⟨es, clock, hb, F, hs, hD⟩ := h
  have h1 := Go.WideShapes.rising_pairwise _ (fit_rising keyS F)
  have h2 : (l.map fun p => ((Lit.string p.1, DataW.held p.2) : Lit × DataW Value)) = _ := DataW.map.inj hD
  rw [← h2, List.pairwise_map] at h1
  exact h1
theorem MapAt.same (h : MapAt w b l) (e : w'.heap[b]? = w.heap[b]?) : MapAt w' b l := by
  obtain ⟨es, clock, hb, F, hs, hD⟩ := h
  exact ⟨es, clock, e.trans hb, F, hs, hD⟩
theorem MapAt.later (h : MapAt w b l) (hb : Below w.heap.size w w') : MapAt w' b l := h.same (hb.block b h.lt)
theorem MapAt.below (h : MapAt w b l) (hb : Below B w w') (hB : b < B) : MapAt w' b l := h.same (hb.block b hB)
theorem MapAt.only {g : Nat} (h : MapAt w b l) (ho : Only g w w') (hne : b ≠ g) : MapAt w' b l := h.same (ho.block b hne)
theorem MapAt.ne_row {t g : Nat} {vs : List Value} (h : MapAt w b l) (hr : Row w t g vs) : b ≠ g := by
  obtain ⟨es, clock, hb, _⟩ := h
  intro e
  subst e
  unfold Row at hr
  rw [hb] at hr
  cases hr
theorem MapAt.made (w : World) : MapAt (w.alloc (.map #[] 0)) w.heap.size [] := World.ownsMap_made w _ _ _
theorem turned_only {g : Nat} (h : w.mapTurned w' g) : Only g w w' := by
  obtain ⟨es, clock, es', clock', hb, rfl⟩ := h
  exact ⟨rfl, rfl, rfl, by simp [ChangeMaps.setBlock], fun k hk => Go.ChangeMaps.heap_setBlock_other hb _ hk⟩
end
/-- A score that is not there. -/
abbrev zF : Value := .int .i64 0
theorem zeroF (w : World) : (zeroValue 3).run Tryz.prog w = .ok zF w := by kernel_rfl
theorem szE {w : World} {b n : Nat} {l : Ents} (h : MapAt w b l) : l.length < maxLen ∨ maxLen ≤ l.length := by omega
section
variable {ops : Array Oper} {rest : List Oper} {o : Oper} {a : Act} {w : World} {Q : Exit → Act → World → Prop} {K : Act → World → Prop} {b : Nat} {l : Ents} {n : Nm}
theorem run_look2 (m x : Operand) (ho : o.op = .lookup 146 m x true) (hm : a.eval m = .map (some b)) (hx : a.eval x = encStr n) (h : MapAt w b l) (hn : n.length ≤ maxLen) :
    (execOp a.eval o).run Tryz.prog w = .ok (.value (.tuple #[(atE l n).getD zF, .bool (atE l n).isSome])) w := by
  obtain ⟨v, ps, hrun, hv⟩ := World.ownsMap.look_ok h keyS Tryz.underlying146 (zeroF w) (zd := .held zF) (zp := []) rfl (keyOf_enc n hn)
  rw [entD_at] at hv
  rw [entD_has] at hrun
  obtain rfl : v = (atE l n).getD zF := by simp [heldE] at hv; exact hv.1
  unfold execOp
  simp [ho, hm, hx, hrun, Result.andThen]
theorem run_look1 (m x : Operand) (ho : o.op = .lookup 146 m x false) (hm : a.eval m = .map (some b)) (hx : a.eval x = encStr n) (h : MapAt w b l) (hn : n.length ≤ maxLen) :
    (execOp a.eval o).run Tryz.prog w = .ok (.value ((atE l n).getD zF)) w := by
  obtain ⟨v, ps, hrun, hv⟩ := World.ownsMap.lookup h keyS Tryz.underlying146 (zeroF w) (zd := .held zF) (zp := []) rfl (keyOf_enc n hn)
  rw [entD_at] at hv
  obtain rfl : v = (atE l n).getD zF := by simp [heldE] at hv; exact hv.1
  unfold execOp
  simp [ho, hm, hx, hrun, Result.andThen]
theorem st_put (m x y : Operand) (v : Value) (ho : o.op = .mapUpdate 146 m x y) (hm : a.eval m = .map (some b)) (hx : a.eval x = encStr n) (hy : a.eval y = v) (h : MapAt w b l) (hn : n.length ≤ maxLen) (hl : l.length < maxLen)
    (hk : ∀ w', MapAt w' b (putE l n v) → Only b w w' → K (a.put o.dst undef) w') : o.wp Tryz.prog a w K Q := by
  obtain ⟨w', hrun, r1, r2⟩ := World.ownsMap.store h keyS Tryz.underlying146 hl (keyOf_enc n hn) (val := v) (d := .held v) (ps := []) rfl
  rw [entD_put] at r1
  have r3 := own_exact r1
  rw [entD_size] at r3
  unfold Oper.wp
  simp [execOp, ho, hm, hx, hy, hrun, Result.andThen]
  exact hk _ r3 (turned_only r2)
theorem st_del (m x : Operand) (ho : o.op = .call { callee := .builtin .delete, args := #[m, x], argTypes := #[146, 9] }) (hm : a.eval m = .map (some b)) (hx : a.eval x = encStr n) (h : MapAt w b l) (hn : n.length ≤ maxLen)
    (hk : ∀ w', MapAt w' b (delE l n) → Only b w w' → K (a.put o.dst (.tuple #[])) w') : o.wp Tryz.prog a w K Q := by
  obtain ⟨w', hrun, r1, r2⟩ := World.ownsMap.drop h keyS Tryz.underlying146 (keyOf_enc n hn) o.type
  rw [entD_del] at r1
  have r3 := own_exact r1
  rw [entD_size] at r3
  unfold Oper.wp
  simp [execOp, ho, resolve, invoke, builtin, hm, hx, hrun, Result.andThen]
  exact hk _ r3 (turned_only r2)
theorem run_mapLen (m : Operand) (ho : o.op = .call { callee := .builtin .len, args := #[m], argTypes := #[146] }) (hm : a.eval m = .map (some b)) (h : MapAt w b l) :
    (execOp a.eval o).run Tryz.prog w = .ok (.value (.int .i64 l.length)) w := by
  have := World.ownsMap.len h Tryz.underlying146 o.type
  rw [entD_size] at this
  unfold execOp
  simp [ho, resolve, invoke, builtin, hm, this, Result.andThen]
theorem wl_run1 (hgd : o.guard = none) (v : Value) (hr : (execOp a.eval o).run Tryz.prog w = .ok (.value v) w) (hk : wpList Tryz.prog ops Q rest (a.put o.dst v) w) : wpList Tryz.prog ops Q (o :: rest) a w :=
  wpList_plain hgd fun K hK => by
    unfold Oper.wp
    rw [hr]
    exact hK _ _ hk
theorem wg_run1 (g : Nat) (c : Bool) (d : Nat) (hg : o.guard = some (g, c)) (hd : (ops[g]?).bind (·.dst) = some d) (hv : a.tmps[d]? = some (.bool c)) (v : Value) (hr : (execOp a.eval o).run Tryz.prog w = .ok (.value v) w) (hk : wpList Tryz.prog ops Q rest (a.put o.dst v) w) : wpList Tryz.prog ops Q (o :: rest) a w :=
  wpList_guarded g c d hg hd hv fun K hK => by
    unfold Oper.wp
    rw [hr]
    exact hK _ _ hk
theorem wl_mapLen (hgd : o.guard = none) (m : Operand) (b : Nat) (l : Ents) (ho : o.op = .call { callee := .builtin .len, args := #[m], argTypes := #[146] }) (hm : a.eval m = .map (some b)) (h : MapAt w b l)
    (hk : wpList Tryz.prog ops Q rest (a.put o.dst (.int .i64 l.length)) w) : wpList Tryz.prog ops Q (o :: rest) a w := wl_run1 hgd _ (run_mapLen m ho hm h) hk
theorem wl_put (hgd : o.guard = none) (m x y : Operand) (n : Nm) (v : Value) (b : Nat) (l : Ents) (ho : o.op = .mapUpdate 146 m x y) (hm : a.eval m = .map (some b)) (hx : a.eval x = encStr n) (hy : a.eval y = v) (h : MapAt w b l) (hn : n.length ≤ maxLen) (hl : l.length < maxLen)
    (hk : ∀ w', MapAt w' b (putE l n v) → Only b w w' → wpList Tryz.prog ops Q rest (a.put o.dst undef) w') : wpList Tryz.prog ops Q (o :: rest) a w :=
  wpList_plain hgd fun K hK => st_put m x y v ho hm hx hy h hn hl fun w' h1 h2 => hK _ _ (hk w' h1 h2)
theorem wl_makeMap (hgd : o.guard = none) (ho : o.op = .makeMap 146 none)
    (hk : ∀ b w', MapAt w' b [] → w.heap.size ≤ b → Below w.heap.size w w' → wpList Tryz.prog ops Q rest (a.put o.dst (.map (some b))) w') : wpList Tryz.prog ops Q (o :: rest) a w :=
  wpList_plain hgd fun K hK => by
    unfold Oper.wp
    simp [execOp, ho, run_makeMap, Result.andThen]
    exact hK _ _ (hk _ _ (MapAt.made w) (Nat.le_refl _) ((Below.refl _ _).alloc (Nat.le_refl _) _))
theorem wl_del (hgd : o.guard = none) (m x : Operand) (n : Nm) (b : Nat) (l : Ents) (ho : o.op = .call { callee := .builtin .delete, args := #[m, x], argTypes := #[146, 9] }) (hm : a.eval m = .map (some b)) (hx : a.eval x = encStr n) (h : MapAt w b l) (hn : n.length ≤ maxLen)
    (hk : ∀ w', MapAt w' b (delE l n) → Only b w w' → wpList Tryz.prog ops Q rest (a.put o.dst (.tuple #[])) w') : wpList Tryz.prog ops Q (o :: rest) a w :=
  wpList_plain hgd fun K hK => st_del m x ho hm hx h hn fun w' h1 h2 => hK _ _ (hk w' h1 h2)
theorem wl_lookE (hgd : o.guard = none) (m x : Operand) (n : Nm) (b : Nat) (l : Ents) (v : Value) (t : Bool) (hv : (atE l n).getD zF = v) (ht : (atE l n).isSome = t) (ho : o.op = .lookup 146 m x true) (hm : a.eval m = .map (some b)) (hx : a.eval x = encStr n) (h : MapAt w b l) (hn : n.length ≤ maxLen)
    (hk : wpList Tryz.prog ops Q rest (a.put o.dst (.tuple #[v, .bool t])) w) : wpList Tryz.prog ops Q (o :: rest) a w := wl_run1 hgd _ (hv ▸ ht ▸ run_look2 m x ho hm hx h hn) hk
end
theorem atE_ins (x : Nm × Value) (n : Nm) : ∀ l : Ents, (∀ p ∈ l, p.1 ≠ x.1) → atE (insE x l) n = if n = x.1 then some x.2 else atE l n
  | [], _ => by
    show (List.find? (fun p => p.1 == n) [x]).map (·.2) = _
    by_cases h : n = x.1
    · subst h; simp
    · rw [if_neg h]; simp [atE, List.find?_cons, beq_eq_false_iff_ne.2 (Ne.symm h)]
  | y :: r, hne => by
    have ih := atE_ins x n r fun p hp => hne p (by simp [hp])
    have hy : y.1 ≠ x.1 := hne y (by simp)
    unfold insE
    by_cases hb : bytesBefore x.1 y.1 = true
    · rw [if_pos hb]
      unfold atE
      rw [List.find?_cons]
      by_cases h : n = x.1
      · subst h; simp
      · rw [if_neg h]; simp [beq_eq_false_iff_ne.2 (Ne.symm h)]
    · rw [if_neg hb]
      unfold atE at ih ⊢
      rw [List.find?_cons, List.find?_cons]
      by_cases h : y.1 = n
      · rw [if_neg (fun e => hy (h.trans e))]; simp [h]
      · simp only [h, beq_eq_false_iff_ne.2 h]; exact ih
theorem atE_del (n m : Nm) (l : Ents) : atE (delE l m) n = if n = m then none else atE l n := by
  unfold atE delE
  by_cases h : n = m
  · subst h
    rw [if_pos rfl, List.find?_eq_none.2]
    · rfl
    · intro p hp
      have := (List.mem_filter.1 hp).2
      simpa using this
  · rw [if_neg h]
    congr 1
    induction l with
    | nil => rfl
    | cons y r ih =>
      rw [List.filter_cons]
      by_cases hy : y.1 = m
      · have e1 : (!(y.1 == m)) = false := by simp [hy]
        have e2 : (y.1 == n) = false := by simp [hy, Ne.symm h]
        rw [e1, if_neg (by decide), ih, List.find?_cons, e2]
      · have e1 : (!(y.1 == m)) = true := by simp [hy]
        rw [e1, if_pos rfl, List.find?_cons, List.find?_cons, ih]
theorem atE_put (l : Ents) (m n : Nm) (v : Value) : atE (putE l m v) n = if n = m then some v else atE l n := by
  unfold putE
  rw [atE_ins (m, v) n _ (fun p hp => by have := (List.mem_filter.1 hp).2; simpa using this), atE_del]
  by_cases h : n = m
  · rw [if_pos h, if_pos h]
  · rw [if_neg h, if_neg h, if_neg h]
theorem insE_len (x : Nm × Value) : ∀ l : Ents, (insE x l).length = l.length + 1
  | [] => rfl
  | y :: r => by
    unfold insE
    by_cases hb : bytesBefore x.1 y.1 = true
    · rw [if_pos hb]; simp
    · rw [if_neg hb]; simp [insE_len x r]
theorem delE_len_none (l : Ents) (n : Nm) (h : atE l n = none) : (delE l n).length = l.length := by
  unfold atE at h
  rw [Option.map_eq_none_iff, List.find?_eq_none] at h
  unfold delE
  rw [List.filter_eq_self.2]
  intro p hp
  have := h p hp
  simpa using this
theorem putE_len (l : Ents) (n : Nm) (v : Value) (h : atE l n = none) : (putE l n v).length = l.length + 1 := by
  unfold putE
  rw [insE_len, delE_len_none l n h]
theorem delE_len_some : ∀ (l : Ents) (n : Nm), l.Pairwise (fun p q => p.1 ≠ q.1) → (atE l n).isSome = true → (delE l n).length + 1 = l.length
  | [], n, _, h => by simp [atE] at h
  | y :: r, n, hp, h => by
    have hr := List.Pairwise.of_cons hp
    have hy := (List.pairwise_cons.1 hp).1
    unfold delE
    rw [List.filter_cons]
    by_cases e : y.1 = n
    · have e1 : (!(y.1 == n)) = false := by simp [e]
      rw [e1, if_neg (by decide)]
      have h2 : atE r n = none := by
        unfold atE
        rw [Option.map_eq_none_iff, List.find?_eq_none]
        intro p hp
        have := hy p hp
        rw [e] at this
        simpa using Ne.symm this
      have := delE_len_none r n h2
      unfold delE at this
      rw [this, List.length_cons]
    · have e1 : (!(y.1 == n)) = true := by simp [e]
      rw [e1, if_pos rfl, List.length_cons, List.length_cons]
      have h2 : (atE r n).isSome = true := by
        unfold atE at h ⊢
        rw [List.find?_cons, beq_eq_false_iff_ne.2 e] at h
        exact h
      have := delE_len_some r n hr h2
      unfold delE at this
      omega
theorem rise_ne {l : Ents} (h : riseE l) (irr : ∀ a, bytesBefore a a = false) : l.Pairwise (fun p q => p.1 ≠ q.1) :=
  h.imp fun {p q} hb e => by rw [e, irr] at hb; cases hb
end Go.Proofs.YtpbkejmffddelaaGreat

/-
  A set's behind: contract. Own work.
-/
namespace Go.Proofs.YtpbkejmffddelaaGreat
open Go.RowKit Go.Shelf
theorem run_indexStop0 {w : World} {a : Act} {o : Oper} (x y : Operand) (ps : List Lk) (l : Lk) (ho : o.op = .index 169 x y) (hx : a.eval x = .agg (lksC ps).toArray) (hy : a.eval y = .int .i64 0) (hlen : ps.length = 16) (hl : ps[0]? = some l) :
    (execOp a.eval o).run Tryz.prog w = .ok (.value (.agg l.cells.toArray)) w := run_indexStop x y ps 0 l ho hx hy hlen hl
/-- The first link's cells in a node's row. -/
theorem nxt0_some {Ls : List Nd} {j : Nat} {m : Nd} (h : Ls[j]? = some m) (h1 : 1 ≤ m.h) : nxt 0 (Ls.drop j) = ⟨some m.g, 1⟩ := by
  obtain ⟨hj, e⟩ := List.getElem?_eq_some_iff.1 h
  rw [List.drop_eq_getElem_cons hj, e]
  show (if 0 < m.h then _ else _) = _
  rw [if_pos (by omega)]
theorem nxt0_none {Ls : List Nd} {j : Nat} (h : Ls.length ≤ j) : nxt 0 (Ls.drop j) = ⟨none, 0⟩ := by
  rw [List.drop_of_length_le h]; rfl
theorem take_more {α : Type} {l : List α} {i : Nat} {x : α} (h : l[i]? = some x) : l.take (i + 1) = l.take i ++ [x] := by
  rw [List.take_add_one, h]; rfl
def SBh6n (f2 : FuncId) (c2 : Array Value) (g8 : Nat) (v7 : Value) (opn : Nat) (v : Value) : Prop :=
  match opn with
  | 0 => v = .pointer none
  | 1 | 2 | 14 => v = .bool false
  | 3 | 4 | 5 | 6 | 7 | 8 | 9 | 10 | 11 | 12 | 13 => v = undef
  | _ => True

def SBh6 (f2 : FuncId) (c2 : Array Value) (g8 gm bm hm k1 i cp7 : Nat) (A7 : Option Addr) (gk0 : Value) (mm : Nm) (ms : Int) (rr : Bool) (opn : Nat) (v : Value) : Prop :=
  match opn with
  | 0 | 4 | 5 | 6 => v = .pointer (some ⟨gm, 0, none⟩)
  | 1 | 2 => v = .bool true
  | 3 => v = .func (.func f2) #[] c2
  | 7 => v = .agg [encStr mm, .int .i64 ms].toArray
  | 8 => v = .pointer (some ⟨g8, 1, none⟩)
  | 9 => v = .int .i64 (k1 : Int)
  | 10 => v = .slice A7 i cp7
  | 11 => v = .int .i64 (i : Int)
  | 12 => v = .int .i64 ((k1 + i : Nat) : Int)
  | 13 | 14 => v = .bool rr
  | _ => True

theorem run_lenSlB {P : Program} {w : World} {a : Act} {o : Oper} (t : TypeId) (x : Operand) (A : Option Addr) (n c : Nat) (ho : o.op = .call { callee := .builtin .len, args := #[x], argTypes := #[t] }) (hu : ∃ e, P.underlying t = some (.slice e)) (hx : a.eval x = .slice A n c) :
    (execOp a.eval o).run P w = .ok (.value (.int .i64 n)) w := by
  obtain ⟨e, hu⟩ := hu
  unfold execOp
  simp only [ho, resolve, invoke, builtin, List.map_toArray, List.map_cons, List.map_nil, hx]
  go_simp
set_option maxRecDepth 100000 in
set_option maxHeartbeats 1000000 in
theorem behind_any (w : World) (B gz mb k1 k2 : Nat) (hd : Nd) (Ls : List Nd) (f1 f2 : FuncId) (c1 c2 : Array Value) (hrow : Row w 152 gz [.map (some mb), ptr hd.g]) (hZ : ZAt w B (hd :: Ls) (full Ls)) (hh : hd.h = 16) (hk1 : k1 ≤ Ls.length) (hk2 : k2 ≤ Ls.length) (hl : Ls.length ≤ 1000000)
    (hf1 : ∀ (xs : Array Value) (w : World), (callFunc f1 xs).run Tryz.prog w = .ok (.enter f1 xs) w)
    (hP1 : ∀ w1, Below w.heap.size w w1 → ∀ (i : Nat) (m : Nd), Ls[i]? = some m → Calls Tryz.prog f1 (#[m.a.val, .int .i64 (i : Int)] ++ c1) w1 (fun e w2 => e = .returned (.bool (decide (i < k1))) ∧ Below w1.heap.size w1 w2))
    (hf2 : ∀ (xs : Array Value) (w : World), (callFunc f2 xs).run Tryz.prog w = .ok (.enter f2 xs) w)
    (hP2 : ∀ w1, Below w.heap.size w w1 → ∀ (i : Nat) (m : Nd), Ls[i]? = some m → Calls Tryz.prog f2 (#[m.a.val, .int .i64 (i : Int)] ++ c2) w1 (fun e w2 => e = .returned (.bool (decide (i < k2))) ∧ Below w1.heap.size w1 w2)) :
    Calls Tryz.prog 127 #[ptr gz, .func (.func f1) #[] c1, .func (.func f2) #[] c2] w fun e w' => ∃ v, e = .returned v ∧ OwnS w' w.heap.size v (((scs Ls).drop k1).take (k2 - k1)) ∧ Below w.heap.size w w' := by
  obtain ⟨ip, hip, hiz, his, hib⟩ := score_info
  have HMd := fun w1 (hb : Below w.heap.size w w1) => made_any w1 gz mb _ (hrow.later hb)
  have HWk := walk_any w B k1 hd Ls f1 c1 hZ hh hk1 hl hf1 hP1
  have cz1 := hrow.cell (j := 1) rfl
  have Hk := hide hZ
  obtain ⟨nk, hnk⟩ : ∃ nk, (hd :: Ls)[k1]? = some nk := ⟨_, List.getElem?_eq_getElem (by rw [List.length_cons]; omega)⟩
  have hlok := hZ.lo _ _ hnk
  have HMd0 := HMd w (Below.refl _ _)
  clear HMd
  go_enter Tryz.func127, Tryz.ntmps127
  go_wp2_with fail
  refine HMd0.mono ?_
  rintro e wA ⟨rfl, rfl⟩
  clear HMd0
  go_wp2_with fail
  refine HWk.mono ?_
  rintro e wB ⟨ps, rfl, hps, hst, bB⟩
  obtain ⟨⟨km, ks⟩, gk, bk, hk⟩ := nk
  have h0 : ps[0]? = some ⟨some gk, (k1 : Int)⟩ := by
    obtain ⟨c0, n0, hp0, hN0, hs0⟩ := hst 0 (by omega)
    have e0 : c0 = k1 := hs0.low (by rw [List.length_cons]; omega) fun j m hj => (hZ.lo j m hj).2.2.1
    rw [e0] at hp0 hN0
    have e1 : (⟨⟨km, ks⟩, gk, bk, hk⟩ : Nd) = n0 := Option.some.inj (hnk.symm.trans hN0)
    rw [hp0, ← e1]
  have hl0 : (lksC ((List.range hk).map (full Ls k1)))[0]? = some (.pointer ((nxt 0 (Ls.drop k1)).to.map fun g => ⟨g, 0, none⟩)) := lks_cell0 _ _ hlok.2.2.1
  have hkp := hide (show 0 < hk from hlok.2.2.1)
  replace hl0 := hide hl0
  replace h0 := hide h0
  replace hps := hide hps
  obtain ⟨X0, hX0⟩ : ∃ X0, X0 = (nxt 0 (Ls.drop k1)).to := ⟨_, rfl⟩
  rw [← hX0] at hl0
  replace hX0 := hide hX0
  clear hst hlok HWk hZ
  go_wp2_with (first
    | (with_reducible refine wl_run (o := ⟨some 19, _, _, _, _, _⟩) rfl (.agg #[ptr gk, .int .i64 (k1 : Int)]) (run_indexStop0 (.tmp 18) _ ps ⟨some gk, (k1 : Int)⟩ rfl rfl rfl hps.out h0.out) ?_)
    | (with_reducible refine wl_alloc (o := ⟨some 8, _, _, _, _, _⟩) rfl 168 _ [.pointer none, .int .i64 0] rfl rfl rfl ?_; intro g8 w7 r7 p7 l7 b7)
    | (with_reducible refine wl_store_row (o := ⟨none, .store 168 (.tmp 8) (.tmp 19), _, _, _, _⟩) rfl 168 (.tmp 8) (.tmp 19) g8 168 _ [ptr gk, .int .i64 (k1 : Int)] rfl rfl rfl r7 (szStop _ _) rfl (by simp [Value.oneCell']) ?_; intro w8 r8 o8; have B8 := bB.trans ((b7.trans (o8.below p7)).mono bB.size); have c80 := r8.cell (j := 0) rfl; have ck2 := ((Hk.out.later B8).node _ _ hnk).cell (j := 2) rfl; have cl0 := ((Hk.out.later B8).link _ _ hnk).cell hl0.out)
    | (with_reducible refine wl_run (o := ⟨some 25, _, _, _, _, _⟩) rfl (.pointer (some ⟨bk, 0, none⟩)) (run_indexSlZ 148 (.tmp 24) _ 176 2 bk 0 hk hk rfl Tryz.underlying148 Tryz.sizeOf176 rfl rfl hkp.out) ?_))
  have lo8 : w.heap.size ≤ g8 := Nat.le_trans bB.size p7
  clear c80 ck2 cl0 cz1 hrow b7 o8 p7 l7 r7
  go_loopw [7, 9] (fun vv pv wr => ∃ i : Nat, k1 + i ≤ Ls.length ∧ (i = 0 ∨ k1 + i ≤ k2) ∧ OwnS wr w.heap.size vv (((scs Ls).drop k1).take i) ∧ pv = .pointer ((nxt 0 (Ls.drop (k1 + i))).to.map fun g => ⟨g, 0, none⟩) ∧ Row wr 168 g8 [ptr gk, .int .i64 (k1 : Int)] ∧ Below w.heap.size w wr) (fun vv _ _ => 1000000 - (match vv with | .slice _ n _ => n | _ => 0))
  case atStart => exact ⟨0, by omega, .inl rfl, World.ownsRow_nil _ _ _ _, by rw [hX0.out]; rfl, r8, B8⟩
  case round =>
    clear r8 B8 hX0
    obtain ⟨i, hi, hik, own, rfl, r8, BW⟩ := hrel
    have hlen : (((scs Ls).drop k1).take i).length = i := by rw [List.length_take, List.length_drop, List.length_map]; omega
    obtain ⟨A7, cp7, rfl⟩ : ∃ A7 cp7, u7 = .slice A7 i cp7 := by
      rcases own.2 with ⟨rfl, h0⟩ | ⟨g, cap, cur, e, _⟩
      · exact ⟨none, 0, by rw [hlen] at h0; rw [h0]⟩
      · exact ⟨some ⟨g, 0, none⟩, cap, by rw [e, hlen]⟩
    have hwb := BW.size
    by_cases hend : k1 + i = Ls.length
    · rw [nxt0_none (by omega)]
      go_wp2_with fail
      rename_i K6 hK6
      refine wp_region_valsS [] (SBh6n f2 c2 g8 (.slice A7 i cp7)) (fun _ _ wz => Below wr.heap.size wr wz) (by kernel_rfl) (by kernel_rfl) (by kernel_rfl) (by kernel_rfl) ((Below.refl _ _).drew) ?obsn ?hen
      case obsn =>
        refine ⟨?_, ?_, ?_, ?_, ?_, ?_, ?_, ?_, ?_, ?_, ?_, ?_, ?_, ?_, ?_, trivial⟩
        · refine .inl ⟨.inl rfl, ?_⟩
          exact .inl ⟨by kernel_rfl, fun L a1 w1 n h => ⟨_, rfl, run_move (.tmp 9) rfl (h.var n 9 (by kernel_rfl))⟩⟩
        · refine .inl ⟨.inl rfl, ?_⟩
          refine .inl ⟨by kernel_rfl, fun L a1 w1 n h => ⟨.bool false, rfl, ?_⟩⟩
          have e0 : a1.eval (.tmp 28) = _ := h.dep n 0 28 (by kernel_rfl) rfl
          unfold execOp
          simp only [e0]
          go_simp
        · refine .inl ⟨.inl rfl, ?_⟩
          exact .inl ⟨by kernel_rfl, fun L a1 w1 n h => ⟨_, rfl, run_move (.tmp 29) rfl (h.dep n 1 29 (by kernel_rfl) rfl)⟩⟩
        · exact .inr ⟨⟨2, true, 30, rfl, by kernel_rfl, rfl, by simp, fun v h => by rw [show v = .bool false from h]; first | exact ne_tf | exact ne_ft | exact ne_undef _⟩, by kernel_rfl, rfl⟩
        · exact .inr ⟨⟨2, true, 30, rfl, by kernel_rfl, rfl, by simp, fun v h => by rw [show v = .bool false from h]; first | exact ne_tf | exact ne_ft | exact ne_undef _⟩, by kernel_rfl, rfl⟩
        · exact .inr ⟨⟨2, true, 30, rfl, by kernel_rfl, rfl, by simp, fun v h => by rw [show v = .bool false from h]; first | exact ne_tf | exact ne_ft | exact ne_undef _⟩, by kernel_rfl, rfl⟩
        · exact .inr ⟨⟨2, true, 30, rfl, by kernel_rfl, rfl, by simp, fun v h => by rw [show v = .bool false from h]; first | exact ne_tf | exact ne_ft | exact ne_undef _⟩, by kernel_rfl, rfl⟩
        · exact .inr ⟨⟨2, true, 30, rfl, by kernel_rfl, rfl, by simp, fun v h => by rw [show v = .bool false from h]; first | exact ne_tf | exact ne_ft | exact ne_undef _⟩, by kernel_rfl, rfl⟩
        · exact .inr ⟨⟨2, true, 30, rfl, by kernel_rfl, rfl, by simp, fun v h => by rw [show v = .bool false from h]; first | exact ne_tf | exact ne_ft | exact ne_undef _⟩, by kernel_rfl, rfl⟩
        · exact .inr ⟨⟨2, true, 30, rfl, by kernel_rfl, rfl, by simp, fun v h => by rw [show v = .bool false from h]; first | exact ne_tf | exact ne_ft | exact ne_undef _⟩, by kernel_rfl, rfl⟩
        · exact .inr ⟨⟨2, true, 30, rfl, by kernel_rfl, rfl, by simp, fun v h => by rw [show v = .bool false from h]; first | exact ne_tf | exact ne_ft | exact ne_undef _⟩, by kernel_rfl, rfl⟩
        · exact .inr ⟨⟨2, true, 30, rfl, by kernel_rfl, rfl, by simp, fun v h => by rw [show v = .bool false from h]; first | exact ne_tf | exact ne_ft | exact ne_undef _⟩, by kernel_rfl, rfl⟩
        · exact .inr ⟨⟨2, true, 30, rfl, by kernel_rfl, rfl, by simp, fun v h => by rw [show v = .bool false from h]; first | exact ne_tf | exact ne_ft | exact ne_undef _⟩, by kernel_rfl, rfl⟩
        · exact .inr ⟨⟨2, true, 30, rfl, by kernel_rfl, rfl, by simp, fun v h => by rw [show v = .bool false from h]; first | exact ne_tf | exact ne_ft | exact ne_undef _⟩, by kernel_rfl, rfl⟩
        · refine .inl ⟨.inl rfl, ?_⟩
          exact .inl ⟨by kernel_rfl, fun L a1 w1 n h => ⟨_, rfl, run_pickF (.tmp 30) _ _ rfl (h.dep n 2 30 (by kernel_rfl) rfl) rfl⟩⟩
      case hen =>
        intro V w11 hV hJ
        have b11 : Below wr.heap.size wr w11 := hJ
        have hE : V 14 = .bool false := hV 14 _ rfl
        clear hV hJ
        simp only [putOps, List.setIfInBounds_toArray, List.set_cons_succ, List.set_cons_zero, Nat.reduceAdd]
        rw [hE]
        refine hK6 _ _ ?_
        have own9 := own_later own b11
        go_wp2_with fail
        go_ret
        have e9 : k2 - k1 = i := by omega
        exact ⟨_, rfl, by rw [e9]; exact own9, BW.trans (b11.mono hwb)⟩
    · have hlt : k1 + i < Ls.length := by omega
      obtain ⟨m, hm⟩ : ∃ m, Ls[k1 + i]? = some m := ⟨_, List.getElem?_eq_getElem hlt⟩
      have hmN : (hd :: Ls)[k1 + i + 1]? = some m := by rw [List.getElem?_cons_succ]; exact hm
      have hz := Hk.out.later BW
      have hmh := (hz.lo _ _ hmN).2.2.1
      have rm := hz.node _ _ hmN
      have rlm := (hz.link _ _ hmN).cell (lks_cell0 (full Ls (k1 + i + 1)) m.h hmh)
      rw [nxt0_some hm hmh]
      obtain ⟨⟨mm, ms⟩, gm, bm, hm2⟩ := m
      have hz1 := hide (show IntKind.i64.wrap ((k1 : Int) + (i : Int)) = ((k1 + i : Nat) : Int) from wrap_id (by omega) (by omega) (by omega))
      obtain ⟨rr, hrr⟩ : ∃ rr, rr = decide (k1 + i < k2) := ⟨_, rfl⟩
      have HC : ∀ w1, Below wr.heap.size wr w1 → Calls Tryz.prog f2 (#[.agg #[encStr mm, .int .i64 ms], .int .i64 ((k1 + i : Nat) : Int)] ++ c2) w1 (fun e w2 => e = .returned (.bool rr) ∧ Below w1.heap.size w1 w2) := by
        intro w1 hb
        rw [hrr]
        have H9 := hP2 w1 (BW.trans (hb.mono hwb)) (k1 + i) ⟨⟨mm, ms⟩, gm, bm, hm2⟩ hm
        exact H9
      replace hrr := hide hrr
      have hm9 : (((scs Ls).drop k1))[i]? = some ⟨mm, ms⟩ := by rw [List.getElem?_drop, List.getElem?_map, hm]; rfl
      have htm := hide (take_more hm9)
      replace hm9 := hide hm9
      replace hm := hide hm
      replace hmN := hide hmN
      have hmhp := hide (show 0 < hm2 from hmh)
      obtain ⟨Xn, hXn⟩ : ∃ Xn, Xn = (nxt 0 (Ls.drop (k1 + i + 1))).to := ⟨_, rfl⟩
      rw [show (full Ls (k1 + i + 1) 0).to = Xn from hXn.symm] at rlm
      replace hXn := hide hXn
      have hHP2 := hide hP2
      clear hP2
      go_wp2_with fail
      rename_i K6 hK6
      refine wp_region_valsG [13] (SBh6 f2 c2 g8 gm bm hm2 k1 i cp7 A7 (ptr gk) mm ms rr) (fun _ _ wz => Below wr.heap.size wr wz) (by kernel_rfl) (by kernel_rfl) (by kernel_rfl) (by kernel_rfl) ((Below.refl _ _).drew) ?obs8 ?he8
      case obs8 =>
        refine ⟨?_, ?_, ?_, ?_, ?_, ?_, ?_, ?_, ?_, ?_, ?_, ?_, ?_, ?_, ?_, trivial⟩
        · refine ⟨.inl rfl, ?_⟩
          exact .inl ⟨by kernel_rfl, fun L a1 w1 n h => ⟨_, rfl, run_move (.tmp 9) rfl (h.var n 9 (by kernel_rfl))⟩⟩
        · refine ⟨.inl rfl, ?_⟩
          refine .inl ⟨by kernel_rfl, fun L a1 w1 n h => ⟨.bool true, rfl, ?_⟩⟩
          have e0 : a1.eval (.tmp 28) = _ := h.dep n 0 28 (by kernel_rfl) rfl
          unfold execOp
          simp only [e0]
          go_simp
        · refine ⟨.inl rfl, ?_⟩
          exact .inl ⟨by kernel_rfl, fun L a1 w1 n h => ⟨_, rfl, run_move (.tmp 29) rfl (h.dep n 1 29 (by kernel_rfl) rfl)⟩⟩
        · refine ⟨.inr ⟨2, true, 30, rfl, by kernel_rfl, rfl, by simp, fun v h => h⟩, ?_⟩
          exact .inl ⟨by kernel_rfl, fun L a1 w1 n h => ⟨_, rfl, run_move (.tmp 2) rfl (h.var n 2 (by kernel_rfl))⟩⟩
        · refine ⟨.inr ⟨2, true, 30, rfl, by kernel_rfl, rfl, by simp, fun v h => h⟩, ?_⟩
          exact .inl ⟨by kernel_rfl, fun L a1 w1 n h => ⟨_, rfl, run_move (.tmp 9) rfl (h.var n 9 (by kernel_rfl))⟩⟩
        · refine ⟨.inr ⟨2, true, 30, rfl, by kernel_rfl, rfl, by simp, fun v h => h⟩, ?_⟩
          refine .inl ⟨by kernel_rfl, fun L a1 w1 n h => ⟨.pointer (some ⟨gm, 0, none⟩), rfl, ?_⟩⟩
          have e0 : a1.eval (.tmp 32) = _ := h.dep n 4 32 (by kernel_rfl) rfl
          unfold execOp
          simp only [e0]
          go_simp
        · refine ⟨.inr ⟨2, true, 30, rfl, by kernel_rfl, rfl, by simp, fun v h => h⟩, ?_⟩
          refine .inl ⟨by kernel_rfl, fun L a1 w1 n h => ⟨.pointer (some ⟨gm, 0, none⟩), rfl, ?_⟩⟩
          have e0 : a1.eval (.tmp 33) = _ := h.dep n 5 33 (by kernel_rfl) rfl
          unfold execOp
          simp only [e0]
          go_simp
        · refine ⟨.inr ⟨2, true, 30, rfl, by kernel_rfl, rfl, by simp, fun v h => h⟩, ?_⟩
          exact .inl ⟨by kernel_rfl, fun L a1 w1 n h => ⟨_, rfl, run_loadP 99 (.tmp 34) gm 0 150 [] [encStr mm, .int .i64 ms] [.slice (some ⟨bm, 0, none⟩) hm2 hm2] _ rfl (h.dep n 6 34 (by kernel_rfl) rfl) (Row.later rm h.inv) rfl Tryz.underlying99 rfl (szSc ⟨mm, ms⟩)⟩⟩
        · refine ⟨.inr ⟨2, true, 30, rfl, by kernel_rfl, rfl, by simp, fun v h => h⟩, ?_⟩
          refine .inl ⟨by kernel_rfl, fun L a1 w1 n h => ⟨.pointer (some ⟨g8, 1, none⟩), rfl, ?_⟩⟩
          have e0 : a1.eval (.tmp 8) = _ := h.var n 8 (by kernel_rfl)
          unfold execOp
          simp only [e0]
          go_simp
        · refine ⟨.inr ⟨2, true, 30, rfl, by kernel_rfl, rfl, by simp, fun v h => h⟩, ?_⟩
          exact .inl ⟨by kernel_rfl, fun L a1 w1 n h => ⟨_, rfl, run_loadA 3 (.tmp 36) ⟨g8, 1, none⟩ rfl Tryz.isAgg3 (h.dep n 8 36 (by kernel_rfl) rfl) ((Row.later r8 h.inv).cell (j := 1) (v := .int .i64 (k1 : Int)) rfl)⟩⟩
        · refine ⟨.inr ⟨2, true, 30, rfl, by kernel_rfl, rfl, by simp, fun v h => h⟩, ?_⟩
          exact .inl ⟨by kernel_rfl, fun L a1 w1 n h => ⟨_, rfl, run_move (.tmp 7) rfl (h.var n 7 (by kernel_rfl))⟩⟩
        · refine ⟨.inr ⟨2, true, 30, rfl, by kernel_rfl, rfl, by simp, fun v h => h⟩, ?_⟩
          exact .inl ⟨by kernel_rfl, fun L a1 w1 n h => ⟨_, rfl, run_lenSlB 24 (.tmp 38) A7 i cp7 rfl ⟨_, Tryz.underlying24⟩ (h.dep n 10 38 (by kernel_rfl) rfl)⟩⟩
        · refine ⟨.inr ⟨2, true, 30, rfl, by kernel_rfl, rfl, by simp, fun v h => h⟩, ?_⟩
          exact .inl ⟨by kernel_rfl, fun L a1 w1 n h => ⟨_, rfl, run_addZ (.tmp 37) (.tmp 39) rfl (h.dep n 9 37 (by kernel_rfl) rfl) (h.dep n 11 39 (by kernel_rfl) rfl) hz1.out⟩⟩
        · refine ⟨.inr ⟨2, true, 30, rfl, by kernel_rfl, rfl, by simp, fun v h => h⟩, ?_⟩
          refine .inr fun L a1 w1 n h K hK => ?_
          have y0 : a1.eval (.tmp 35) = .agg #[encStr mm, .int .i64 ms] := h.dep n 7 35 (by kernel_rfl) rfl
          have y1 : a1.eval (.tmp 40) = .int .i64 ((k1 + i : Nat) : Int) := h.dep n 12 40 (by kernel_rfl) rfl
          have y2 : a1.eval (.tmp 31) = .func (.func f2) #[] c2 := h.dep n 3 31 (by kernel_rfl) rfl
          refine st_callF2 f2 (.tmp 31) (.tmp 35) (.tmp 40) _ _ (.agg #[encStr mm, .int .i64 ms]) (.int .i64 ((k1 + i : Nat) : Int)) c2 rfl y2 y0 y1 hf2 (HC w1 h.inv) ?_
          rintro e w3 ⟨rfl, b9⟩
          exact ⟨_, rfl, hK _ w3 rfl (h.inv.trans (b9.mono h.inv.size))⟩
        · refine ⟨.inl rfl, ?_⟩
          exact .inl ⟨by kernel_rfl, fun L a1 w1 n h => ⟨_, rfl, run_pickT (.tmp 30) _ _ rfl (h.dep n 2 30 (by kernel_rfl) rfl) (h.dep n 13 41 (by kernel_rfl) rfl)⟩⟩
      case he8 =>
        intro V w11 hV hJ
        have b11 : Below wr.heap.size wr w11 := hJ
        have hE : V 14 = .bool rr := hV 14 _ rfl
        clear hV hJ
        simp only [putOps, List.setIfInBounds_toArray, List.set_cons_succ, List.set_cons_zero, Nat.reduceAdd]
        rw [hE]
        refine hK6 _ _ ?_
        have own9 := own_later own b11
        have B11 := BW.trans (b11.mono hwb)
        cases rr with
        | false =>
          go_wp2_with fail
          go_ret
          have hnl : ¬ k1 + i < k2 := by have := hrr.out; simpa using this.symm
          have e9 : k2 - k1 = i := by omega
          exact ⟨_, rfl, by rw [e9]; exact own9, B11⟩
        | true =>
          have hnl : k1 + i < k2 := by have := hrr.out; simpa using this.symm
          have r8b := r8.later b11
          have rmb : Row w11 150 gm ([] ++ ([encStr mm, .int .i64 ms] ++ [.slice (some ⟨bm, 0, none⟩) hm2 hm2])) := rm.later b11
          have hlb : w11.cell? ⟨bm, 0, none⟩ = some (.pointer (Xn.map fun g => ⟨g, 0, none⟩)) := by
            have h1 := ((Hk.out.later B11).link _ _ hmN.out).cell (lks_cell0 (full Ls (k1 + i + 1)) hm2 hmh)
            rw [h1, hXn.out]
          have hnl2 := hide hnl
          have hma : i + 1 ≤ maxLen := by simp only [maxLen]; omega
          have hmb : (i + 1) * 24 ≤ 140737488355328 := by omega
          have hwb2 := B11.size
          have h02 : 0 < 2 := by decide
          clear hnl hE HC r8 rm rlm
          go_wp2_with (first
            | (with_reducible refine wl_load_part (o := ⟨some 54, _, _, _, _, _⟩) rfl 99 (.tmp 53) gm 0 150 [] [encStr mm, .int .i64 ms] [.slice (some ⟨bm, 0, none⟩) hm2 hm2] _ rfl rfl rmb rfl Tryz.underlying99 rfl (szSc ⟨mm, ms⟩) ?_)
            | ((with_reducible refine wl_build1B (o := ⟨some 55, _, _, _, _, _⟩) rfl 24 (.tmp 54) rfl 99 ip _ [encStr mm, .int .i64 ms] 2 Tryz.underlying24 hip hiz rfl his rfl h02 (by decide) rfl ?_); intro g6 w6 r6 p6 l6 b6; have own6 := own_later own9 b6; have hwb6 := Nat.le_trans hwb2 b6.size)
            | ((at_builtin; with_reducible refine wl_append_at (o := ⟨some 56, _, _, _, _, _⟩) rfl (.tmp 50) (.tmp 55) 24 rfl w.heap.size 99 ip _ 2 24 Tryz.underlying24 hip hiz his hib rfl h02 (.slice A7 i cp7) _ _ rfl own6 ⟨g6, 0, none⟩ 1 1 [encStr mm, .int .i64 ms] rfl rfl (row_src r6) (by simp [Value.oneCell']) (by rw [hlen]; exact hma) (by rw [hlen]; exact hmb) hwb6 ?_); intro v7 w7 own7 gr7 at7; have B7 : Below w.heap.size w w7 := (B11.trans (b6.mono hwb2)).grown gr7 hwb6 (fun k hk => (own6.lt k hk).1); have z7 := Hk.out.later B7; have cn7 := (z7.node _ _ hmN.out).cell (j := 2) rfl; have cl7 := ((z7.link _ _ hmN.out).cell (lks_cell0 (full Ls (k1 + i + 1)) hm2 hmhp.out)); rw [show (full Ls (k1 + i + 1) 0).to = Xn from hXn.out.symm] at cl7)
            | (with_reducible refine wl_run (o := ⟨some 47, _, _, _, _, _⟩) rfl (.pointer (some ⟨bm, 0, none⟩)) (run_indexSlZ 148 (.tmp 46) _ 176 2 bm 0 hm2 hm2 rfl Tryz.underlying148 Tryz.sizeOf176 rfl rfl hmhp.out) ?_))
          go_roundw
          case rel =>
            refine ⟨i + 1, by omega, .inr (by have := hnl2.out; omega), ?_, by rw [hXn.out]; rfl, (r8b.later b6).grownS own6 (by decide) gr7, B7⟩
            rw [htm.out]
            rw [OwnS, scsC_app, List.length_append]
            exact own7
          case measure =>
            rcases own7.2 with ⟨e, h0⟩ | ⟨g, cap, cur, e, _⟩
            · omega
            · rw [e, hlen]
              show 1000000 - (i + 1) < 1000000 - i
              omega
end Go.Proofs.YtpbkejmffddelaaGreat

/-
  A set as a list of members: what is found, dropped, put in. Own work.
-/
namespace Go.Proofs.YtpbkejmffddelaaGreat
open Go.RowKit Go.Shelf
/-- A member's score. -/
def scoreOf (L : List Sc) (m : Nm) : Option Int := (L.find? fun a => a.m == m).map Sc.s
def dropS (L : List Sc) (m : Nm) : List Sc := L.filter fun a => !(a.m == m)
def putAt (L : List Sc) (k : Nat) (x : Sc) : List Sc := L.take k ++ x :: L.drop k
def putS (L : List Sc) (x : Sc) : List Sc := putAt (dropS L x.m) (nAhead x (dropS L x.m)) x
/-- No member twice. -/
def Uniq (L : List Sc) : Prop := L.Pairwise fun a b => a.m ≠ b.m
theorem scoreOf_none {L : List Sc} {m : Nm} : scoreOf L m = none ↔ ∀ a ∈ L, a.m ≠ m := by
  unfold scoreOf
  rw [Option.map_eq_none_iff, List.find?_eq_none]
  constructor
  · intro h a ha e; exact h a ha (by simp [e])
  · intro h a ha e; exact h a ha (by simpa using e)
theorem scoreOf_some {L : List Sc} {m : Nm} {s : Int} (h : scoreOf L m = some s) : ∃ A C, L = A ++ ⟨m, s⟩ :: C ∧ ∀ a ∈ A, a.m ≠ m := by
  unfold scoreOf at h
  rw [Option.map_eq_some_iff] at h
  obtain ⟨a, h1, h2⟩ := h
  rw [List.find?_eq_some_iff_append] at h1
  obtain ⟨h3, A, C, h4, h5⟩ := h1
  obtain ⟨am, as'⟩ := a
  have h6 : am = m := by simpa using h3
  have h7 : as' = s := h2
  subst h6; subst h7
  exact ⟨A, C, h4, fun b hb => by have := h5 b hb; simpa using this⟩
theorem dropS_none {L : List Sc} {m : Nm} (h : ∀ a ∈ L, a.m ≠ m) : dropS L m = L := by
  unfold dropS
  rw [List.filter_eq_self]
  intro a ha
  simpa using h a ha
theorem dropS_mid {A C : List Sc} {m : Nm} {s : Int} (hu : Uniq (A ++ ⟨m, s⟩ :: C)) : dropS (A ++ ⟨m, s⟩ :: C) m = A ++ C := by
  obtain ⟨h1, h2, h3⟩ := List.pairwise_append.1 hu
  have h4 := (List.pairwise_cons.1 h2).1
  have hA : dropS A m = A := dropS_none fun a ha => h3 a ha ⟨m, s⟩ (by simp)
  have hC : dropS C m = C := dropS_none fun a ha => Ne.symm (h4 a ha)
  unfold dropS at hA hC ⊢
  rw [List.filter_append, List.filter_cons, if_neg (by simp), hA, hC]
theorem dropS_mem {L : List Sc} {m : Nm} {a : Sc} (h : a ∈ dropS L m) : a ∈ L ∧ a.m ≠ m := by
  obtain ⟨h1, h2⟩ := List.mem_filter.1 h
  exact ⟨h1, by simpa using h2⟩
theorem dropS_rise {L : List Sc} {m : Nm} (h : Rising L) : Rising (dropS L m) := List.Pairwise.filter _ h
theorem dropS_uniq {L : List Sc} {m : Nm} (h : Uniq L) : Uniq (dropS L m) := List.Pairwise.filter _ h
theorem scoreOf_drop (L : List Sc) (m n : Nm) : scoreOf (dropS L m) n = if n = m then none else scoreOf L n := by
  by_cases h : n = m
  · rw [if_pos h, scoreOf_none]
    intro a ha
    rw [h]; exact (dropS_mem ha).2
  · rw [if_neg h]
    unfold scoreOf dropS
    congr 1
    induction L with
    | nil => rfl
    | cons y r ih =>
      rw [List.filter_cons]
      by_cases hy : y.m = m
      · have e1 : (!(y.m == m)) = false := by simp [hy]
        have e2 : (y.m == n) = false := by simp [hy, Ne.symm h]
        rw [e1, if_neg (by decide), ih, List.find?_cons, e2]
      · have e1 : (!(y.m == m)) = true := by simp [hy]
        rw [e1, if_pos rfl, List.find?_cons, List.find?_cons, ih]
theorem scoreOf_putAt {L : List Sc} {k : Nat} {x : Sc} (h : ∀ a ∈ L, a.m ≠ x.m) (n : Nm) : scoreOf (putAt L k x) n = if n = x.m then some x.s else scoreOf L n := by
  unfold scoreOf putAt
  have e : L = L.take k ++ L.drop k := (List.take_append_drop k L).symm
  by_cases hn : n = x.m
  · rw [if_pos hn, List.find?_append, List.find?_eq_none.2, List.find?_cons]
    · subst hn; simp
    · intro a ha hc
      exact h a (List.take_subset _ _ ha) (by rw [← hn]; simpa using hc)
  · rw [if_neg hn]
    conv => rhs; rw [e]
    rw [List.find?_append, List.find?_append, List.find?_cons, beq_eq_false_iff_ne.2 (Ne.symm hn)]
theorem Rising.putAt {L : List Sc} {x : Sc} (hr : Rising L) (h : ∀ a ∈ L, a ≠ x) : Rising (putAt L (nAhead x L) x) := by
  have hA : ∀ a ∈ L.take (nAhead x L), a.less x = true := by
    intro a ha
    obtain ⟨i, hi⟩ := List.getElem?_of_mem ha
    rw [List.getElem?_take] at hi
    by_cases hlt : i < nAhead x L
    · rw [if_pos hlt] at hi
      rw [ahead_iff hr i a hi, decide_eq_true hlt]
    · rw [if_neg hlt] at hi; cases hi
  have hC : ∀ a ∈ L.drop (nAhead x L), x.less a = true := by
    intro a ha
    obtain ⟨i, hi⟩ := List.getElem?_of_mem ha
    rw [List.getElem?_drop] at hi
    have h1 := ahead_iff (x := x) hr _ a hi
    rw [decide_eq_false (by omega)] at h1
    exact Sc.less_total h1 (h a (List.mem_of_getElem? hi))
  have hr2 : Rising (L.take (nAhead x L) ++ L.drop (nAhead x L)) := by rw [List.take_append_drop]; exact hr
  obtain ⟨p1, p2, p3⟩ := List.pairwise_append.1 hr2
  refine List.pairwise_append.2 ⟨p1, List.pairwise_cons.2 ⟨hC, p2⟩, fun a ha b hb => ?_⟩
  rcases List.mem_cons.1 hb with e | e
  · subst e; exact hA a ha
  · exact p3 a ha b e
theorem Uniq.putAt {L : List Sc} {k : Nat} {x : Sc} (hu : Uniq L) (h : ∀ a ∈ L, a.m ≠ x.m) : Uniq (putAt L k x) := by
  have hr2 : Uniq (L.take k ++ L.drop k) := by rw [List.take_append_drop]; exact hu
  obtain ⟨p1, p2, p3⟩ := List.pairwise_append.1 hr2
  refine List.pairwise_append.2 ⟨p1, List.pairwise_cons.2 ⟨fun a ha => Ne.symm (h a (List.drop_subset _ _ ha)), p2⟩, fun a ha b hb => ?_⟩
  rcases List.mem_cons.1 hb with e | e
  · subst e; exact h a (List.take_subset _ _ ha)
  · exact p3 a ha b e
theorem putL_mid (A C : List Nd) (nd : Nd) : putL (A ++ C) A.length nd = A ++ nd :: C := by
  show (A ++ C).take A.length ++ nd :: (A ++ C).drop A.length = _
  rw [List.take_left' rfl, List.drop_left' rfl]
theorem scs_app (A C : List Nd) : scs (A ++ C) = scs A ++ scs C := List.map_append
theorem scs_put (Ls : List Nd) (k : Nat) (nd : Nd) : scs (putL Ls k nd) = putAt (scs Ls) k nd.a := by
  show (Ls.take k ++ nd :: Ls.drop k).map Nd.a = (Ls.map Nd.a).take k ++ nd.a :: (Ls.map Nd.a).drop k
  rw [List.map_append, List.map_cons, List.map_take, List.map_drop]
theorem putAt_len {L : List Sc} {k : Nat} {x : Sc} : (putAt L k x).length = L.length + 1 := by
  unfold putAt
  rw [List.length_append, List.length_cons, List.length_take, List.length_drop]; omega
/-- Nodes whose members are parted so. -/
theorem scs_split {Ls : List Nd} {A C : List Sc} {x : Sc} (h : scs Ls = A ++ x :: C) : ∃ A' nd C', Ls = A' ++ nd :: C' ∧ scs A' = A ∧ nd.a = x ∧ scs C' = C := by
  obtain ⟨A', R, h1, h2, h3⟩ := List.map_eq_append_iff.1 h
  obtain ⟨nd, C', h4, h5, h6⟩ := List.map_eq_cons_iff.1 h3
  exact ⟨A', nd, C', by rw [h1, h4], h2, h5, h6⟩
/-- A set in memory. -/
structure ZSet (w : World) (B gz mb : Nat) (hd : Nd) (Ls : List Nd) : Prop where
  row : Row w 152 gz [.map (some mb), ptr hd.g]
  map : ∃ es, MapAt w mb es ∧ es.length = Ls.length ∧ ∀ m, atE es m = (scoreOf (scs Ls) m).map (Value.int .i64)
  z : ZAt w B (hd :: Ls) (full Ls)
  h16 : hd.h = 16
  rise : Rising (scs Ls)
  uniq : Uniq (scs Ls)
  lo : B ≤ gz ∧ B ≤ mb
/-- The blocks of a set that turn. -/
abbrev zB (mb : Nat) (hd : Nd) (Ls : List Nd) : List Nat := mb :: (hd :: Ls).map Nd.b
theorem ZSet.later {w w' : World} {B gz mb : Nat} {hd : Nd} {Ls : List Nd} (h : ZSet w B gz mb hd Ls) (hb : Below w.heap.size w w') : ZSet w' B gz mb hd Ls :=
  ⟨h.row.later hb, by obtain ⟨es, h1, h2, h3⟩ := h.map; exact ⟨es, h1.later hb, h2, h3⟩, h.z.later hb, h.h16, h.rise, h.uniq, h.lo⟩
theorem ZSet.lo_zB {w : World} {B gz mb : Nat} {hd : Nd} {Ls : List Nd} (h : ZSet w B gz mb hd Ls) : ∀ k ∈ zB mb hd Ls, B ≤ k := by
  intro k hk
  rcases List.mem_cons.1 hk with e | e
  · rw [e]; exact h.lo.2
  · obtain ⟨n, hn, rfl⟩ := List.mem_map.1 e
    obtain ⟨c, hc⟩ := List.getElem?_of_mem hn
    exact (h.z.lo c n hc).2.1
theorem ButZ.below {S : List Nat} {B : Nat} {a b : World} (h : ButZ S a b) (hS : ∀ k ∈ S, B ≤ k) (hB : B ≤ a.heap.size) : Below B a b :=
  ⟨h.os, h.tape, h.output, h.size, fun k hk => h.block k (by omega) fun hm => absurd (hS k hm) (by omega)⟩
theorem ButZ.sub {S T : List Nat} {a b : World} (h : ButZ S a b) (hS : ∀ k ∈ S, k ∈ T) : ButZ T a b :=
  ⟨h.os, h.tape, h.output, h.size, fun k hk hn => h.block k hk fun hm => hn (hS k hm)⟩
end Go.Proofs.YtpbkejmffddelaaGreat

/-
  A set's calls: contracts. Own work.
-/
namespace Go.Proofs.YtpbkejmffddelaaGreat
open Go.RowKit Go.Shelf
theorem szSet (a b : Value) : (Tryz.prog.info? 152).map (·.size) = some [a, b].length := by kernel_rfl
theorem builtSet (m : Nat) (g : Nat) : Tryz.prog.built 152 [(0, .map (some m)), (1, ptr g)] = some [.map (some m), ptr g].toArray := by kernel_rfl
theorem builtHead (b : Nat) : Tryz.prog.built 150 [(1, .slice (some ⟨b, 0, none⟩) 16 16)] = some (nodeC ⟨[], 0⟩ b 16).toArray := by kernel_rfl
theorem builtSc (m : Nm) (s : Int) : Tryz.prog.built 99 [(0, encStr m), (1, .int .i64 s)] = some [encStr m, .int .i64 s].toArray := by kernel_rfl
set_option maxRecDepth 100000 in
/-- New. -/
theorem new_any (w : World) : Calls Tryz.prog 67 #[] w fun e w' => ∃ gz mb hd, e = .returned (ptr gz) ∧ ZSet w' w.heap.size gz mb hd [] ∧ Below w.heap.size w w' := by
  obtain ⟨i0, hi, hz, hs, hb⟩ := linkI
  go_enter Tryz.func67, Tryz.ntmps67
  go_wp2_with (first
    | (with_reducible refine wl_makeMap rfl rfl ?_; intro mb w1 m1 p1 b1)
    | (with_reducible refine wl_makeN rfl 148 _ _ rfl 176 i0 _ 2 Tryz.underlying148 hi hz hs 16 rfl rfl (by rw [hb]; omega) (by omega) ?_; intro g2 w2 r2 p2 l2 b2)
    | (with_reducible refine wl_build (o := ⟨some 3, _, _, _, _, _⟩) rfl 150 [(1, .tmp 2)] rfl [(1, .slice (some ⟨g2, 0, none⟩) 16 16)] rfl (nodeC ⟨[], 0⟩ g2 16) (builtHead g2) ?_)
    | (with_reducible refine wl_box (o := ⟨some 4, _, _, _, _, _⟩) rfl 150 (.tmp 3) _ (nodeC ⟨[], 0⟩ g2 16) rfl rfl rfl ?_; intro g4 w4 r4 p4 l4 b4)
    | (with_reducible refine wl_build (o := ⟨some 5, _, _, _, _, _⟩) rfl 152 [(0, .tmp 1), (1, .tmp 4)] rfl [(0, .map (some mb)), (1, ptr g4)] rfl [.map (some mb), ptr g4] (builtSet mb g4) ?_)
    | (with_reducible refine wl_box (o := ⟨some 6, _, _, _, _, _⟩) rfl 152 (.tmp 5) _ [.map (some mb), ptr g4] rfl rfl rfl ?_; intro g6 w6 r6 p6 l6 b6))
  go_ret
  have B2 := b1.trans (b2.mono b1.size)
  have B4 := B2.trans (b4.mono B2.size)
  have B6 := B4.trans (b6.mono B4.size)
  have s1 := b1.size
  have s2 := b2.size
  have s4 := b4.size
  rw [made_links] at r2
  have rl := (r2.later b4).later b6
  have rn := r4.later b6
  refine ⟨g6, mb, ⟨⟨[], 0⟩, g4, g2, 16⟩, rfl, ⟨r6, ⟨[], ((m1.later b2).later b4).later b6, rfl, fun m => rfl⟩, ⟨fun c n h => ?_, fun c n h => ?_, fun c n h => ?_, fun c d n m h1 h2 => ?_, fun c d n m h1 h2 hne => ?_⟩, rfl, List.Pairwise.nil, List.Pairwise.nil, ⟨by omega, p1⟩⟩, B6⟩
  · match c with
    | 0 => obtain rfl := Option.some.inj h; exact rn
    | c + 1 => simp at h
  · match c with
    | 0 =>
      obtain rfl := Option.some.inj h
      have e : (List.range 16).map (full [] 0) = List.replicate 16 noLk := by
        rw [List.eq_replicate_iff]
        exact ⟨by simp, fun b hb => by obtain ⟨j, _, rfl⟩ := List.mem_map.1 hb; rfl⟩
      rw [e]; exact rl
    | c + 1 => simp at h
  · match c with
    | 0 => obtain rfl := Option.some.inj h; exact ⟨by show w.heap.size ≤ g4; omega, by show w.heap.size ≤ g2; omega, by show 1 ≤ 16; decide, by show 16 ≤ 16; decide⟩
    | c + 1 => simp at h
  · match c, d with
    | 0, 0 =>
      obtain rfl := Option.some.inj h1
      obtain rfl := Option.some.inj h2
      show g4 ≠ g2
      have := r2.lt; omega
    | c + 1, _ => simp at h1
    | _, d + 1 => simp at h2
  · match c, d with
    | 0, 0 => exact absurd rfl hne
    | c + 1, _ => simp at h1
    | _, d + 1 => simp at h2
set_option maxRecDepth 100000 in
/-- Len. -/
theorem len_any (w : World) (B gz mb : Nat) (hd : Nd) (Ls : List Nd) (h : ZSet w B gz mb hd Ls) : Calls Tryz.prog 90 #[ptr gz] w fun e w' => e = .returned (.int .i64 (Ls.length : Int)) ∧ w = w' := by
  obtain ⟨es, hm, hl, hs⟩ := h.map
  have c0 := h.row.cell (j := 0) rfl
  rw [← hl]
  clear hl hs
  go_enter Tryz.func90, Tryz.ntmps90
  go_wp2_with (first
    | (with_reducible refine wl_mapLen rfl (.tmp 8) mb es rfl rfl hm ?_))
  go_ret
  exact ⟨rfl, rfl⟩
set_option maxRecDepth 100000 in
/-- Score. -/
theorem score_any (w : World) (B gz mb : Nat) (hd : Nd) (Ls : List Nd) (m : Nm) (h : ZSet w B gz mb hd Ls) (hm : m.length ≤ maxLen) : Calls Tryz.prog 119 #[ptr gz, encStr m] w fun e w' => e = .returned (.tuple #[.int .i64 ((scoreOf (scs Ls) m).getD 0), .bool (scoreOf (scs Ls) m).isSome]) ∧ w = w' := by
  obtain ⟨es, hM, hl, hs⟩ := h.map
  have c0 := h.row.cell (j := 0) rfl
  have e1 : (atE es m).getD zF = .int .i64 ((scoreOf (scs Ls) m).getD 0) := by rw [hs]; cases scoreOf (scs Ls) m <;> rfl
  have e2 : (atE es m).isSome = (scoreOf (scs Ls) m).isSome := by rw [hs, Option.isSome_map]
  generalize (scoreOf (scs Ls) m).getD 0 = q at *
  generalize (scoreOf (scs Ls) m).isSome = t at *
  replace e1 := hide e1
  replace e2 := hide e2
  clear hl hs h
  go_enter Tryz.func119, Tryz.ntmps119
  go_wp2_with (first
    | (with_reducible refine wl_lookE rfl (.tmp 14) (.tmp 15) m mb es (.int .i64 q) t e1.out e2.out rfl rfl rfl hM hm ?_))
  go_ret2
  exact ⟨rfl, rfl⟩
set_option maxRecDepth 100000 in
set_option maxHeartbeats 1000000 in
/-- Drop of what is not there. -/
theorem drop_no (w : World) (B gz mb : Nat) (hd : Nd) (Ls : List Nd) (m : Nm) (h : ZSet w B gz mb hd Ls) (hm : m.length ≤ maxLen) (hn : scoreOf (scs Ls) m = none) : Calls Tryz.prog 77 #[ptr gz, encStr m] w fun e w' => e = .returned (.bool false) ∧ w = w' := by
  have HS := score_any w B gz mb hd Ls m h hm
  rw [hn] at HS
  clear hn h
  go_enter Tryz.func77, Tryz.ntmps77
  go_wp2_with fail
  refine HS.mono ?_
  rintro e w1 ⟨rfl, rfl⟩
  go_wp2_with fail
  go_ret
  exact ⟨rfl, rfl⟩

theorem Mem_only {w w' : World} {g : Nat} {S : List Nat} (o : Only g w w') (h : g ∈ S) : ButZ S w w' := (ButZ.of (Below.refl _ _)).only o (.inr h)
theorem ZSet.mb_ne {w : World} {B gz mb : Nat} {hd : Nd} {Ls : List Nd} (h : ZSet w B gz mb hd Ls) : (∀ (c : Nat) (n : Nd), (hd :: Ls)[c]? = some n → n.g ≠ mb ∧ n.b ≠ mb) ∧ gz ≠ mb := by
  obtain ⟨es, hm, _, _⟩ := h.map
  exact ⟨fun c n hc => ⟨Ne.symm (hm.ne_row (h.z.node c n hc)), Ne.symm (hm.ne_row (h.z.link c n hc))⟩, Ne.symm (hm.ne_row h.row)⟩
theorem row_ne {w : World} {t t' g g' : Nat} {vs vs' : List Value} (h : Row w t g vs) (h' : Row w t' g' vs') (ht : t ≠ t') : g ≠ g' := by
  intro e
  subst e
  have := (show w.heap[g]? = _ from h).symm.trans h'
  simp at this
  exact ht this.2
theorem ZSet.gz_ne {w : World} {B gz mb : Nat} {hd : Nd} {Ls : List Nd} (h : ZSet w B gz mb hd Ls) : ∀ n ∈ hd :: Ls, n.b ≠ gz := by
  intro n hn
  obtain ⟨c, hc⟩ := List.getElem?_of_mem hn
  exact Ne.symm (row_ne h.row (h.z.link c n hc) (by decide))
set_option maxRecDepth 100000 in
set_option maxHeartbeats 1000000 in
/-- Drop of what is there. -/
theorem drop_yes (w : World) (B gz mb : Nat) (hd : Nd) (Ls : List Nd) (m : Nm) (s : Int) (h : ZSet w B gz mb hd Ls) (hm : m.length ≤ maxLen) (hl : Ls.length ≤ 999998) (hn : scoreOf (scs Ls) m = some s) : Calls Tryz.prog 77 #[ptr gz, encStr m] w fun e w' => ∃ Ls', e = .returned (.bool true) ∧ ZSet w' B gz mb hd Ls' ∧ scs Ls' = dropS (scs Ls) m ∧ ButZ (zB mb hd Ls) w w' ∧ Ls'.length + 1 = Ls.length ∧ ∀ n ∈ Ls', n ∈ Ls := by
  have HS := score_any w B gz mb hd Ls m h hm
  rw [hn] at HS
  obtain ⟨A, C, hsp, hA⟩ := scoreOf_some hn
  obtain ⟨A', nd, C', rfl, rfl, hnd, rfl⟩ := scs_split hsp
  obtain ⟨es, hM, hel, hes⟩ := h.map
  have hlen : (delE es m).length + 1 = es.length := delE_len_some es m (rise_ne hM.rise before_irrefl) (by rw [hes, hn]; rfl)
  obtain ⟨hmb, hgm⟩ := h.mb_ne
  have hzz : ZAt w B (hd :: putL (A' ++ C') A'.length nd) (full (putL (A' ++ C') A'.length nd)) := by rw [putL_mid]; exact h.z
  have hrise : Rising (scs (putL (A' ++ C') A'.length nd)) := by rw [putL_mid]; exact h.rise
  have hdrop : dropS (scs (A' ++ nd :: C')) m = scs (A' ++ C') := by
    rw [hsp, dropS_mid (by rw [← hsp]; exact h.uniq), scs_app]
  have hkl : A'.length ≤ (A' ++ C').length := by rw [List.length_append]; omega
  have hl2 : (A' ++ C').length + 1 = (A' ++ nd :: C').length := by rw [List.length_append, List.length_append, List.length_cons]; omega
  have HR := fun w1 (o : Only mb w w1) => remove_any w1 B A'.length hd nd (A' ++ C') hkl (hzz.only o fun c n hc => by rw [putL_mid] at hc; exact hmb c n hc) h.h16 (by omega) hrise
  have c0 := h.row.cell (j := 0) rfl
  obtain ⟨⟨nm, ns⟩, gn, bn, hn2⟩ := nd
  obtain ⟨rfl, rfl⟩ : nm = m ∧ ns = s := by injection hnd with e1 e2; exact ⟨e1, e2⟩
  have HR := hide HR
  have H := hide h
  have Hes := hide hes
  replace hdrop := hide hdrop
  replace hl2 := hide hl2
  replace hlen := hide hlen
  replace hel := hide hel
  replace hmb := hide hmb
  clear hsp hnd hzz hrise hA hes h hn
  go_enter Tryz.func77, Tryz.ntmps77
  go_wp2_with fail
  refine HS.mono ?_
  rintro e w1 ⟨rfl, rfl⟩
  go_wp2_with (first
    | (with_reducible refine wl_del rfl (.tmp 17) (.tmp 18) nm mb es rfl rfl rfl hM hm ?_; intro w2 m2 o2; have r2 := H.out.row.only o2 hgm; have c21 := r2.cell (j := 1) rfl)
    | (with_reducible refine wl_build (o := ⟨some 25, _, _, _, _, _⟩) rfl 99 [(0, .tmp 23), (1, .tmp 24)] rfl [(0, encStr nm), (1, .int .i64 ns)] rfl [encStr nm, .int .i64 ns] (builtSc nm ns) ?_))
  refine (HR.out _ o2).mono ?_
  rintro e w3 ⟨rfl, hz3, B3⟩
  go_wp2_with fail
  go_ret
  have hS3 : ∀ k ∈ (hd :: putL (A' ++ C') A'.length ⟨⟨nm, ns⟩, gn, bn, hn2⟩).map Nd.b, k ≠ gz ∧ k ≠ mb := by
    intro k hk
    rw [putL_mid] at hk
    obtain ⟨n, hn, rfl⟩ := List.mem_map.1 hk
    obtain ⟨c, hc⟩ := List.getElem?_of_mem hn
    exact ⟨H.out.gz_ne n hn, (hmb.out c n hc).2⟩
  have r3 : Row w3 152 gz [.map (some mb), ptr hd.g] := (B3.block gz r2.lt fun hk => (hS3 gz hk).1 rfl).trans r2
  have m3 : MapAt w3 mb (delE es nm) := m2.same (B3.block mb m2.lt fun hk => (hS3 mb hk).2 rfl)
  have hsc := scoreOf_drop (scs (A' ++ ⟨⟨nm, ns⟩, gn, bn, hn2⟩ :: C')) nm
  rw [hdrop.out] at hsc
  refine ⟨A' ++ C', rfl, ⟨r3, ⟨delE es nm, m3, by have h1 := hlen.out; have h2 := hel.out; have h3 := hl2.out; omega, fun q => ?_⟩, hz3, H.out.h16, ?_, ?_, H.out.lo⟩, hdrop.out.symm, ?_, hl2.out, ?_⟩
  · rw [atE_del, hsc q, Hes.out]
    by_cases hq : q = nm
    · rw [if_pos hq, if_pos hq]; rfl
    · rw [if_neg hq, if_neg hq]
  · rw [← hdrop.out]; exact dropS_rise H.out.rise
  · rw [← hdrop.out]; exact dropS_uniq H.out.uniq
  · refine (Mem_only o2 (by simp)).trans (B3.sub fun k hk => ?_)
    rw [putL_mid] at hk
    exact List.mem_cons_of_mem _ hk
  · intro n hn
    rcases List.mem_append.1 hn with e | e
    · exact List.mem_append.2 (.inl e)
    · exact List.mem_append.2 (.inr (List.mem_cons_of_mem _ e))
end Go.Proofs.YtpbkejmffddelaaGreat

/-
  A set's calls, next part: Put, Range, Between. Own work.
-/
namespace Go.Proofs.YtpbkejmffddelaaGreat
open Go.RowKit Go.Shelf
/-- Drop. -/
theorem drop_any (w : World) (B gz mb : Nat) (hd : Nd) (Ls : List Nd) (m : Nm) (h : ZSet w B gz mb hd Ls) (hm : m.length ≤ maxLen) (hl : Ls.length ≤ 999998) : Calls Tryz.prog 77 #[ptr gz, encStr m] w fun e w' => ∃ Ls', e = .returned (.bool (scoreOf (scs Ls) m).isSome) ∧ ZSet w' B gz mb hd Ls' ∧ scs Ls' = dropS (scs Ls) m ∧ ButZ (zB mb hd Ls) w w' ∧ Ls'.length ≤ Ls.length ∧ ∀ n ∈ Ls', n ∈ Ls := by
  cases hs : scoreOf (scs Ls) m with
  | none =>
    refine (drop_no w B gz mb hd Ls m h hm hs).mono ?_
    rintro e w1 ⟨rfl, rfl⟩
    exact ⟨Ls, rfl, h, (dropS_none (scoreOf_none.1 hs)).symm, ButZ.of (Below.refl _ _), Nat.le_refl _, fun n hn => hn⟩
  | some s =>
    refine (drop_yes w B gz mb hd Ls m s h hm hl hs).mono ?_
    rintro e w1 ⟨Ls', rfl, h1, h2, h3, h4, h5⟩
    exact ⟨Ls', rfl, h1, h2, h3, by omega, h5⟩
set_option maxRecDepth 100000 in
set_option maxHeartbeats 1000000 in
/-- Put. -/
theorem put_any2 (w : World) (B gz mb : Nat) (hd : Nd) (Ls : List Nd) (m : Nm) (s : Int) (h : ZSet w B gz mb hd Ls) (hm : m.length ≤ 1000000) (hl : Ls.length ≤ 999998) (hB : B ≤ w.heap.size) : Calls Tryz.prog 75 #[ptr gz, encStr m, .int .i64 s] w fun e w' => ∃ Ls', e = .returned (.bool (!(scoreOf (scs Ls) m).isSome)) ∧ ZSet w' B gz mb hd Ls' ∧ scs Ls' = putS (scs Ls) ⟨m, s⟩ ∧ ButZ (zB mb hd Ls) w w' ∧ Ls'.length ≤ Ls.length + 1 ∧ ∀ k ∈ zB mb hd Ls', k ∈ zB mb hd Ls ∨ w.heap.size ≤ k := by
  have hmx : m.length ≤ maxLen := by simp only [maxLen]; omega
  have HD := drop_any w B gz mb hd Ls m h hmx hl
  have HM := made_any w gz mb _ h.row
  have H := hide h
  have hl0 := hide hl
  have hm0 := hide hm
  obtain ⟨t, ht⟩ : ∃ t, t = (scoreOf (scs Ls) m).isSome := ⟨_, rfl⟩
  rw [← ht] at HD ⊢
  clear ht h hl
  go_enter Tryz.func75, Tryz.ntmps75
  go_wp2_with fail
  refine HM.mono ?_
  rintro e w1 ⟨rfl, rfl⟩
  go_wp2_with fail
  refine HD.mono ?_
  rintro e w2 ⟨L1, rfl, h2, hs2, B2, hl2, hin⟩
  obtain ⟨es, hM, hel, hes⟩ := h2.map
  obtain ⟨hmb, hgm⟩ := h2.mb_ne
  have hno : scoreOf (scs L1) m = none := by rw [hs2, scoreOf_drop, if_pos rfl]
  have hne := scoreOf_none.1 hno
  have hat : atE es m = none := by rw [hes, hno]; rfl
  have c20 := h2.row.cell (j := 0) rfl
  have hlx : es.length < maxLen := by simp only [maxLen]; have := hl0.out; omega
  have HI := fun w3 (o : Only mb w2 w3) (hw : B ≤ w3.heap.size) => insert_any2 w3 B hd L1 ⟨m, s⟩ (h2.z.only o hmb) h2.h16 (by have := hl0.out; omega) h2.rise hm hw
  have hw2 : B ≤ w2.heap.size := Nat.le_trans hB B2.size
  have H2 := hide h2
  replace hes := hide hes
  replace hs2 := hide hs2
  replace hno := hide hno
  replace hat := hide hat
  replace hel := hide hel
  replace HI := hide HI
  replace hne := hide hne
  replace hin := hide hin
  clear HM HD h2 hm
  go_wp2_with (first
    | (with_reducible refine wl_put rfl (.tmp 17) (.tmp 18) (.tmp 19) m (.int .i64 s) mb es rfl rfl rfl rfl hM hmx hlx ?_; intro w3 m3 o3; have r3 := H2.out.row.only o3 hgm; have c31 := r3.cell (j := 1) rfl)
    | (with_reducible refine wl_build (o := ⟨some 26, _, _, _, _, _⟩) rfl 99 [(0, .tmp 24), (1, .tmp 25)] rfl [(0, encStr m), (1, .int .i64 s)] rfl [encStr m, .int .i64 s] (builtSc m s) ?_))
  refine (HI.out _ o3 (Nat.le_trans hw2 (Nat.le_of_eq o3.size.symm))).mono ?_
  rintro e w4 ⟨nd, hnd, rfl, hz4, B4, hnb⟩
  go_wp2_with fail
  go_ret
  have hS3 : ∀ k ∈ (hd :: L1).map Nd.b, k ≠ gz ∧ k ≠ mb := by
    intro k hk
    obtain ⟨n, hn, rfl⟩ := List.mem_map.1 hk
    obtain ⟨c, hc⟩ := List.getElem?_of_mem hn
    exact ⟨H2.out.gz_ne n hn, (hmb c n hc).2⟩
  have r4 : Row w4 152 gz [.map (some mb), ptr hd.g] := (B4.block gz r3.lt fun hk => (hS3 gz hk).1 rfl).trans r3
  have m4 : MapAt w4 mb (putE es m (.int .i64 s)) := m3.same (B4.block mb m3.lt fun hk => (hS3 mb hk).2 rfl)
  have hk : nAhead ⟨m, s⟩ (scs L1) ≤ L1.length := by simpa using nAhead_le ⟨m, s⟩ (scs L1)
  have hsc : scs (putL L1 (nAhead ⟨m, s⟩ (scs L1)) nd) = putAt (scs L1) (nAhead ⟨m, s⟩ (scs L1)) ⟨m, s⟩ := by rw [scs_put, hnd]
  have hlen : (putL L1 (nAhead ⟨m, s⟩ (scs L1)) nd).length = L1.length + 1 := putL_len hk
  refine ⟨putL L1 (nAhead ⟨m, s⟩ (scs L1)) nd, rfl, ⟨r4, ⟨_, m4, by rw [putE_len _ _ _ hat.out, hlen, hel.out], fun q => ?_⟩, hz4, H.out.h16, ?_, ?_, H.out.lo⟩, ?_, ?_, by rw [hlen]; omega, ?_⟩
  · rw [atE_put, hsc, scoreOf_putAt hne.out, hes.out]
    by_cases hq : q = m
    · rw [if_pos hq, if_pos hq]; rfl
    · rw [if_neg hq, if_neg hq]
  · rw [hsc]; exact Rising.putAt H2.out.rise fun a ha e => hne.out a ha (by rw [e])
  · rw [hsc]; exact Uniq.putAt H2.out.uniq hne.out
  · rw [hsc, hs2.out]; rfl
  · refine B2.trans ((Mem_only o3 (by simp)).trans (B4.sub fun k hk => ?_))
    obtain ⟨n, hn, rfl⟩ := List.mem_map.1 hk
    refine List.mem_cons_of_mem _ (List.mem_map.2 ⟨n, ?_, rfl⟩)
    rcases List.mem_cons.1 hn with e | e
    · rw [e]; exact List.mem_cons_self
    · exact List.mem_cons_of_mem _ (hin.out n e)
  · intro q hq
    rcases List.mem_cons.1 hq with e | e
    · exact .inl (by rw [e]; exact List.mem_cons_self)
    · obtain ⟨n, hn, rfl⟩ := List.mem_map.1 e
      rcases List.mem_cons.1 hn with e2 | e2
      · exact .inl (List.mem_cons_of_mem _ (List.mem_map.2 ⟨n, by rw [e2]; exact List.mem_cons_self, rfl⟩))
      · rcases List.mem_append.1 e2 with e3 | e3
        · exact .inl (List.mem_cons_of_mem _ (List.mem_map.2 ⟨n, List.mem_cons_of_mem _ (hin.out n (List.take_subset _ _ e3)), rfl⟩))
        · rcases List.mem_cons.1 e3 with e4 | e4
          · rw [e4]; exact .inr (by have := B2.size; have := o3.size; omega)
          · exact .inl (List.mem_cons_of_mem _ (List.mem_map.2 ⟨n, List.mem_cons_of_mem _ (hin.out n (List.drop_subset _ _ e4)), rfl⟩))
set_option maxRecDepth 100000 in
theorem put_any (w : World) (B gz mb : Nat) (hd : Nd) (Ls : List Nd) (m : Nm) (s : Int) (h : ZSet w B gz mb hd Ls) (hm : m.length ≤ 1000000) (hl : Ls.length ≤ 999998) (hB : B ≤ w.heap.size) : Calls Tryz.prog 75 #[ptr gz, encStr m, .int .i64 s] w fun e w' => ∃ Ls', e = .returned (.bool (!(scoreOf (scs Ls) m).isSome)) ∧ ZSet w' B gz mb hd Ls' ∧ scs Ls' = putS (scs Ls) ⟨m, s⟩ ∧ ButZ (zB mb hd Ls) w w' ∧ Ls'.length ≤ Ls.length + 1 :=
  (put_any2 w B gz mb hd Ls m s h hm hl hB).mono fun e w' ⟨Ls', h1, h2, h3, h4, h5, _⟩ => ⟨Ls', h1, h2, h3, h4, h5⟩
set_option maxRecDepth 100000 in
/-- Range. -/
theorem range_any (w : World) (B gz mb : Nat) (hd : Nd) (Ls : List Nd) (x y : Int) (h : ZSet w B gz mb hd Ls) (hl : Ls.length ≤ 1000000) : Calls Tryz.prog 89 #[ptr gz, .int .i64 x, .int .i64 y] w fun e w' => ∃ v, e = .returned v ∧ OwnS w' w.heap.size v (((scs Ls).drop (min x.toNat Ls.length)).take (min y.toNat Ls.length - min x.toNat Ls.length)) ∧ Below w.heap.size w w' := by
  have HB := fun w1 (hb : Below w.heap.size w w1) g1 g2 (h1 : Row w1 3 g1 [.int .i64 x]) (h2 : Row w1 3 g2 [.int .i64 y]) => behind_any w1 B gz mb (min x.toNat Ls.length) (min y.toNat Ls.length) hd Ls 128 129 #[ptr g1] #[ptr g2] (h.row.later hb) (h.z.later hb) h.h16 (by omega) (by omega) hl callrange1
    (fun w2 hb2 i m hm => by
      have hi := (List.getElem?_eq_some_iff.1 hm).1
      have e : decide (i < min x.toNat Ls.length) = decide ((i : Int) < x) := by rw [decide_eq_decide]; omega
      rw [e]; exact range1_any w2 m.a i x g1 (h1.later hb2)) callrange2
    (fun w2 hb2 i m hm => by
      have hi := (List.getElem?_eq_some_iff.1 hm).1
      have e : decide (i < min y.toNat Ls.length) = decide ((i : Int) < y) := by rw [decide_eq_decide]; omega
      rw [e]; exact range2_any w2 m.a i y g2 (h2.later hb2))
  generalize min x.toNat Ls.length = k1 at *
  generalize min y.toNat Ls.length = k2 at *
  replace HB := hide HB
  clear h hl
  go_enter Tryz.func89, Tryz.ntmps89
  go_wp2_with (first
    | (with_reducible refine wl_box (o := ⟨some 4, _, _, _, _, _⟩) rfl 3 (.tmp 1) _ [.int .i64 x] rfl rfl rfl ?_; intro g4 w4 r4 p4 l4 b4)
    | (with_reducible refine wl_box (o := ⟨some 5, _, _, _, _, _⟩) rfl 3 (.tmp 2) _ [.int .i64 y] rfl rfl rfl ?_; intro g5 w5 r5 p5 l5 b5))
  have B5 := b4.trans (b5.mono b4.size)
  refine (HB.out _ B5 g4 g5 (r4.later b5) r5).mono ?_
  rintro e w6 ⟨v, rfl, own, b6⟩
  go_wp2_with fail
  go_ret
  exact ⟨_, rfl, own_lo own B5.size, B5.trans (b6.mono B5.size)⟩
end Go.Proofs.YtpbkejmffddelaaGreat

/-
  A set's calls, next part: Between, At, Clone. Own work.
-/
namespace Go.Proofs.YtpbkejmffddelaaGreat
open Go.RowKit Go.Shelf
/-- How far a list begins with what is so, if what stands ahead of such a one is so too. -/
theorem while_iff {p : Sc → Bool} : ∀ {L : List Sc}, L.Pairwise (fun a b => p b = true → p a = true) → ∀ (i : Nat) (y : Sc), L[i]? = some y → p y = decide (i < (L.takeWhile p).length)
  | [], _, i, y, h => by simp at h
  | z :: r, hr, i, y, h => by
    have hr2 := List.Pairwise.of_cons hr
    have hz := (List.pairwise_cons.1 hr).1
    cases hzx : p z with
    | true =>
      have e : ((z :: r).takeWhile p).length = (r.takeWhile p).length + 1 := by simp [List.takeWhile_cons, hzx]
      match i with
      | 0 =>
        have e2 : z = y := by simpa using h
        subst e2
        rw [hzx, e]; simp
      | i + 1 =>
        have h2 : r[i]? = some y := by simpa using h
        rw [while_iff hr2 i y h2, e]
        simp
    | false =>
      have e : ((z :: r).takeWhile p).length = 0 := by simp [List.takeWhile_cons, hzx]
      rw [e]
      have hlt : ¬ i < 0 := by omega
      rw [decide_eq_false hlt]
      match i with
      | 0 =>
        have e2 : z = y := by simpa using h
        subst e2; exact hzx
      | i + 1 =>
        have h2 : r[i]? = some y := by simpa using h
        have h3 := hz y (List.mem_of_getElem? h2)
        cases h4 : p y with
        | false => rfl
        | true => rw [h3 h4] at hzx; exact absurd hzx (by decide)
theorem between_filter {p q : Sc → Bool} : ∀ {L : List Sc}, L.Pairwise (fun a b => p b = true → p a = true) → L.Pairwise (fun a b => q b = true → q a = true) →
    (L.drop (L.takeWhile p).length).take ((L.takeWhile q).length - (L.takeWhile p).length) = L.filter fun a => !p a && q a
  | [], _, _ => rfl
  | a :: r, hp, hq => by
    have ih := between_filter (List.Pairwise.of_cons hp) (List.Pairwise.of_cons hq)
    have hp1 := (List.pairwise_cons.1 hp).1
    have hq1 := (List.pairwise_cons.1 hq).1
    have noq : q a = false → r.filter (fun b => !p b && q b) = [] := fun h => by
      rw [List.filter_eq_nil_iff]
      intro b hb hc
      have : q b = true := by simp at hc; exact hc.2
      rw [hq1 b hb this] at h; cases h
    cases hpa : p a with
    | true =>
      cases hqa : q a with
      | true =>
        rw [List.takeWhile_cons (p := p), if_pos hpa, List.takeWhile_cons (p := q), if_pos hqa, List.length_cons, List.length_cons, List.drop_succ_cons, Nat.add_sub_add_right, ih, List.filter_cons, if_neg (by simp [hpa])]
      | false =>
        rw [List.takeWhile_cons (p := q), if_neg (by simp [hqa]), List.length_nil, Nat.zero_sub, List.take_zero, List.filter_cons, if_neg (by simp [hpa]), noq hqa]
    | false =>
      have e0 : (r.takeWhile p).length = 0 := by
        cases r with
        | nil => rfl
        | cons b r2 =>
          rw [List.takeWhile_cons, if_neg]
          · rfl
          · intro hb
            rw [hp1 b (by simp) hb] at hpa; cases hpa
      rw [List.takeWhile_cons (p := p), if_neg (by simp [hpa]), List.length_nil, List.drop_zero, Nat.sub_zero]
      rw [e0, List.drop_zero, Nat.sub_zero] at ih
      cases hqa : q a with
      | true => rw [List.takeWhile_cons, if_pos hqa, List.length_cons, List.take_succ_cons, ih, List.filter_cons, if_pos (by simp [hpa, hqa])]
      | false => rw [List.takeWhile_cons, if_neg (by simp [hqa]), List.length_nil, List.take_zero, List.filter_cons, if_neg (by simp [hqa]), noq hqa]
theorem Rising.low {L : List Sc} (h : Rising L) (y : Int) : L.Pairwise fun a b => decide (b.s < y) = true → decide (a.s < y) = true :=
  h.imp fun {a b} hab hb => by
    have hb2 := of_decide_eq_true hb
    rcases (Sc.less_iff a b).1 hab with e | e
    · exact decide_eq_true (by omega)
    · exact decide_eq_true (by omega)
theorem Rising.high {L : List Sc} (h : Rising L) (y : Int) : L.Pairwise fun a b => decide (b.s ≤ y) = true → decide (a.s ≤ y) = true :=
  h.imp fun {a b} hab hb => by
    have hb2 := of_decide_eq_true hb
    rcases (Sc.less_iff a b).1 hab with e | e
    · exact decide_eq_true (by omega)
    · exact decide_eq_true (by omega)
def betw (L : List Sc) (x y : Int) : List Sc := L.filter fun a => !decide (a.s < x) && decide (a.s ≤ y)
/-- A member of a list of one's own. -/
theorem own_cells {w : World} {T : Nat} {v : Value} {l : List Sc} {i : Nat} {a : Sc} (h : OwnS w T v l) (hi : l[i]? = some a) : ∃ g cap, v = .slice (some ⟨g, 0, none⟩) l.length cap ∧ T ≤ g ∧ g < w.heap.size ∧ ∀ (i : Nat) (a : Sc) (j : Nat) (u : Value), l[i]? = some a → a.cells[j]? = some u → w.cell? ⟨g, i * 2 + j, none⟩ = some u := by
  have hlt : i < l.length := (List.getElem?_eq_some_iff.1 hi).1
  rcases h.2 with ⟨_, h0⟩ | ⟨g, cap, cur, e, hT, hg, h1, h2, h3, h4⟩
  · omega
  · refine ⟨g, cap, e, hT, (Array.getElem?_eq_some_iff.1 hg).1, fun i a j u hi hj => ?_⟩
    have hil : i < l.length := (List.getElem?_eq_some_iff.1 hi).1
    have hjl : j < 2 := (List.getElem?_eq_some_iff.1 hj).1
    have key : ∀ (l : List Sc) (i : Nat), l[i]? = some a → (scsC l)[i * 2 + j]? = some u := by
      intro l
      induction l with
      | nil => intro i h; simp at h
      | cons b r ih =>
        intro i h
        match i with
        | 0 =>
          obtain rfl : b = a := by simpa using h
          show (b.cells ++ scsC r)[0 * 2 + j]? = _
          rw [List.getElem?_append_left (by show 0 * 2 + j < 2; omega), Nat.zero_mul, Nat.zero_add, hj]
        | i + 1 =>
          show (b.cells ++ scsC r)[(i + 1) * 2 + j]? = _
          rw [List.getElem?_append_right (by show 2 ≤ _; omega), show (i + 1) * 2 + j - b.cells.length = i * 2 + j by show (i + 1) * 2 + j - 2 = _; omega]
          exact ih i (by simpa using h)
    have e2 : (cur.toList.take (l.length * 2))[i * 2 + j]? = some u := by rw [h4]; exact key l i hi
    rw [List.getElem?_take, if_pos (by omega)] at e2
    rw [cell_of_row w g _ cur _ (0, 0) hg, ← Array.getElem?_toList]
    exact e2
theorem builtSc0 : Tryz.prog.built 99 [] = some [encStr [], .int .i64 0].toArray := by kernel_rfl
theorem szSc0 : (Tryz.prog.info? 99).map (·.size) = some [encStr [], Value.int .i64 0].length := by kernel_rfl
end Go.Proofs.YtpbkejmffddelaaGreat

/-
  A set's calls, next part: At, Rank, Clone. Own work.
-/
namespace Go.Proofs.YtpbkejmffddelaaGreat
open Go.RowKit Go.Shelf
/-- What Rank's region keeps. -/
def JRk (w0 : World) (k : Nat) (x : Sc) (bs : List Bool) (vs : List Value) (w : World) : Prop :=
  Below w0.heap.size w0 w ∧
  (bs.getD 0 false = true → ∃ g, vs.getD 0 undef = .func (.func 155) #[] #[ptr g] ∧ (bs.getD 3 false = false → Row w 99 g x.cells)) ∧
  (bs.getD 1 false = true → ∃ ps gk, vs.getD 1 undef = .agg (lksC ps).toArray ∧ ps.length = 16 ∧ ps[0]? = some ⟨some gk, (k : Int)⟩) ∧
  (bs.getD 2 false = true → ∃ g8 cs, vs.getD 2 undef = ptr g8 ∧ w0.heap.size ≤ g8 ∧ Row w 169 g8 cs ∧ cs.length = 32 ∧ (bs.getD 3 false = true → cs[1]? = some (.int .i64 (k : Int))))
theorem JRk.start (w0 : World) (k : Nat) (x : Sc) (vs : List Value) : JRk w0 k x [false, false, false, false] vs w0.drew :=
  ⟨(Below.refl _ _).drew, fun h => absurd (show false = true from h) (by decide), fun h => absurd (show false = true from h) (by decide), fun h => absurd (show false = true from h) (by decide)⟩
def SRk (gz : Nat) (hd : Nd) (m : Nm) (s : Int) (opn : Nat) (v : Value) : Prop :=
  match opn with
  | 0 | 1 => v = .pointer (some ⟨gz, 0, none⟩)
  | 2 => v = .pointer (some ⟨gz, 1, none⟩)
  | 3 => v = ptr hd.g
  | 4 => v = encStr m
  | 5 => v = .int .i64 s
  | 6 => v = .agg [encStr m, .int .i64 s].toArray
  | _ => True

end Go.Proofs.YtpbkejmffddelaaGreat

/-
  The document's sets: Less, Find, Drop: contracts. Own work.
-/
namespace Go.Proofs.YtpbkejmffddelaaGreat
open Go.RowKit Go.Shelf
/-- A list of members in memory. -/
def ScV (w : World) (v : Value) (l : List Sc) : Prop := (l = [] ∧ ∃ A c, v = .slice A 0 c) ∨ ∃ g cap, v = .slice (some ⟨g, 0, none⟩) l.length cap ∧ g < w.heap.size ∧ l.length ≤ cap ∧ ∀ (i : Nat) (a : Sc), l[i]? = some a → ∀ (j : Nat) (u : Value), a.cells[j]? = some u → w.cell? ⟨g, i * 2 + j, none⟩ = some u
theorem ScV.later {w w' : World} {v : Value} {l : List Sc} (h : ScV w v l) (hb : Below w.heap.size w w') : ScV w' v l := by
  rcases h with h | ⟨g, cap, e, hg, hc, h⟩
  · exact .inl h
  · refine .inr ⟨g, cap, e, Nat.lt_of_lt_of_le hg hb.size, hc, fun i a hi j u hj => ?_⟩
    rw [← h i a hi j u hj]
    exact World.cell?_of_block (hb.block g hg)
theorem own_scv {w : World} {T : Nat} {v : Value} {l : List Sc} (h : OwnS w T v l) : ScV w v l := by
  rcases Nat.eq_zero_or_pos l.length with h0 | h0
  · left
    have hl : l = [] := List.eq_nil_of_length_eq_zero h0
    refine ⟨hl, ?_⟩
    rcases h.2 with ⟨e, _⟩ | ⟨g, cap, cur, e, _⟩
    · exact ⟨none, 0, e⟩
    · exact ⟨some ⟨g, 0, none⟩, cap, by rw [e, h0]⟩
  · right
    obtain ⟨a, ha⟩ : ∃ a, l[0]? = some a := ⟨_, List.getElem?_eq_getElem h0⟩
    obtain ⟨g, cap, e, _, hg, hc⟩ := own_cells h ha
    rcases h.2 with ⟨e2, h2⟩ | ⟨g2, cap2, cur, e2, _, _, hcap, _⟩
    · omega
    · rw [e] at e2
      injection e2 with q1 q2 q3
      exact ⟨g, cap, e, hg, by omega, fun i a hi j u hj => hc i a j u hi hj⟩
theorem ScV.sl {w : World} {v : Value} {l : List Sc} (h : ScV w v l) : ∃ A c, v = .slice A l.length c := by
  rcases h with ⟨rfl, A, c, e⟩ | ⟨g, cap, e, _⟩
  · exact ⟨A, c, e⟩
  · exact ⟨_, cap, e⟩
/-- The i-th. -/
theorem ScV.at {w : World} {v : Value} {l : List Sc} {i : Nat} {a : Sc} (h : ScV w v l) (hi : l[i]? = some a) : ∃ g cap, v = .slice (some ⟨g, 0, none⟩) l.length cap ∧ g < w.heap.size ∧ w.cell? ⟨g, i * 2, none⟩ = some (encStr a.m) ∧ w.cell? ⟨g, i * 2 + 1, none⟩ = some (.int .i64 a.s) ∧ ∀ j u, [encStr a.m, Value.int .i64 a.s][j]? = some u → w.cell? ⟨g, i * 2 + j, none⟩ = some u := by
  rcases h with ⟨rfl, _⟩ | ⟨g, cap, e, hg, _, h⟩
  · simp at hi
  · exact ⟨g, cap, e, hg, h i a hi 0 _ rfl, h i a hi 1 _ rfl, h i a hi⟩
set_option maxRecDepth 100000 in
theorem rless_any (w : World) (a b : Sc) : Calls Tryz.prog 118 #[a.val, b.val] w fun e w' => e = .returned (.bool (a.less b)) ∧ Below w.heap.size w w' := by
  obtain ⟨am, sa⟩ := a
  obtain ⟨bm, sb⟩ := b
  have hl := lt_nm
  rcases Int.lt_trichotomy sa sb with h | h | h
  · have e1 : Sc.less ⟨am, sa⟩ ⟨bm, sb⟩ = true := by rw [Sc.less_iff]; exact .inl h
    rw [e1]
    clear e1
    go_enter Tryz.func118, Tryz.ntmps118
    go_wp2_with (first
      | (with_reducible refine wl_box (o := ⟨some 2, _, _, _, _, _⟩) rfl 99 (.tmp 0) _ [encStr am, .int .i64 sa] rfl rfl rfl ?_; intro g2 w2 r2 p2 l2 b2)
      | (with_reducible refine wl_box (o := ⟨some 3, _, _, _, _, _⟩) rfl 99 (.tmp 1) _ [encStr bm, .int .i64 sb] rfl rfl rfl ?_; intro g3 w3 r3 p3 l3 b3; have r2 := r2.later b3; have c1 := r2.cell (j := 0) rfl; have c2 := r2.cell (j := 1) rfl; have c3 := r3.cell (j := 0) rfl; have c4 := r3.cell (j := 1) rfl))
    go_ret
    exact ⟨rfl, b2.trans (b3.mono b2.size)⟩
  · have e1 : Sc.less ⟨am, sa⟩ ⟨bm, sb⟩ = bytesBefore am bm := by unfold Sc.less; rw [if_pos h]
    have h1 : (sa == sb) = true := by simp [h]
    have h2 : decide (sa = sb) = true := by simp [h]
    have h3 : ¬ sa < sb := by omega
    rw [e1]
    clear e1 h
    go_enter Tryz.func118, Tryz.ntmps118
    go_wp2_with (first
      | (with_reducible refine wl_box (o := ⟨some 2, _, _, _, _, _⟩) rfl 99 (.tmp 0) _ [encStr am, .int .i64 sa] rfl rfl rfl ?_; intro g2 w2 r2 p2 l2 b2)
      | (with_reducible refine wl_box (o := ⟨some 3, _, _, _, _, _⟩) rfl 99 (.tmp 1) _ [encStr bm, .int .i64 sb] rfl rfl rfl ?_; intro g3 w3 r3 p3 l3 b3; have r2 := r2.later b3; have c1 := r2.cell (j := 0) rfl; have c2 := r2.cell (j := 1) rfl; have c3 := r3.cell (j := 0) rfl; have c4 := r3.cell (j := 1) rfl))
    go_ret
    exact ⟨by rw [← less_before]; rfl, b2.trans (b3.mono b2.size)⟩
  · have e1 : Sc.less ⟨am, sa⟩ ⟨bm, sb⟩ = false := by
      cases hq : Sc.less ⟨am, sa⟩ ⟨bm, sb⟩ with
      | false => rfl
      | true =>
        rcases (Sc.less_iff _ _).1 hq with e | e
        · have : sa < sb := e; omega
        · have : sa = sb := e.1; omega
    have h1 : (sa == sb) = false := by simp; omega
    have h2 : decide (sa = sb) = false := by simp; omega
    have h3 : ¬ sa < sb := by omega
    rw [e1]
    clear e1 h
    go_enter Tryz.func118, Tryz.ntmps118
    go_wp2_with (first
      | (with_reducible refine wl_box (o := ⟨some 2, _, _, _, _, _⟩) rfl 99 (.tmp 0) _ [encStr am, .int .i64 sa] rfl rfl rfl ?_; intro g2 w2 r2 p2 l2 b2)
      | (with_reducible refine wl_box (o := ⟨some 3, _, _, _, _, _⟩) rfl 99 (.tmp 1) _ [encStr bm, .int .i64 sb] rfl rfl rfl ?_; intro g3 w3 r3 p3 l3 b3; have r2 := r2.later b3; have c1 := r2.cell (j := 0) rfl; have c2 := r2.cell (j := 1) rfl; have c3 := r3.cell (j := 0) rfl; have c4 := r3.cell (j := 1) rfl))
    go_ret
    exact ⟨rfl, b2.trans (b3.mono b2.size)⟩
/-- The place of a member, or -1. -/
def idxS (m : Nm) (l : List Sc) : Int := match l.findIdx? (fun a => a.m == m) with
  | some i => (i : Int)
  | none => -1
theorem idxS_at {m : Nm} {l : List Sc} {i : Nat} {a : Sc} (h : l[i]? = some a) (hm : a.m = m) (h0 : ∀ (j : Nat) (b : Sc), j < i → l[j]? = some b → b.m ≠ m) : idxS m l = (i : Int) := by
  unfold idxS
  have : l.findIdx? (fun a => a.m == m) = some i := by
    rw [List.findIdx?_eq_some_iff_getElem]
    obtain ⟨hi, e⟩ := List.getElem?_eq_some_iff.1 h
    exact ⟨hi, by rw [e]; simp [hm], fun j hj => by have := h0 j _ hj (List.getElem?_eq_getElem (by omega)); simpa using this⟩
  rw [this]
theorem idxS_none {m : Nm} {l : List Sc} (h : ∀ (j : Nat) (b : Sc), l[j]? = some b → b.m ≠ m) : idxS m l = -1 := by
  unfold idxS
  have : l.findIdx? (fun a => a.m == m) = none := by
    rw [List.findIdx?_eq_none_iff]
    intro a ha
    obtain ⟨j, hj⟩ := List.getElem?_of_mem ha
    simpa using h j a hj
  rw [this]
set_option maxRecDepth 100000 in
set_option maxHeartbeats 1000000 in
/-- Find. -/
theorem rfind_any (w : World) (v : Value) (l : List Sc) (m : Nm) (h : ScV w v l) (hl : l.length ≤ 1000000) : Calls Tryz.prog 124 #[v, encStr m] w fun e w' => e = .returned (.int .i64 (idxS m l)) ∧ w = w' := by
  obtain ⟨A, c, rfl⟩ := h.sl
  have hlI : (l.length : Int) ≤ 1000000 := by omega
  go_enter Tryz.func124, Tryz.ntmps124
  go_wp2_with fail
  go_loopw [5] (fun iv wr => ∃ i : Nat, i ≤ l.length ∧ iv = .int .i64 (i : Int) ∧ (∀ (j : Nat) (b : Sc), j < i → l[j]? = some b → b.m ≠ m) ∧ w = wr) (fun iv _ => l.length - (intOf iv).toNat)
  case atStart => exact ⟨0, by omega, rfl, fun j b hj => by omega, rfl⟩
  case round =>
    obtain ⟨i, hi, rfl, hno, rfl⟩ := hrel
    by_cases hlt : i < l.length
    · have hltI : (i : Int) < (l.length : Int) := by omega
      obtain ⟨a, ha⟩ : ∃ a, l[i]? = some a := ⟨_, List.getElem?_eq_getElem hlt⟩
      obtain ⟨g, cap, e, hg, c0, c1, _⟩ := h.at ha
      injection e with q1 q2 q3
      subst q1
      subst q3
      replace ha := hide ha
      replace hno := hide hno
      by_cases he : a.m = m
      · have hb := decide_eq_true he
        replace he := hide he
        go_wp2_with (first
          | (with_reducible refine wl_run (o := ⟨some 14, _, _, _, _, _⟩) rfl (.pointer (some ⟨g, 0 + i * 2, none⟩)) (run_indexSlN 24 (.tmp 12) (.tmp 13) 99 2 g 0 l.length c i rfl Tryz.underlying24 Tryz.sizeOf99 rfl rfl hlt) ?_)
          | (with_reducible refine wl_run (o := ⟨some 18, _, _, _, _, _⟩) rfl (.bool true) (run_eqStr (.tmp 16) (.tmp 17) rfl rfl rfl hb) ?_))
        go_ret
        exact ⟨by rw [idxS_at ha.out he.out hno.out]; rfl, rfl⟩
      · have hb := decide_eq_false he
        replace he := hide he
        go_wp2_with (first
          | (with_reducible refine wl_run (o := ⟨some 14, _, _, _, _, _⟩) rfl (.pointer (some ⟨g, 0 + i * 2, none⟩)) (run_indexSlN 24 (.tmp 12) (.tmp 13) 99 2 g 0 l.length c i rfl Tryz.underlying24 Tryz.sizeOf99 rfl rfl hlt) ?_)
          | (with_reducible refine wl_run (o := ⟨some 18, _, _, _, _, _⟩) rfl (.bool false) (run_eqStr (.tmp 16) (.tmp 17) rfl rfl rfl hb) ?_))
        go_roundw
        case rel =>
          refine ⟨i + 1, by omega, by go_num, fun j b hj hb => ?_, trivial⟩
          by_cases h1 : j = i
          · subst h1
            rw [ha.out] at hb
            rw [← Option.some.inj hb]; exact he.out
          · exact hno.out j b (by omega) hb
        case measure => simp [intOf]; omega
    · obtain rfl : i = l.length := by omega
      go_wp2_with fail
      go_ret
      exact ⟨by rw [idxS_none fun j b hb => hno j b (List.getElem?_eq_some_iff.1 hb).1 hb]; rfl, rfl⟩
end Go.Proofs.YtpbkejmffddelaaGreat

/-
  Several own texts in one: DiskA, DiskB, DiskC, DiskD, DiskE, DiskF, DiskG, DiskH, DiskI, DiskJ, DiskK, SortS, DiskL, DiskM, DiskN, DiskO, DiskP, DiskQ. Own work.
-/
import Derived.Maps.OwnSet
import Derived.Maps.RangeWalk
import Derived.Sort.KeysCollected
import Derived.StringKeys
import Derived.Laws.ResultCell
import Derived.Test.YtfijhfolanhifaaProg
import Derived.Shelf.Sort.Plain
import Derived.Shelf.Small.Bits
import Derived.Sort.OwnSorted
import Derived.Test.YtfijhfolanhifaaGA
set_option linter.unusedVariables false
set_option linter.unusedSimpArgs false
/-
  Maps keyed by strings, whose elements are any values: what such a map has, as a list of names and values; look-up, store, delete, length. Own work, over the library's maps.
-/
namespace Go.Proofs.Ytfijhfolanhifaa
open Go.RowKit Go.Maps Go.ChangeMaps
abbrev Nm := List UInt8
abbrev Ents := List (Nm × Value)
/-- An element reads as itself. -/
def heldE : Value → Option (DataW Value × List MemPlace) := fun v => some (.held v, [])
def entD (l : Ents) : DataW Value := .map (l.map fun p => (.string p.1, .held p.2))
def insE (x : Nm × Value) : Ents → Ents
  | [] => [x]
  | y :: r => if bytesBefore x.1 y.1 then x :: y :: r else y :: insE x r
def delE (l : Ents) (n : Nm) : Ents := l.filter fun p => !(p.1 == n)
def putE (l : Ents) (n : Nm) (v : Value) : Ents := insE (n, v) (delE l n)
def atE (l : Ents) (n : Nm) : Option Value := (l.find? fun p => p.1 == n).map (·.2)
def riseE (l : Ents) : Prop := l.Pairwise fun p q => bytesBefore p.1 q.1 = true
theorem entD_ins (x : Nm × Value) : ∀ l : Ents, DataW.insert (Lit.string x.1, DataW.held x.2) (l.map fun p => (Lit.string p.1, DataW.held p.2)) = (insE x l).map fun p => (Lit.string p.1, DataW.held p.2)
  | [] => rfl
  | y :: r => by
    simp only [List.map_cons, DataW.insert, insE, Lit.before]
    by_cases h : bytesBefore x.1 y.1 = true
    · simp only [h, if_true]; rfl
    · simp only [h]; rw [entD_ins x r]; rfl
theorem entD_filter (l : Ents) (n : Nm) : (l.map fun p => ((Lit.string p.1, DataW.held p.2) : Lit × DataW Value)).filter (fun p => !p.1.sameKey (.string n)) = (delE l n).map fun p => (Lit.string p.1, DataW.held p.2) := by
  unfold delE
  rw [List.filter_map]
  rfl
theorem entD_put (l : Ents) (n : Nm) (v : Value) : (entD l).put (.string n) (.held v) = entD (putE l n v) := by
  show DataW.map (DataW.insert (Lit.string n, DataW.held v) ((l.map fun p => ((Lit.string p.1, DataW.held p.2) : Lit × DataW Value)).filter fun p => !p.1.sameKey (.string n))) = _
  rw [entD_filter, entD_ins (n, v)]
  rfl
theorem entD_del (l : Ents) (n : Nm) : (entD l).del (.string n) = entD (delE l n) := by
  show DataW.map ((l.map fun p => ((Lit.string p.1, DataW.held p.2) : Lit × DataW Value)).filter fun p => !p.1.sameKey (.string n)) = _
  rw [entD_filter]
  rfl
theorem entD_find (l : Ents) (n : Nm) : (l.map fun p => ((Lit.string p.1, DataW.held p.2) : Lit × DataW Value)).find? (fun p => p.1.sameKey (.string n)) = (l.find? fun p => p.1 == n).map fun p => (Lit.string p.1, DataW.held p.2) := by
  rw [List.find?_map]
  rfl
theorem entD_at (l : Ents) (n : Nm) (z : Value) : (entD l).atKey (.string n) (.held z) = .held ((atE l n).getD z) := by
  unfold entD atE DataW.atKey
  simp only [entD_find]
  cases l.find? fun p => p.1 == n <;> rfl
theorem entD_has (l : Ents) (n : Nm) : has (entD l) (.string n) = (atE l n).isSome := by
  show (l.map fun p => ((Lit.string p.1, DataW.held p.2) : Lit × DataW Value)).any (fun p => p.1.sameKey (.string n)) = _
  rw [List.any_map]
  unfold atE
  rw [Option.isSome_map]
  apply Bool.eq_iff_iff.2
  rw [List.find?_isSome]
  simp [Lit.sameKey]
theorem entD_size (l : Ents) : size (entD l) = l.length := by show (l.map _).length = _; simp
theorem entD_keys (l : Ents) : strKeys (entD l) = l.map (·.1) := by
  show (l.map fun p => ((Lit.string p.1, DataW.held p.2) : Lit × DataW Value)).map (fun p => strOf p.1) = _
  rw [List.map_map]
  rfl
/-- Block b is a map that has just these. -/
def MapAt (w : World) (b : Nat) (l : Ents) : Prop := w.ownsMap Try.prog 9 heldE b l.length (entD l)
theorem keyS : Keyed Try.prog 9 := string_keyed Try.underlying9
theorem keyOf_enc (n : Nm) (h : n.length ≤ maxLen) : keyOf Try.prog 9 (encStr n) = some (.string n) := by
  have := Go.WideMaps.keyOf_string_mk (P := Try.prog) (k := 9) Try.underlying9 (s := ⟨n.toArray⟩) (by show n.toArray.size ≤ _; simpa using h)
  simpa using this
theorem own_exact {w : World} {b n : Nat} {D : DataW Value} (h : w.ownsMap Try.prog 9 heldE b n D) : w.ownsMap Try.prog 9 heldE b (size D) D := by
  obtain ⟨es, clock, hb, F, hs, rfl⟩ := h
  exact ⟨es, clock, hb, F, by simp [size, length_sorted], rfl⟩
section
variable {w w' : World} {b B : Nat} {l : Ents}
theorem MapAt.lt (h : MapAt w b l) : b < w.heap.size := World.ownsMap.lt h
theorem MapAt.rise (h : MapAt w b l) : riseE l := by
  obtain ⟨es, clock, hb, F, hs, hD⟩ := h
  have h1 := Go.WideShapes.rising_pairwise _ (fit_rising keyS F)
  have h2 : (l.map fun p => ((Lit.string p.1, DataW.held p.2) : Lit × DataW Value)) = _ := DataW.map.inj hD
  rw [← h2, List.pairwise_map] at h1
  exact h1
theorem MapAt.same (h : MapAt w b l) (e : w'.heap[b]? = w.heap[b]?) : MapAt w' b l := by
  obtain ⟨es, clock, hb, F, hs, hD⟩ := h
  exact ⟨es, clock, e.trans hb, F, hs, hD⟩
theorem MapAt.later (h : MapAt w b l) (hb : Below w.heap.size w w') : MapAt w' b l := h.same (hb.block b h.lt)
theorem MapAt.below (h : MapAt w b l) (hb : Below B w w') (hB : b < B) : MapAt w' b l := h.same (hb.block b hB)
theorem MapAt.only {g : Nat} (h : MapAt w b l) (ho : Only g w w') (hne : b ≠ g) : MapAt w' b l := h.same (ho.block b hne)
theorem MapAt.buts {S : List Nat} (h : MapAt w b l) (ho : Buts S w w') (hne : b ∉ S) : MapAt w' b l := h.same (ho.block b h.lt hne)
theorem MapAt.ne_row {t g : Nat} {vs : List Value} (h : MapAt w b l) (hr : Row w t g vs) : b ≠ g := by
  obtain ⟨es, clock, hb, _⟩ := h
  intro e
  subst e
  unfold Row at hr
  rw [hb] at hr
  cases hr
theorem MapAt.made (w : World) : MapAt (w.alloc (.map #[] 0)) w.heap.size [] := World.ownsMap_made w _ _ _
theorem turned_only {g : Nat} (h : w.mapTurned w' g) : Only g w w' := by
  obtain ⟨es, clock, es', clock', hb, rfl⟩ := h
  exact ⟨rfl, rfl, rfl, by simp [ChangeMaps.setBlock], fun k hk => Go.ChangeMaps.heap_setBlock_other hb _ hk⟩
end
/-- What a file has: its slice, its bytes, how many are kept. -/
structure FV where
  A : Option Addr
  n : Nat
  c : Nat
  xs : List Int
  kept : Int
abbrev Fs := List (Nm × FV)
abbrev FV.cells (f : FV) : List Value := [.slice f.A f.n f.c, .int .i64 f.kept]
abbrev FV.val (f : FV) : Value := .agg #[.slice f.A f.n f.c, .int .i64 f.kept]
abbrev FV.sl (f : FV) : Value := .slice f.A f.n f.c
/-- A file that is not there. -/
def zV : FV := ⟨none, 0, 0, [], 0⟩
def ents (fs : Fs) : Ents := fs.map fun p => (p.1, p.2.val)
def insF (x : Nm × FV) : Fs → Fs
  | [] => [x]
  | y :: r => if bytesBefore x.1 y.1 then x :: y :: r else y :: insF x r
def delF (l : Fs) (n : Nm) : Fs := l.filter fun p => !(p.1 == n)
def putF (l : Fs) (n : Nm) (v : FV) : Fs := insF (n, v) (delF l n)
def atF (l : Fs) (n : Nm) : Option FV := (l.find? fun p => p.1 == n).map (·.2)
theorem ents_len (fs : Fs) : (ents fs).length = fs.length := by simp [ents]
theorem ents_ins (x : Nm × FV) : ∀ l : Fs, ents (insF x l) = insE (x.1, x.2.val) (ents l)
  | [] => rfl
  | y :: r => by
    show ents (if bytesBefore x.1 y.1 then x :: y :: r else y :: insF x r) = (if bytesBefore x.1 y.1 then (x.1, x.2.val) :: (y.1, y.2.val) :: ents r else (y.1, y.2.val) :: insE (x.1, x.2.val) (ents r))
    by_cases h : bytesBefore x.1 y.1 = true
    · simp only [h, if_true]; rfl
    · simp only [h]; rw [← ents_ins x r]; rfl
theorem ents_del (l : Fs) (n : Nm) : ents (delF l n) = delE (ents l) n := by
  unfold ents delE delF
  rw [List.filter_map]
  rfl
theorem ents_put (l : Fs) (n : Nm) (v : FV) : ents (putF l n v) = putE (ents l) n v.val := by rw [putF, ents_ins, ents_del]; rfl
theorem ents_at (l : Fs) (n : Nm) : atE (ents l) n = (atF l n).map FV.val := by
  unfold ents atE atF
  rw [List.find?_map, Option.map_map, Option.map_map]
  rfl
theorem ents_get (l : Fs) (n : Nm) : (atE (ents l) n).getD (.agg #[.slice none 0 0, .int .i64 0]) = ((atF l n).getD zV).val := by
  rw [ents_at]
  cases atF l n <;> rfl
theorem ents_some (l : Fs) (n : Nm) : (atE (ents l) n).isSome = (atF l n).isSome := by rw [ents_at, Option.isSome_map]
/-- Block b is a map that has just these files. -/
abbrev FMap (w : World) (b : Nat) (fs : Fs) : Prop := MapAt w b (ents fs)
end Go.Proofs.Ytfijhfolanhifaa

/-
  A map in a walk: rules for its operations; a closure that is called. Own work.
-/
namespace Go.Proofs.Ytfijhfolanhifaa
open Go.RowKit Go.Maps Go.ChangeMaps
/-- A file that is not there. -/
abbrev zF : Value := .agg #[.slice none 0 0, .int .i64 0]
theorem zeroF (w : World) : (zeroValue 137).run Try.prog w = .ok zF w := by kernel_rfl
theorem szE {w : World} {b n : Nat} {l : Ents} (h : MapAt w b l) : l.length < maxLen ∨ maxLen ≤ l.length := by omega
section
variable {ops : Array Oper} {rest : List Oper} {o : Oper} {a : Act} {w : World} {Q : Exit → Act → World → Prop} {K : Act → World → Prop} {b : Nat} {l : Ents} {n : Nm}
theorem run_look2 (m x : Operand) (ho : o.op = .lookup 70 m x true) (hm : a.eval m = .map (some b)) (hx : a.eval x = encStr n) (h : MapAt w b l) (hn : n.length ≤ maxLen) :
    (execOp a.eval o).run Try.prog w = .ok (.value (.tuple #[(atE l n).getD zF, .bool (atE l n).isSome])) w := by
  obtain ⟨v, ps, hrun, hv⟩ := World.ownsMap.look_ok h keyS Try.underlying70 (zeroF w) (zd := .held zF) (zp := []) rfl (keyOf_enc n hn)
  rw [entD_at] at hv
  rw [entD_has] at hrun
  obtain rfl : v = (atE l n).getD zF := by simp [heldE] at hv; exact hv.1
  unfold execOp
  simp [ho, hm, hx, hrun, Result.andThen]
theorem run_look1 (m x : Operand) (ho : o.op = .lookup 70 m x false) (hm : a.eval m = .map (some b)) (hx : a.eval x = encStr n) (h : MapAt w b l) (hn : n.length ≤ maxLen) :
    (execOp a.eval o).run Try.prog w = .ok (.value ((atE l n).getD zF)) w := by
  obtain ⟨v, ps, hrun, hv⟩ := World.ownsMap.lookup h keyS Try.underlying70 (zeroF w) (zd := .held zF) (zp := []) rfl (keyOf_enc n hn)
  rw [entD_at] at hv
  obtain rfl : v = (atE l n).getD zF := by simp [heldE] at hv; exact hv.1
  unfold execOp
  simp [ho, hm, hx, hrun, Result.andThen]
theorem st_put (m x y : Operand) (v : Value) (ho : o.op = .mapUpdate 70 m x y) (hm : a.eval m = .map (some b)) (hx : a.eval x = encStr n) (hy : a.eval y = v) (h : MapAt w b l) (hn : n.length ≤ maxLen) (hl : l.length < maxLen)
    (hk : ∀ w', MapAt w' b (putE l n v) → Only b w w' → K (a.put o.dst undef) w') : o.wp Try.prog a w K Q := by
  obtain ⟨w', hrun, r1, r2⟩ := World.ownsMap.store h keyS Try.underlying70 hl (keyOf_enc n hn) (val := v) (d := .held v) (ps := []) rfl
  rw [entD_put] at r1
  have r3 := own_exact r1
  rw [entD_size] at r3
  unfold Oper.wp
  simp [execOp, ho, hm, hx, hy, hrun, Result.andThen]
  exact hk _ r3 (turned_only r2)
theorem st_del (m x : Operand) (ho : o.op = .call { callee := .builtin .delete, args := #[m, x], argTypes := #[70, 9] }) (hm : a.eval m = .map (some b)) (hx : a.eval x = encStr n) (h : MapAt w b l) (hn : n.length ≤ maxLen)
    (hk : ∀ w', MapAt w' b (delE l n) → Only b w w' → K (a.put o.dst (.tuple #[])) w') : o.wp Try.prog a w K Q := by
  obtain ⟨w', hrun, r1, r2⟩ := World.ownsMap.drop h keyS Try.underlying70 (keyOf_enc n hn) o.type
  rw [entD_del] at r1
  have r3 := own_exact r1
  rw [entD_size] at r3
  unfold Oper.wp
  simp [execOp, ho, resolve, invoke, builtin, hm, hx, hrun, Result.andThen]
  exact hk _ r3 (turned_only r2)
theorem run_mapLen (m : Operand) (ho : o.op = .call { callee := .builtin .len, args := #[m], argTypes := #[70] }) (hm : a.eval m = .map (some b)) (h : MapAt w b l) :
    (execOp a.eval o).run Try.prog w = .ok (.value (.int .i64 l.length)) w := by
  have := World.ownsMap.len h Try.underlying70 o.type
  rw [entD_size] at this
  unfold execOp
  simp [ho, resolve, invoke, builtin, hm, this, Result.andThen]
theorem wl_run1 (hgd : o.guard = none) (v : Value) (hr : (execOp a.eval o).run Try.prog w = .ok (.value v) w) (hk : wpList Try.prog ops Q rest (a.put o.dst v) w) : wpList Try.prog ops Q (o :: rest) a w :=
  wpList_plain hgd fun K hK => by
    unfold Oper.wp
    rw [hr]
    exact hK _ _ hk
theorem wg_run1 (g : Nat) (c : Bool) (d : Nat) (hg : o.guard = some (g, c)) (hd : (ops[g]?).bind (·.dst) = some d) (hv : a.tmps[d]? = some (.bool c)) (v : Value) (hr : (execOp a.eval o).run Try.prog w = .ok (.value v) w) (hk : wpList Try.prog ops Q rest (a.put o.dst v) w) : wpList Try.prog ops Q (o :: rest) a w :=
  wpList_guarded g c d hg hd hv fun K hK => by
    unfold Oper.wp
    rw [hr]
    exact hK _ _ hk
theorem run_lookF2 {fs : Fs} (m x : Operand) (ho : o.op = .lookup 70 m x true) (hm : a.eval m = .map (some b)) (hx : a.eval x = encStr n) (h : FMap w b fs) (hn : n.length ≤ maxLen) :
    (execOp a.eval o).run Try.prog w = .ok (.value (.tuple #[((atF fs n).getD zV).val, .bool (atF fs n).isSome])) w := by
  rw [run_look2 m x ho hm hx h hn, ents_get, ents_some]
theorem run_lookF1 {fs : Fs} (m x : Operand) (ho : o.op = .lookup 70 m x false) (hm : a.eval m = .map (some b)) (hx : a.eval x = encStr n) (h : FMap w b fs) (hn : n.length ≤ maxLen) :
    (execOp a.eval o).run Try.prog w = .ok (.value ((atF fs n).getD zV).val) w := by
  rw [run_look1 m x ho hm hx h hn, ents_get]
theorem wl_look2 (hgd : o.guard = none) (m x : Operand) (n : Nm) (b : Nat) (fs : Fs) (f : FV) (t : Bool) (hf : (atF fs n).getD zV = f) (ht : (atF fs n).isSome = t) (ho : o.op = .lookup 70 m x true) (hm : a.eval m = .map (some b)) (hx : a.eval x = encStr n) (h : FMap w b fs) (hn : n.length ≤ maxLen)
    (hk : wpList Try.prog ops Q rest (a.put o.dst (.tuple #[.agg #[.slice f.A f.n f.c, .int .i64 f.kept], .bool t])) w) : wpList Try.prog ops Q (o :: rest) a w := wl_run1 hgd _ (hf ▸ ht ▸ run_lookF2 m x ho hm hx h hn) hk
theorem wl_look1 (hgd : o.guard = none) (m x : Operand) (n : Nm) (b : Nat) (fs : Fs) (f : FV) (hf : (atF fs n).getD zV = f) (ho : o.op = .lookup 70 m x false) (hm : a.eval m = .map (some b)) (hx : a.eval x = encStr n) (h : FMap w b fs) (hn : n.length ≤ maxLen)
    (hk : wpList Try.prog ops Q rest (a.put o.dst (.agg #[.slice f.A f.n f.c, .int .i64 f.kept])) w) : wpList Try.prog ops Q (o :: rest) a w := wl_run1 hgd _ (hf ▸ run_lookF1 m x ho hm hx h hn) hk
theorem wl_mapLen (hgd : o.guard = none) (m : Operand) (b : Nat) (l : Ents) (ho : o.op = .call { callee := .builtin .len, args := #[m], argTypes := #[70] }) (hm : a.eval m = .map (some b)) (h : MapAt w b l)
    (hk : wpList Try.prog ops Q rest (a.put o.dst (.int .i64 l.length)) w) : wpList Try.prog ops Q (o :: rest) a w := wl_run1 hgd _ (run_mapLen m ho hm h) hk
theorem wg_mapLen (g : Nat) (c : Bool) (d : Nat) (hg : o.guard = some (g, c)) (hd : (ops[g]?).bind (·.dst) = some d) (hv : a.tmps[d]? = some (.bool c)) (m : Operand) (b : Nat) (l : Ents) (ho : o.op = .call { callee := .builtin .len, args := #[m], argTypes := #[70] }) (hm : a.eval m = .map (some b)) (h : MapAt w b l)
    (hk : wpList Try.prog ops Q rest (a.put o.dst (.int .i64 l.length)) w) : wpList Try.prog ops Q (o :: rest) a w := wg_run1 g c d hg hd hv _ (run_mapLen m ho hm h) hk
theorem wl_put (hgd : o.guard = none) (m x y : Operand) (n : Nm) (v : Value) (b : Nat) (l : Ents) (ho : o.op = .mapUpdate 70 m x y) (hm : a.eval m = .map (some b)) (hx : a.eval x = encStr n) (hy : a.eval y = v) (h : MapAt w b l) (hn : n.length ≤ maxLen) (hl : l.length < maxLen)
    (hk : ∀ w', MapAt w' b (putE l n v) → Only b w w' → wpList Try.prog ops Q rest (a.put o.dst undef) w') : wpList Try.prog ops Q (o :: rest) a w :=
  wpList_plain hgd fun K hK => st_put m x y v ho hm hx hy h hn hl fun w' h1 h2 => hK _ _ (hk w' h1 h2)
theorem wl_makeMap (hgd : o.guard = none) (ho : o.op = .makeMap 70 none)
    (hk : ∀ b w', MapAt w' b [] → w.heap.size ≤ b → Below w.heap.size w w' → wpList Try.prog ops Q rest (a.put o.dst (.map (some b))) w') : wpList Try.prog ops Q (o :: rest) a w :=
  wpList_plain hgd fun K hK => by
    unfold Oper.wp
    simp [execOp, ho, run_makeMap, Result.andThen]
    exact hK _ _ (hk _ _ (MapAt.made w) (Nat.le_refl _) ((Below.refl _ _).alloc (Nat.le_refl _) _))
/-- A closure without arguments is called. -/
theorem st_callF (f : FuncId) (x : Operand) (caps : Array Value) (ho : o.op = .call { callee := .value x, args := #[], argTypes := #[] }) (hx : a.eval x = .func (.func f) #[] caps)
    (hf : ∀ (xs : Array Value) (w : World), (callFunc f xs).run Try.prog w = .ok (.enter f xs) w)
    {R : Ending → World → Prop} (hc : Calls Try.prog f caps w R) (hk : ∀ e w', R e w' → ∃ v, e = .returned v ∧ K (a.put o.dst v) w') : o.wp Try.prog a w K Q := by
  unfold Oper.wp execOp
  simp only [ho, resolve, hx, Deferred.ofValue]
  go_simp
  refine hc.mono fun e w' h => ?_
  obtain ⟨v, rfl, h2⟩ := hk e w' h
  exact h2
end
end Go.Proofs.Ytfijhfolanhifaa

/-
  The disk: which names may be; the disk's own row; made, refuse, full. Own work.
-/
namespace Go.Proofs.Ytfijhfolanhifaa
open Go.RowKit Go.Maps Go.ChangeMaps
def okN (n : Nm) : Bool := decide (1 ≤ n.length) && decide (n.length ≤ 40)
theorem okN_le {n : Nm} (h : okN n = true) : n.length ≤ maxLen := by
  simp [okN] at h
  exact Nat.le_trans h.2 (by decide)
theorem enc_size (n : Nm) : (⟨n.toArray⟩ : ByteArray).size = n.length := by show n.toArray.size = _; simp
set_option maxRecDepth 100000 in
theorem named_any (n : Nm) (w : World) : Calls Try.prog 98 #[encStr n] w fun e w' => e = .returned (.bool (okN n)) ∧ w = w' := by
  have hsz := enc_size n
  by_cases h1 : 1 ≤ n.length
  · have hd : decide ((1 : Int) ≤ (n.length : Int)) = true := by simp; omega
    have he : okN n = decide ((n.length : Int) ≤ 40) := by
      simp only [okN, h1, decide_true, Bool.true_and]
      apply decide_eq_decide.2
      omega
    rw [he]
    go_enter Try.func98, Try.ntmps98
    go_wp2_with fail
    go_ret
    exact ⟨rfl, rfl⟩
  · have hd : decide ((1 : Int) ≤ (n.length : Int)) = false := by simp; omega
    have he : okN n = false := by simp [okN, h1]
    rw [he]
    go_enter Try.func98, Try.ntmps98
    go_wp2_with fail
    go_ret
    exact ⟨rfl, rfl⟩
/-- The plug that a disk has: a plug, or none. -/
def PlAt (w : World) (pl : Value) (on : Bool) (fuse : Int) : Prop := (∃ gp, pl = ptr gp ∧ Plg w gp on fuse) ∨ (pl = .pointer none ∧ on = false)
abbrev DRow (w : World) (gd : Nat) (pl mv : Value) : Prop := Row w 72 gd [pl, mv]
set_option maxRecDepth 100000 in
theorem livePl_any (w : World) (pl : Value) (on : Bool) (fuse : Int) (h : PlAt w pl on fuse) : Calls Try.prog 81 #[pl] w fun e w' => e = .returned (.bool on) ∧ w = w' := by
  rcases h with ⟨gp, rfl, h⟩ | ⟨rfl, rfl⟩
  · exact live_any w gp on fuse h
  · exact live_nil w
set_option maxRecDepth 100000 in
theorem made_yes (w : World) (gd mb : Nat) (pl : Value) (h : DRow w gd pl (.map (some mb))) : Calls Try.prog 82 #[ptr gd] w fun e w' => e = .returned (.bool true) ∧ w = w' := by
  have c1 := h.cell (j := 1) rfl
  have hneq : ∀ w, (binOp BinOp.neq 70 (.map (some mb)) (.map none)).run Try.prog w = .ok (.bool true) w := by intro w; rfl
  go_enter Try.func82, Try.ntmps82
  go_wp2_with fail
  go_ret
  exact ⟨rfl, rfl⟩
set_option maxRecDepth 100000 in
theorem made_zero (w : World) (gd : Nat) (pl : Value) (h : DRow w gd pl (.map none)) : Calls Try.prog 82 #[ptr gd] w fun e w' => e = .returned (.bool false) ∧ w = w' := by
  have c1 := h.cell (j := 1) rfl
  have hneq : ∀ w, (binOp BinOp.neq 70 (.map (none)) (.map none)).run Try.prog w = .ok (.bool false) w := by intro w; rfl
  go_enter Try.func82, Try.ntmps82
  go_wp2_with fail
  go_ret
  exact ⟨rfl, rfl⟩
set_option maxRecDepth 100000 in
theorem made_nil (w : World) : Calls Try.prog 82 #[.pointer none] w fun e w' => e = .returned (.bool false) ∧ w = w' := by
  go_enter Try.func82, Try.ntmps82
  go_wp2_with fail
  go_ret
  exact ⟨rfl, rfl⟩
/-- A disk that New did not make. -/
def Unmade (w : World) (v : Value) : Prop := v = .pointer none ∨ ∃ g, v = ptr g ∧ DRow w g (.pointer none) (.map none)
theorem Unmade.later {w w' : World} {v : Value} (h : Unmade w v) (hb : Below w.heap.size w w') : Unmade w' v := h.imp id fun ⟨g, e, r⟩ => ⟨g, e, Row.later r hb⟩
theorem made_no (w : World) (v : Value) (h : Unmade w v) : Calls Try.prog 82 #[v] w fun e w' => e = .returned (.bool false) ∧ w = w' := by
  rcases h with rfl | ⟨g, rfl, h⟩
  · exact made_nil w
  · exact made_zero w g _ h
/-- Names that stand in a row. -/
def NmsAt (w : World) (A : Option Addr) (m : Nat) (ns : List Nm) : Prop := ns.length = m ∧ (0 < m → ∃ b o, A = some ⟨b, o, none⟩ ∧ ∀ i, i < m → w.cell? ⟨b, o + i, none⟩ = some (encStr (ns.getD i [])))
def refE (ns : List Nm) (on : Bool) : Int := if ns.all okN then (if on then 0 else 8) else 1
set_option maxRecDepth 100000 in
theorem refuse_no (w : World) (v : Value) (A : Option Addr) (m c : Nat) (h : Unmade w v) : Calls Try.prog 89 #[v, .slice A m c] w fun e w' => e = .returned (.int .i64 2) ∧ w = w' := by
  go_enter Try.func89, Try.ntmps89
  go_wp2_with fail
  refine (made_no w v h).mono ?_
  rintro e w1 ⟨rfl, rfl⟩
  go_wp2_with fail
  go_ret
  exact ⟨rfl, rfl⟩
set_option maxRecDepth 100000 in
theorem refuse_any (w : World) (gd mb : Nat) (pl : Value) (on : Bool) (fuse : Int) (A : Option Addr) (m c : Nat) (ns : List Nm) (hm : m ≤ 2) (h : DRow w gd pl (.map (some mb))) (hp : PlAt w pl on fuse) (hn : NmsAt w A m ns) :
    Calls Try.prog 89 #[ptr gd, .slice A m c] w fun e w' => e = .returned (.int .i64 (refE ns on)) ∧ w = w' := by
  have HM := made_yes w gd mb pl h
  have HP := livePl_any w pl on fuse hp
  have HN := hide hn
  have c0 := h.cell (j := 0) rfl
  clear h hp hn
  go_enter Try.func89, Try.ntmps89
  go_wp2_with fail
  refine HM.mono ?_
  rintro e w1 ⟨rfl, rfl⟩
  have HM := hide HM
  have HP := hide HP
  go_wp2_with fail
  go_loopw [12] (fun iv wr => ∃ i : Nat, i ≤ m ∧ iv = .int .i64 i ∧ wr = w ∧ ∀ j, j < i → okN (ns.getD j []) = true) (fun iv _ => m - (intOf iv).toNat)
  case atStart => exact ⟨0, by omega, rfl, rfl, fun j hj => absurd hj (by omega)⟩
  case round =>
    obtain ⟨i, him, rfl, rfl, hok⟩ := hrel
    have HO := hide hok
    clear hok
    by_cases hi : i < m
    · obtain ⟨bb, oo, rfl, hcc⟩ := HN.out.2 (by omega)
      have ci := hcc i hi
      clear hcc
      generalize hne : ns.getD i [] = nn at ci
      have HNE := hide hne
      clear hne
      go_wp2_with fail
      refine (named_any _ _).mono ?_
      rintro e w1 ⟨rfl, rfl⟩
      cases hq : okN nn with
      | false =>
        go_wp2_with fail
        go_ret
        have hr : refE ns on = 1 := by
          have : ns.all okN = false := by
            apply Bool.eq_false_iff.2
            intro ha
            rw [List.all_eq_true] at ha
            have hlen := HN.out.1
            have := ha (ns.getD i []) (by rw [List.getD, List.getElem?_eq_getElem (by omega)]; simp)
            rw [HNE.out, hq] at this
            cases this
          simp [refE, this]
        exact ⟨by rw [hr]; rfl, rfl⟩
      | true =>
        go_wp2_with fail
        go_roundw
        case rel => exact ⟨i + 1, by omega, by go_num, by first | rfl | trivial, fun j hj => by
          by_cases hji : j = i
          · rw [hji, HNE.out]; exact hq
          · exact HO.out j (by omega)⟩
        case measure => simp [intOf]; omega
    · obtain rfl : i = m := by omega
      go_wp2_with fail
      refine HP.out.mono ?_
      rintro e w1 ⟨rfl, rfl⟩
      cases on with
      | false =>
        go_wp2_with fail
        go_ret
        have hr : refE ns false = 8 := by
          have : ns.all okN = true := by
            rw [List.all_eq_true]
            intro x hx
            obtain ⟨j, hj, rfl⟩ := List.getElem_of_mem hx
            have := HO.out j (by rw [← HN.out.1]; exact hj)
            rwa [List.getD, List.getElem?_eq_getElem hj] at this
          simp [refE, this]
        exact ⟨by rw [hr]; rfl, rfl⟩
      | true =>
        go_wp2_with fail
        go_ret
        have hr : refE ns true = 0 := by
          have : ns.all okN = true := by
            rw [List.all_eq_true]
            intro x hx
            obtain ⟨j, hj, rfl⟩ := List.getElem_of_mem hx
            have := HO.out j (by rw [← HN.out.1]; exact hj)
            rwa [List.getD, List.getElem?_eq_getElem hj] at this
          simp [refE, this]
        exact ⟨by rw [hr]; rfl, rfl⟩
theorem szFile (f : FV) : (Try.prog.info? 137).map (·.size) = some [Value.slice f.A f.n f.c, Value.int .i64 f.kept].length := by kernel_rfl
theorem zFile : (Try.prog.info? 137).map (fun i => i.zero) = some (some (.agg #[.slice none 0 0, .int .i64 0])) := by kernel_rfl
theorem one_file (f : FV) : ∀ u ∈ [Value.slice f.A f.n f.c, Value.int .i64 f.kept], u.oneCell' = true := by intro u hu; simp at hu; rcases hu with rfl | rfl <;> rfl
set_option maxRecDepth 100000 in
theorem full_any (w : World) (gd mb : Nat) (pl : Value) (fs : Fs) (n : Nm) (hn : n.length ≤ maxLen) (h : DRow w gd pl (.map (some mb))) (hm : FMap w mb fs) :
    Calls Try.prog 90 #[ptr gd, encStr n] w fun e w' => e = .returned (.bool (!(atF fs n).isSome && decide (64 ≤ fs.length))) ∧ Below w.heap.size w w' := by
  have c1 := h.cell (j := 1) rfl
  have hlen := ents_len fs
  obtain ⟨f, hf⟩ : ∃ f, (atF fs n).getD zV = f := ⟨_, rfl⟩
  obtain ⟨t, ht⟩ : ∃ t, (atF fs n).isSome = t := ⟨_, rfl⟩
  have hd : decide ((64 : Int) ≤ ((ents fs).length : Int)) = decide (64 ≤ fs.length) := by rw [hlen]; apply decide_eq_decide.2; omega
  rw [ht, ← hd]
  have HF := hide hf
  have HT := hide ht
  have HM := hide hm
  have HH := hide h
  clear hf ht hm hd hlen
  cases t with
  | true =>
    go_enter Try.func90, Try.ntmps90
    go_wp2_with (first
      | (with_reducible refine wl_look2 rfl (.tmp 11) (.tmp 12) n mb fs f true HF.out HT.out rfl rfl rfl HM.out hn ?_)
      | ((with_reducible refine wl_alloc rfl 137 _ [.slice none 0 0, .int .i64 0] rfl zFile rfl ?_); intro g9 w4 r9 p9 l9 b9)
      | ((with_reducible refine wl_store_row rfl 137 (.tmp 5) (.tmp 14) g9 137 _ [.slice f.A f.n f.c, .int .i64 f.kept] rfl rfl rfl r9 (szFile f) rfl (one_file f) ?_); intro w5 r10 o10))
    go_ret
    exact ⟨rfl, b9.trans (o10.below p9)⟩
  | false =>
    go_enter Try.func90, Try.ntmps90
    go_wp2_with (first
      | (with_reducible refine wl_look2 rfl (.tmp 11) (.tmp 12) n mb fs f false HF.out HT.out rfl rfl rfl HM.out hn ?_)
      | ((with_reducible refine wl_alloc rfl 137 _ [.slice none 0 0, .int .i64 0] rfl zFile rfl ?_); intro g9 w4 r9 p9 l9 b9)
      | ((with_reducible refine wl_store_row rfl 137 (.tmp 5) (.tmp 14) g9 137 _ [.slice f.A f.n f.c, .int .i64 f.kept] rfl rfl rfl r9 (szFile f) rfl (one_file f) ?_); intro w5 r10 o10; have bB := b9.trans (o10.below p9); have m5 := HM.out.later bB; have c5 := (HH.out.later bB).cell (j := 1) rfl)
      | (with_reducible refine wg_mapLen 2 true 18 rfl rfl rfl (.tmp 22) mb (ents fs) rfl rfl m5 ?_))
    go_ret
    exact ⟨rfl, bB⟩
end Go.Proofs.Ytfijhfolanhifaa

/-
  The disk: find. Own work.
-/
namespace Go.Proofs.Ytfijhfolanhifaa
open Go.RowKit Go.Maps Go.ChangeMaps
theorem wl_append_none {P : Program} {ops : Array Oper} {rest : List Oper} {o : Oper} {a : Act} {w : World} {Q : Exit → Act → World → Prop} (hgd : o.guard = none) (s x : Operand) (t : TypeId) (ho : o.op = .call { callee := .builtin .append, args := #[s, x], argTypes := #[t, t] })
    (base e : Nat) (i : TypeInfo) (size : Nat) (ht : P.underlying t = some (.slice e)) (hi : P.info? e = some i) (v : Value) (n : Nat) (xs : List Value) (hs : a.eval s = v) (hx : a.eval x = .slice none 0 0) (hown : w.ownsRow base e size v n xs)
    (hk : wpList P ops Q rest (a.put o.dst v) w) : wpList P ops Q (o :: rest) a w :=
  wpList_plain hgd fun K hK => by
    have hrun := run_append_owned_none (P := P) (w := w) base t o.type e i size ht hi v n xs hown
    unfold Oper.wp execOp
    simp only [ho, resolve, invoke, builtin, Sem.run_bind, Sem.run_pure, Result.andThen_ok, List.map_toArray, List.map_cons, List.map_nil, hs, hx, hrun]
    exact hK _ _ hk
theorem row_own {w : World} {t g B : Nat} {vs : List Value} (h : Row w t g vs) (hB : B ≤ g) (hm : vs.length ≤ maxLen) : w.ownsRow B t 1 (.slice (some ⟨g, 0, none⟩) vs.length vs.length) vs.length vs :=
  ⟨by simp, .inr ⟨g, vs.length, vs.toArray, rfl, hB, by unfold Row at h; exact h, Nat.le_refl _, hm, by simp, by simp⟩⟩
theorem own_nms {w : World} {T m : Nat} {v : Value} {ns : List Nm} (h : w.ownsRow T 9 1 v m (ns.map encStr)) (hm : 0 < m) : ∃ A c, v = .slice A m c ∧ NmsAt w A m ns := by
  obtain ⟨hl, ho⟩ := h
  rcases ho with ⟨rfl, h0⟩ | ⟨g, cap, cur, rfl, _, hg, h1, h2, h3, h4⟩
  · omega
  · refine ⟨_, cap, rfl, by simpa using hl, fun _ => ⟨g, 0, rfl, fun i hi => ?_⟩⟩
    have hn : i < ns.length := by simp at hl; omega
    have e : (cur.toList.take (m * 1))[i]? = (ns.map encStr)[i]? := by rw [h4]
    rw [Nat.mul_one, List.getElem?_take, if_pos hi, List.getElem?_map, List.getElem?_eq_getElem hn, Option.map_some] at e
    rw [Nat.zero_add, cell_of_row w g i cur _ (0, 0) hg, ← Array.getElem?_toList, e, List.getD, List.getElem?_eq_getElem hn]
    rfl
theorem str_info : ∃ i, Try.prog.info? 9 = some i ∧ i.zero = some (.string ByteArray.empty) ∧ i.size = 1 ∧ i.bytes = 16 := by
  have h : (Try.prog.info? 9).map (fun i => (i.zero, i.size, i.bytes)) = some (some (.string ByteArray.empty), 1, 16) := by kernel_rfl
  exact info_parts h
theorem results_file2 {fn : Func} {w : World} {tmps : Array Value} {g : Nat} {f : FV} {v : Value} (hr : fn.results = #[.cell 6 137, .tmp 7]) (hp : tmps.getD 6 undef = ptr g) (hv : tmps.getD 7 undef = v) (h : Row w 137 g [.slice f.A f.n f.c, .int .i64 f.kept]) :
    (results fn tmps).run Try.prog w = .ok (.tuple #[f.val, v]) w := by
  rw [results_cell_tmp hr, hp, hv]
  have := run_loadVar_row (P := Try.prog) w g 137 137 #[.slice f.A f.n f.c, .int .i64 f.kept] (0, 0) _ (by unfold Row at h; exact h) Try.underlying137 rfl (szFile f)
  simp [asAddr, this, Result.andThen]
theorem row_nms {w : World} {t g : Nat} {n : Nm} (h : Row w t g [encStr n]) : NmsAt w (some ⟨g, 0, none⟩) 1 [n] := ⟨rfl, fun _ => ⟨g, 0, rfl, fun i hi => by
  obtain rfl : i = 0 := by omega
  exact h.cell (j := 0) rfl⟩⟩
theorem le2a : 1 + 1 ≤ maxLen := by decide
theorem le2b : (1 + 1) * 16 ≤ 140737488355328 := by decide
theorem sl_own {B g n c : Nat} (h : B ≤ g) : ∀ k, (Value.slice (some ⟨g, 0, none⟩) n c).ownBlock = some k → B ≤ k := fun k hk => by cases hk; exact h
theorem len1 : 1 ≤ maxLen := by decide
theorem one_str (n : Nm) : ∀ u ∈ [encStr n], u.oneCell' = true := by intro u hu; simp at hu; subst hu; rfl
theorem nms_src {w : World} {b o : Nat} {n : Nm} (h : ∀ i, i < 1 → w.cell? ⟨b, o + i, none⟩ = some (encStr ([n].getD i []))) : ∀ (j : Nat) (u : Value), [encStr n][j]? = some u → w.cell? ((⟨b, o, none⟩ : Addr).add j) = some u := by
  intro j u hj
  match j, hj with
  | 0, hj => simp at hj; subst hj; rw [addr_plain]; exact h 0 (by decide)
theorem nms_below {w w' : World} {b o B : Nat} {n : Nm} (hb : Below B w w') (hB : b < B) (h : ∀ i, i < 1 → w.cell? ⟨b, o + i, none⟩ = some (encStr ([n].getD i []))) : ∀ i, i < 1 → w'.cell? ⟨b, o + i, none⟩ = some (encStr ([n].getD i [])) := fun i hi => (hb.cell (p := ⟨b, o + i, none⟩) hB).trans (h i hi)
theorem grown_lo {w w' : World} {v : Value} {B : Nat} (h : w.grownBy w' v.ownBlock) (hv : ∀ k, v.ownBlock = some k → B ≤ k) (hB : B ≤ w.heap.size) : Below B w w' := ⟨h.os, h.tape, h.output, h.size, fun k hk => h.block k (by omega) (fun e => by have := hv k e.symm; omega)⟩
def findR (fs : Fs) (n : Nm) (ns : List Nm) (on : Bool) : FV × Int :=
  if refE (n :: ns) on = 0 then (match atF fs n with | some f => (f, 0) | none => (zV, 9)) else (zV, refE (n :: ns) on)
theorem refE_cases (ns : List Nm) (on : Bool) : (refE ns on = 0 ∧ ns.all okN = true) ∨ refE ns on = 1 ∨ refE ns on = 8 := by
  unfold refE
  cases ns.all okN <;> cases on <;> simp
theorem findR_cases (fs : Fs) (n : Nm) (ns : List Nm) (on : Bool) : (refE (n :: ns) on = 0 ∧ n.length ≤ maxLen ∧ ((∃ f, atF fs n = some f ∧ findR fs n ns on = (f, 0)) ∨ (atF fs n = none ∧ findR fs n ns on = (zV, 9)))) ∨ (refE (n :: ns) on = 1 ∧ findR fs n ns on = (zV, 1)) ∨ (refE (n :: ns) on = 8 ∧ findR fs n ns on = (zV, 8)) := by
  rcases refE_cases (n :: ns) on with ⟨h, ho⟩ | h | h
  · refine .inl ⟨h, okN_le (by simp at ho; exact ho.1), ?_⟩
    unfold findR
    rw [h]
    cases atF fs n with
    | none => exact .inr ⟨rfl, rfl⟩
    | some f => exact .inl ⟨f, rfl, rfl⟩
  · exact .inr (.inl ⟨h, by unfold findR; rw [h]; rfl⟩)
  · exact .inr (.inr ⟨h, by unfold findR; rw [h]; rfl⟩)
theorem builtFile0 : Try.prog.built 137 [] = some [Value.slice none 0 0, Value.int .i64 0].toArray := by kernel_rfl
theorem PlAt.later {w w' : World} {pl : Value} {on : Bool} {fuse : Int} (h : PlAt w pl on fuse) (hb : Below w.heap.size w w') : PlAt w' pl on fuse := h.imp (fun ⟨g, e, r⟩ => ⟨g, e, Row.later r hb⟩) id
set_option maxRecDepth 100000 in
theorem find_one (w : World) (gd mb : Nat) (pl : Value) (on : Bool) (fuse : Int) (fs : Fs) (n : Nm)  (h : DRow w gd pl (.map (some mb))) (hp : PlAt w pl on fuse) (hm : FMap w mb fs) :
    Calls Try.prog 93 #[ptr gd, encStr n, .slice none 0 0] w fun e w' => e = .returned (.tuple #[(findR fs n [] on).1.val, .int .i64 (findR fs n [] on).2]) ∧ Below w.heap.size w w' := by
  obtain ⟨i0, hi, hz, hs, hb⟩ := str_info

  have HR := fun (w1 : World) (A : Option Addr) (m c : Nat) (b : Below w.heap.size w w1) (hm2 : m ≤ 2) (hN : NmsAt w1 A m (n :: [])) => refuse_any w1 gd mb pl on fuse A m c (n :: []) hm2 (h.later b) (hp.later b) hN
  have HM := hide hm
  have HH := hide h
  have HR := hide HR
  clear hp
  have c1 := h.cell (j := 1) rfl
  rcases findR_cases fs n [] on with ⟨he, hn, ⟨f, hf, hr⟩ | ⟨hf, hr⟩⟩ | ⟨he, hr⟩ | ⟨he, hr⟩
  · rw [hr]
    rw [he] at HR
    have HR := hide HR
    go_enter Try.func93, Try.ntmps93
    go_wp2_with (first
      | ((with_reducible refine wl_alloc rfl 137 _ [.slice none 0 0, .int .i64 0] rfl zFile rfl ?_); intro g1 w1 r1 p1 l1 b1)
      | ((with_reducible refine wl_build1 rfl 43 (.tmp 12) rfl 9 i0 (.string ByteArray.empty) (encStr n) Try.underlying43 hi hz hs rfl rfl rfl ?_); intro g3 w3 r3 p3 l3 b3; have own3 : w3.ownsRow w.heap.size 9 1 (.slice (some ⟨g3, 0, none⟩) 1 1) 1 [encStr n] := row_own r3 (Nat.le_trans b1.size p3) len1)
      | (with_reducible refine wl_append_none rfl (.tmp 13) (.tmp 14) 43 rfl w.heap.size 9 i0 1 Try.underlying43 hi (.slice (some ⟨g3, 0, none⟩) 1 1) 1 [encStr n] rfl rfl own3 ?_))
    have bW : Below w.heap.size w w3 := b1.trans (b3.mono b1.size)
    have hN := row_nms r3
    have rW := Row.later r1 b3
    clear own3 r3 l3 p3 b3 r1 l1 b1
    have c1 := (HH.out.later bW).cell (j := 1) rfl
    have mW := HM.out.later bW
    refine (HR.out w3 _ 1 _ bW (by decide) hN).mono ?_
    rintro e w5 ⟨rfl, rfl⟩
    clear HR
    have hg : (atF fs n).getD zV = f := by rw [hf]; rfl
    have ht : (atF fs n).isSome = true := by rw [hf]; rfl
    have HG := hide hg
    have HT := hide ht
    clear hg ht hf
    go_wp2_with (first
      | (with_reducible refine wl_look2 rfl (.tmp 25) (.tmp 26) n mb fs f true HG.out HT.out rfl rfl rfl mW hn ?_)
      | ((with_reducible refine wl_alloc rfl 137 _ [.slice none 0 0, .int .i64 0] rfl zFile rfl ?_); intro g9 w8 r9 p9 l9 b9; have ne9 : g1 ≠ g9 := Nat.ne_of_lt (Nat.lt_of_lt_of_le rW.lt p9); have rW := Row.later rW b9)
      | ((with_reducible refine wl_store_row rfl 137 (.tmp 9) (.tmp 28) g9 137 _ [.slice f.A f.n f.c, .int .i64 f.kept] rfl rfl rfl r9 (szFile f) rfl (one_file f) ?_); intro w9 r10 o10; have rW := rW.only o10 ne9)
      | (with_reducible refine wl_load_row rfl 137 (.tmp 9) g9 137 [.slice f.A f.n f.c, .int .i64 f.kept] _ rfl rfl r10 Try.underlying137 rfl (szFile f) ?_)
      | ((with_reducible refine wl_store_row rfl 137 (.tmp 6) (.tmp 33) g1 137 _ [.slice f.A f.n f.c, .int .i64 f.kept] rfl rfl rfl rW (szFile f) rfl (one_file f) ?_); intro w7 r7 o7))
    refine bodyPost_ret (v := .tuple #[f.val, .int .i64 0]) ?_ rfl ⟨rfl, ((bW.trans (b9.mono bW.size)).trans (o10.below (Nat.le_trans bW.size p9))).trans (o7.below p1)⟩
    exact results_file2 Try.results93 rfl rfl r7
  · rw [hr]
    rw [he] at HR
    have HR := hide HR
    go_enter Try.func93, Try.ntmps93
    go_wp2_with (first
      | ((with_reducible refine wl_alloc rfl 137 _ [.slice none 0 0, .int .i64 0] rfl zFile rfl ?_); intro g1 w1 r1 p1 l1 b1)
      | ((with_reducible refine wl_build1 rfl 43 (.tmp 12) rfl 9 i0 (.string ByteArray.empty) (encStr n) Try.underlying43 hi hz hs rfl rfl rfl ?_); intro g3 w3 r3 p3 l3 b3; have own3 : w3.ownsRow w.heap.size 9 1 (.slice (some ⟨g3, 0, none⟩) 1 1) 1 [encStr n] := row_own r3 (Nat.le_trans b1.size p3) len1)
      | (with_reducible refine wl_append_none rfl (.tmp 13) (.tmp 14) 43 rfl w.heap.size 9 i0 1 Try.underlying43 hi (.slice (some ⟨g3, 0, none⟩) 1 1) 1 [encStr n] rfl rfl own3 ?_))
    have bW : Below w.heap.size w w3 := b1.trans (b3.mono b1.size)
    have hN := row_nms r3
    have rW := Row.later r1 b3
    clear own3 r3 l3 p3 b3 r1 l1 b1
    have c1 := (HH.out.later bW).cell (j := 1) rfl
    have mW := HM.out.later bW
    refine (HR.out w3 _ 1 _ bW (by decide) hN).mono ?_
    rintro e w5 ⟨rfl, rfl⟩
    clear HR
    have hg : (atF fs n).getD zV = zV := by rw [hf]; rfl
    have ht : (atF fs n).isSome = false := by rw [hf]; rfl
    have HG := hide hg
    have HT := hide ht
    clear hg ht hf
    go_wp2_with (first
      | (with_reducible refine wl_look2 rfl (.tmp 25) (.tmp 26) n mb fs zV false HG.out HT.out rfl rfl rfl mW hn ?_)
      | ((with_reducible refine wl_alloc rfl 137 _ [.slice none 0 0, .int .i64 0] rfl zFile rfl ?_); intro g9 w8 r9 p9 l9 b9; have ne9 : g1 ≠ g9 := Nat.ne_of_lt (Nat.lt_of_lt_of_le rW.lt p9); have rW := Row.later rW b9)
      | ((with_reducible refine wl_store_row rfl 137 (.tmp 9) (.tmp 28) g9 137 _ [.slice zV.A zV.n zV.c, .int .i64 zV.kept] rfl rfl rfl r9 (szFile zV) rfl (one_file zV) ?_); intro w9 r10 o10; have rW := rW.only o10 ne9)
      | ((with_reducible refine wl_build rfl 137 _ rfl _ ?hv _ builtFile0 ?hk); case hv => rfl)
      | ((with_reducible refine wl_store_row rfl 137 (.tmp 6) (.tmp 32) g1 137 _ [.slice zV.A zV.n zV.c, .int .i64 zV.kept] rfl rfl rfl rW (szFile zV) rfl (one_file zV) ?_); intro w7 r7 o7))
    refine bodyPost_ret (v := .tuple #[zV.val, .int .i64 9]) ?_ rfl ⟨rfl, ((bW.trans (b9.mono bW.size)).trans (o10.below (Nat.le_trans bW.size p9))).trans (o7.below p1)⟩
    exact results_file2 Try.results93 rfl rfl r7
  · rw [hr]
    rw [he] at HR
    have HR := hide HR
    go_enter Try.func93, Try.ntmps93
    go_wp2_with (first
      | ((with_reducible refine wl_alloc rfl 137 _ [.slice none 0 0, .int .i64 0] rfl zFile rfl ?_); intro g1 w1 r1 p1 l1 b1)
      | ((with_reducible refine wl_build1 rfl 43 (.tmp 12) rfl 9 i0 (.string ByteArray.empty) (encStr n) Try.underlying43 hi hz hs rfl rfl rfl ?_); intro g3 w3 r3 p3 l3 b3; have own3 : w3.ownsRow w.heap.size 9 1 (.slice (some ⟨g3, 0, none⟩) 1 1) 1 [encStr n] := row_own r3 (Nat.le_trans b1.size p3) len1)
      | (with_reducible refine wl_append_none rfl (.tmp 13) (.tmp 14) 43 rfl w.heap.size 9 i0 1 Try.underlying43 hi (.slice (some ⟨g3, 0, none⟩) 1 1) 1 [encStr n] rfl rfl own3 ?_))
    have bW : Below w.heap.size w w3 := b1.trans (b3.mono b1.size)
    have hN := row_nms r3
    have rW := Row.later r1 b3
    clear own3 r3 l3 p3 b3 r1 l1 b1
    have c1 := (HH.out.later bW).cell (j := 1) rfl
    have mW := HM.out.later bW
    refine (HR.out w3 _ 1 _ bW (by decide) hN).mono ?_
    rintro e w5 ⟨rfl, rfl⟩
    clear HR
    go_wp2_with (first
      | ((with_reducible refine wl_build rfl 137 _ rfl _ ?hv _ builtFile0 ?hk); case hv => rfl)
      | ((with_reducible refine wl_store_row rfl 137 (.tmp 6) (.tmp 19) g1 137 _ [.slice zV.A zV.n zV.c, .int .i64 zV.kept] rfl rfl rfl rW (szFile zV) rfl (one_file zV) ?_); intro w7 r7 o7))
    refine bodyPost_ret (v := .tuple #[zV.val, .int .i64 1]) ?_ rfl ⟨rfl, bW.trans (o7.below p1)⟩
    exact results_file2 Try.results93 rfl rfl r7
  · rw [hr]
    rw [he] at HR
    have HR := hide HR
    go_enter Try.func93, Try.ntmps93
    go_wp2_with (first
      | ((with_reducible refine wl_alloc rfl 137 _ [.slice none 0 0, .int .i64 0] rfl zFile rfl ?_); intro g1 w1 r1 p1 l1 b1)
      | ((with_reducible refine wl_build1 rfl 43 (.tmp 12) rfl 9 i0 (.string ByteArray.empty) (encStr n) Try.underlying43 hi hz hs rfl rfl rfl ?_); intro g3 w3 r3 p3 l3 b3; have own3 : w3.ownsRow w.heap.size 9 1 (.slice (some ⟨g3, 0, none⟩) 1 1) 1 [encStr n] := row_own r3 (Nat.le_trans b1.size p3) len1)
      | (with_reducible refine wl_append_none rfl (.tmp 13) (.tmp 14) 43 rfl w.heap.size 9 i0 1 Try.underlying43 hi (.slice (some ⟨g3, 0, none⟩) 1 1) 1 [encStr n] rfl rfl own3 ?_))
    have bW : Below w.heap.size w w3 := b1.trans (b3.mono b1.size)
    have hN := row_nms r3
    have rW := Row.later r1 b3
    clear own3 r3 l3 p3 b3 r1 l1 b1
    have c1 := (HH.out.later bW).cell (j := 1) rfl
    have mW := HM.out.later bW
    refine (HR.out w3 _ 1 _ bW (by decide) hN).mono ?_
    rintro e w5 ⟨rfl, rfl⟩
    clear HR
    go_wp2_with (first
      | ((with_reducible refine wl_build rfl 137 _ rfl _ ?hv _ builtFile0 ?hk); case hv => rfl)
      | ((with_reducible refine wl_store_row rfl 137 (.tmp 6) (.tmp 19) g1 137 _ [.slice zV.A zV.n zV.c, .int .i64 zV.kept] rfl rfl rfl rW (szFile zV) rfl (one_file zV) ?_); intro w7 r7 o7))
    refine bodyPost_ret (v := .tuple #[zV.val, .int .i64 8]) ?_ rfl ⟨rfl, bW.trans (o7.below p1)⟩
    exact results_file2 Try.results93 rfl rfl r7

set_option maxRecDepth 100000 in
theorem find_two (w : World) (gd mb : Nat) (pl : Value) (on : Bool) (fuse : Int) (fs : Fs) (n : Nm) (n2 : Nm) (A : Option Addr) (c : Nat) (h2 : NmsAt w A 1 [n2]) (hlt : ∀ b o, A = some ⟨b, o, none⟩ → b < w.heap.size) (h : DRow w gd pl (.map (some mb))) (hp : PlAt w pl on fuse) (hm : FMap w mb fs) :
    Calls Try.prog 93 #[ptr gd, encStr n, .slice A 1 c] w fun e w' => e = .returned (.tuple #[(findR fs n [n2] on).1.val, .int .i64 (findR fs n [n2] on).2]) ∧ Below w.heap.size w w' := by
  obtain ⟨i0, hi, hz, hs, hb⟩ := str_info
  obtain ⟨b2, o2, rfl, hc2⟩ := h2.2 (by decide)
  have hb2 := hlt b2 o2 rfl
  have HR := fun (w1 : World) (A : Option Addr) (m c : Nat) (b : Below w.heap.size w w1) (hm2 : m ≤ 2) (hN : NmsAt w1 A m (n :: [n2])) => refuse_any w1 gd mb pl on fuse A m c (n :: [n2]) hm2 (h.later b) (hp.later b) hN
  have HM := hide hm
  have HH := hide h
  have HR := hide HR
  clear hp
  have c1 := h.cell (j := 1) rfl
  rcases findR_cases fs n [n2] on with ⟨he, hn, ⟨f, hf, hr⟩ | ⟨hf, hr⟩⟩ | ⟨he, hr⟩ | ⟨he, hr⟩
  · rw [hr]
    rw [he] at HR
    have HR := hide HR
    go_enter Try.func93, Try.ntmps93
    go_wp2_with (first
      | ((with_reducible refine wl_alloc rfl 137 _ [.slice none 0 0, .int .i64 0] rfl zFile rfl ?_); intro g1 w1 r1 p1 l1 b1)
      | ((with_reducible refine wl_build1 rfl 43 (.tmp 12) rfl 9 i0 (.string ByteArray.empty) (encStr n) Try.underlying43 hi hz hs rfl rfl rfl ?_); intro g3 w3 r3 p3 l3 b3; have hC3 := nms_src (nms_below (b1.trans (b3.mono b1.size)) hb2 hc2); have own3 : w3.ownsRow w.heap.size 9 1 (.slice (some ⟨g3, 0, none⟩) 1 1) 1 [encStr n] := row_own r3 (Nat.le_trans b1.size p3) len1)
      | ((with_reducible refine wl_append_at rfl (.tmp 13) (.tmp 14) 43 rfl w.heap.size 9 i0 (.string ByteArray.empty) 1 16 Try.underlying43 hi hz hs hb rfl (by decide) (.slice (some ⟨g3, 0, none⟩) 1 1) 1 [encStr n] rfl own3 ⟨b2, o2, none⟩ 1 c [encStr n2] rfl rfl hC3 (one_str n2) le2a le2b (Nat.le_trans b1.size b3.size) ?_); intro v4 w4 own4 hg4 hl4; obtain ⟨A4, c4, rfl, hN⟩ := own_nms (ns := [n, n2]) own4 (by decide); have b4 := grown_lo hg4 (sl_own (Nat.le_trans b1.size p3)) (Nat.le_trans b1.size b3.size)))
    have bW : Below w.heap.size w w4 := (b1.trans (b3.mono b1.size)).trans b4
    have rW : Row w4 137 g1 [.slice none 0 0, .int .i64 0] := by
      have ne13 : g1 ≠ g3 := Nat.ne_of_lt (Nat.lt_of_lt_of_le r1.lt p3)
      exact (hg4.block g1 (Row.later r1 b3).lt (fun e => ne13 (by cases e; rfl))).trans (Row.later r1 b3)
    have c1 := (HH.out.later bW).cell (j := 1) rfl
    have mW := HM.out.later bW
    refine (HR.out w4 _ 2 _ bW (by decide) hN).mono ?_
    rintro e w5 ⟨rfl, rfl⟩
    clear HR
    have hg : (atF fs n).getD zV = f := by rw [hf]; rfl
    have ht : (atF fs n).isSome = true := by rw [hf]; rfl
    have HG := hide hg
    have HT := hide ht
    clear hg ht hf
    go_wp2_with (first
      | (with_reducible refine wl_look2 rfl (.tmp 25) (.tmp 26) n mb fs f true HG.out HT.out rfl rfl rfl mW hn ?_)
      | ((with_reducible refine wl_alloc rfl 137 _ [.slice none 0 0, .int .i64 0] rfl zFile rfl ?_); intro g9 w8 r9 p9 l9 b9; have ne9 : g1 ≠ g9 := Nat.ne_of_lt (Nat.lt_of_lt_of_le rW.lt p9); have rW := Row.later rW b9)
      | ((with_reducible refine wl_store_row rfl 137 (.tmp 9) (.tmp 28) g9 137 _ [.slice f.A f.n f.c, .int .i64 f.kept] rfl rfl rfl r9 (szFile f) rfl (one_file f) ?_); intro w9 r10 o10; have rW := rW.only o10 ne9)
      | (with_reducible refine wl_load_row rfl 137 (.tmp 9) g9 137 [.slice f.A f.n f.c, .int .i64 f.kept] _ rfl rfl r10 Try.underlying137 rfl (szFile f) ?_)
      | ((with_reducible refine wl_store_row rfl 137 (.tmp 6) (.tmp 33) g1 137 _ [.slice f.A f.n f.c, .int .i64 f.kept] rfl rfl rfl rW (szFile f) rfl (one_file f) ?_); intro w7 r7 o7))
    refine bodyPost_ret (v := .tuple #[f.val, .int .i64 0]) ?_ rfl ⟨rfl, ((bW.trans (b9.mono bW.size)).trans (o10.below (Nat.le_trans bW.size p9))).trans (o7.below p1)⟩
    exact results_file2 Try.results93 rfl rfl r7
  · rw [hr]
    rw [he] at HR
    have HR := hide HR
    go_enter Try.func93, Try.ntmps93
    go_wp2_with (first
      | ((with_reducible refine wl_alloc rfl 137 _ [.slice none 0 0, .int .i64 0] rfl zFile rfl ?_); intro g1 w1 r1 p1 l1 b1)
      | ((with_reducible refine wl_build1 rfl 43 (.tmp 12) rfl 9 i0 (.string ByteArray.empty) (encStr n) Try.underlying43 hi hz hs rfl rfl rfl ?_); intro g3 w3 r3 p3 l3 b3; have hC3 := nms_src (nms_below (b1.trans (b3.mono b1.size)) hb2 hc2); have own3 : w3.ownsRow w.heap.size 9 1 (.slice (some ⟨g3, 0, none⟩) 1 1) 1 [encStr n] := row_own r3 (Nat.le_trans b1.size p3) len1)
      | ((with_reducible refine wl_append_at rfl (.tmp 13) (.tmp 14) 43 rfl w.heap.size 9 i0 (.string ByteArray.empty) 1 16 Try.underlying43 hi hz hs hb rfl (by decide) (.slice (some ⟨g3, 0, none⟩) 1 1) 1 [encStr n] rfl own3 ⟨b2, o2, none⟩ 1 c [encStr n2] rfl rfl hC3 (one_str n2) le2a le2b (Nat.le_trans b1.size b3.size) ?_); intro v4 w4 own4 hg4 hl4; obtain ⟨A4, c4, rfl, hN⟩ := own_nms (ns := [n, n2]) own4 (by decide); have b4 := grown_lo hg4 (sl_own (Nat.le_trans b1.size p3)) (Nat.le_trans b1.size b3.size)))
    have bW : Below w.heap.size w w4 := (b1.trans (b3.mono b1.size)).trans b4
    have rW : Row w4 137 g1 [.slice none 0 0, .int .i64 0] := by
      have ne13 : g1 ≠ g3 := Nat.ne_of_lt (Nat.lt_of_lt_of_le r1.lt p3)
      exact (hg4.block g1 (Row.later r1 b3).lt (fun e => ne13 (by cases e; rfl))).trans (Row.later r1 b3)
    have c1 := (HH.out.later bW).cell (j := 1) rfl
    have mW := HM.out.later bW
    refine (HR.out w4 _ 2 _ bW (by decide) hN).mono ?_
    rintro e w5 ⟨rfl, rfl⟩
    clear HR
    have hg : (atF fs n).getD zV = zV := by rw [hf]; rfl
    have ht : (atF fs n).isSome = false := by rw [hf]; rfl
    have HG := hide hg
    have HT := hide ht
    clear hg ht hf
    go_wp2_with (first
      | (with_reducible refine wl_look2 rfl (.tmp 25) (.tmp 26) n mb fs zV false HG.out HT.out rfl rfl rfl mW hn ?_)
      | ((with_reducible refine wl_alloc rfl 137 _ [.slice none 0 0, .int .i64 0] rfl zFile rfl ?_); intro g9 w8 r9 p9 l9 b9; have ne9 : g1 ≠ g9 := Nat.ne_of_lt (Nat.lt_of_lt_of_le rW.lt p9); have rW := Row.later rW b9)
      | ((with_reducible refine wl_store_row rfl 137 (.tmp 9) (.tmp 28) g9 137 _ [.slice zV.A zV.n zV.c, .int .i64 zV.kept] rfl rfl rfl r9 (szFile zV) rfl (one_file zV) ?_); intro w9 r10 o10; have rW := rW.only o10 ne9)
      | ((with_reducible refine wl_build rfl 137 _ rfl _ ?hv _ builtFile0 ?hk); case hv => rfl)
      | ((with_reducible refine wl_store_row rfl 137 (.tmp 6) (.tmp 32) g1 137 _ [.slice zV.A zV.n zV.c, .int .i64 zV.kept] rfl rfl rfl rW (szFile zV) rfl (one_file zV) ?_); intro w7 r7 o7))
    refine bodyPost_ret (v := .tuple #[zV.val, .int .i64 9]) ?_ rfl ⟨rfl, ((bW.trans (b9.mono bW.size)).trans (o10.below (Nat.le_trans bW.size p9))).trans (o7.below p1)⟩
    exact results_file2 Try.results93 rfl rfl r7
  · rw [hr]
    rw [he] at HR
    have HR := hide HR
    go_enter Try.func93, Try.ntmps93
    go_wp2_with (first
      | ((with_reducible refine wl_alloc rfl 137 _ [.slice none 0 0, .int .i64 0] rfl zFile rfl ?_); intro g1 w1 r1 p1 l1 b1)
      | ((with_reducible refine wl_build1 rfl 43 (.tmp 12) rfl 9 i0 (.string ByteArray.empty) (encStr n) Try.underlying43 hi hz hs rfl rfl rfl ?_); intro g3 w3 r3 p3 l3 b3; have hC3 := nms_src (nms_below (b1.trans (b3.mono b1.size)) hb2 hc2); have own3 : w3.ownsRow w.heap.size 9 1 (.slice (some ⟨g3, 0, none⟩) 1 1) 1 [encStr n] := row_own r3 (Nat.le_trans b1.size p3) len1)
      | ((with_reducible refine wl_append_at rfl (.tmp 13) (.tmp 14) 43 rfl w.heap.size 9 i0 (.string ByteArray.empty) 1 16 Try.underlying43 hi hz hs hb rfl (by decide) (.slice (some ⟨g3, 0, none⟩) 1 1) 1 [encStr n] rfl own3 ⟨b2, o2, none⟩ 1 c [encStr n2] rfl rfl hC3 (one_str n2) le2a le2b (Nat.le_trans b1.size b3.size) ?_); intro v4 w4 own4 hg4 hl4; obtain ⟨A4, c4, rfl, hN⟩ := own_nms (ns := [n, n2]) own4 (by decide); have b4 := grown_lo hg4 (sl_own (Nat.le_trans b1.size p3)) (Nat.le_trans b1.size b3.size)))
    have bW : Below w.heap.size w w4 := (b1.trans (b3.mono b1.size)).trans b4
    have rW : Row w4 137 g1 [.slice none 0 0, .int .i64 0] := by
      have ne13 : g1 ≠ g3 := Nat.ne_of_lt (Nat.lt_of_lt_of_le r1.lt p3)
      exact (hg4.block g1 (Row.later r1 b3).lt (fun e => ne13 (by cases e; rfl))).trans (Row.later r1 b3)
    have c1 := (HH.out.later bW).cell (j := 1) rfl
    have mW := HM.out.later bW
    refine (HR.out w4 _ 2 _ bW (by decide) hN).mono ?_
    rintro e w5 ⟨rfl, rfl⟩
    clear HR
    go_wp2_with (first
      | ((with_reducible refine wl_build rfl 137 _ rfl _ ?hv _ builtFile0 ?hk); case hv => rfl)
      | ((with_reducible refine wl_store_row rfl 137 (.tmp 6) (.tmp 19) g1 137 _ [.slice zV.A zV.n zV.c, .int .i64 zV.kept] rfl rfl rfl rW (szFile zV) rfl (one_file zV) ?_); intro w7 r7 o7))
    refine bodyPost_ret (v := .tuple #[zV.val, .int .i64 1]) ?_ rfl ⟨rfl, bW.trans (o7.below p1)⟩
    exact results_file2 Try.results93 rfl rfl r7
  · rw [hr]
    rw [he] at HR
    have HR := hide HR
    go_enter Try.func93, Try.ntmps93
    go_wp2_with (first
      | ((with_reducible refine wl_alloc rfl 137 _ [.slice none 0 0, .int .i64 0] rfl zFile rfl ?_); intro g1 w1 r1 p1 l1 b1)
      | ((with_reducible refine wl_build1 rfl 43 (.tmp 12) rfl 9 i0 (.string ByteArray.empty) (encStr n) Try.underlying43 hi hz hs rfl rfl rfl ?_); intro g3 w3 r3 p3 l3 b3; have hC3 := nms_src (nms_below (b1.trans (b3.mono b1.size)) hb2 hc2); have own3 : w3.ownsRow w.heap.size 9 1 (.slice (some ⟨g3, 0, none⟩) 1 1) 1 [encStr n] := row_own r3 (Nat.le_trans b1.size p3) len1)
      | ((with_reducible refine wl_append_at rfl (.tmp 13) (.tmp 14) 43 rfl w.heap.size 9 i0 (.string ByteArray.empty) 1 16 Try.underlying43 hi hz hs hb rfl (by decide) (.slice (some ⟨g3, 0, none⟩) 1 1) 1 [encStr n] rfl own3 ⟨b2, o2, none⟩ 1 c [encStr n2] rfl rfl hC3 (one_str n2) le2a le2b (Nat.le_trans b1.size b3.size) ?_); intro v4 w4 own4 hg4 hl4; obtain ⟨A4, c4, rfl, hN⟩ := own_nms (ns := [n, n2]) own4 (by decide); have b4 := grown_lo hg4 (sl_own (Nat.le_trans b1.size p3)) (Nat.le_trans b1.size b3.size)))
    have bW : Below w.heap.size w w4 := (b1.trans (b3.mono b1.size)).trans b4
    have rW : Row w4 137 g1 [.slice none 0 0, .int .i64 0] := by
      have ne13 : g1 ≠ g3 := Nat.ne_of_lt (Nat.lt_of_lt_of_le r1.lt p3)
      exact (hg4.block g1 (Row.later r1 b3).lt (fun e => ne13 (by cases e; rfl))).trans (Row.later r1 b3)
    have c1 := (HH.out.later bW).cell (j := 1) rfl
    have mW := HM.out.later bW
    refine (HR.out w4 _ 2 _ bW (by decide) hN).mono ?_
    rintro e w5 ⟨rfl, rfl⟩
    clear HR
    go_wp2_with (first
      | ((with_reducible refine wl_build rfl 137 _ rfl _ ?hv _ builtFile0 ?hk); case hv => rfl)
      | ((with_reducible refine wl_store_row rfl 137 (.tmp 6) (.tmp 19) g1 137 _ [.slice zV.A zV.n zV.c, .int .i64 zV.kept] rfl rfl rfl rW (szFile zV) rfl (one_file zV) ?_); intro w7 r7 o7))
    refine bodyPost_ret (v := .tuple #[zV.val, .int .i64 8]) ?_ rfl ⟨rfl, bW.trans (o7.below p1)⟩
    exact results_file2 Try.results93 rfl rfl r7

end Go.Proofs.Ytfijhfolanhifaa

/-
  The disk: what a disk is in memory: its row, its map, its files' bytes. Own work.
-/
namespace Go.Proofs.Ytfijhfolanhifaa
open Go.RowKit Go.Maps Go.ChangeMaps
/-- A file's bytes lie in a row of their own, at B or behind. -/
abbrev OwnF (w : World) (B : Nat) (f : FV) : Prop := w.ownsRow B 5 1 f.sl f.n (bv f.xs)
def FV.bk (f : FV) : List Nat := f.sl.ownBlock.toList
def FV.ok (f : FV) : Prop := 0 ≤ f.kept ∧ f.kept ≤ f.n ∧ f.n ≤ 1048576
structure FilesAt (w : World) (B : Nat) (fs : Fs) : Prop where
  own : ∀ p ∈ fs, OwnF w B p.2
  bd : ∀ p ∈ fs, p.2.ok
  apart : fs.Pairwise fun p q => ∀ k ∈ p.2.bk, k ∉ q.2.bk
structure DiskAt (w : World) (B gd : Nat) (pl : Value) (mb : Nat) (fs : Fs) : Prop where
  row : DRow w gd pl (.map (some mb))
  lo : B ≤ gd ∧ B ≤ mb
  map : FMap w mb fs
  files : FilesAt w B fs
  few : fs.length ≤ 64
theorem owf_lo {w : World} {B : Nat} {f : FV} (h : OwnF w B f) : ∀ k ∈ f.bk, B ≤ k ∧ k < w.heap.size ∧ ∃ cs, w.heap[k]? = some (.cells cs 5 (0, 0)) := by
  obtain ⟨hl, ho⟩ := h
  rcases ho with ⟨e, h0⟩ | ⟨g, cap, cur, e, h1, hg, _⟩
  · intro k hk
    rw [FV.bk, e] at hk
    simp [Value.ownBlock] at hk
  · intro k hk
    rw [FV.bk, e] at hk
    simp [Value.ownBlock] at hk
    subst hk
    exact ⟨h1, (Array.getElem?_eq_some_iff.1 hg).1, cur, hg⟩
theorem owf_buts {w w' : World} {B : Nat} {f : FV} {S : List Nat} (h : OwnF w B f) (hb : Buts S w w') (hS : ∀ k ∈ f.bk, k ∉ S) : OwnF w' B f := by
  have hlo := owf_lo h
  obtain ⟨hl, ho⟩ := h
  rcases ho with ⟨e, h0⟩ | ⟨g, cap, cur, e, h1, hg, hr⟩
  · exact ⟨hl, .inl ⟨e, h0⟩⟩
  · have hk : g ∈ f.bk := by rw [FV.bk, e]; simp [Value.ownBlock]
    exact ⟨hl, .inr ⟨g, cap, cur, e, h1, (hb.block g (hlo g hk).2.1 (hS g hk)).trans hg, hr⟩⟩
theorem owf_not_row {w : World} {B g t : Nat} {f : FV} {vs : List Value} (h : OwnF w B f) (hr : Row w t g vs) (ht : t ≠ 5) : g ∉ f.bk := by
  intro hk
  obtain ⟨_, _, cs, hc⟩ := owf_lo h g hk
  have := hr.symm.trans hc
  simp at this
  exact ht this.2
theorem owf_not_map {w : World} {B b : Nat} {f : FV} {l : Ents} (h : OwnF w B f) (hm : MapAt w b l) : b ∉ f.bk := by
  intro hk
  obtain ⟨_, _, cs, hc⟩ := owf_lo h b hk
  obtain ⟨es, clock, hb, _⟩ := hm
  rw [hb] at hc
  cases hc
theorem owf_bs {w : World} {B : Nat} {f : FV} (h : OwnF w B f) : Bs w w.heap.size f.A f.n f.xs := by
  obtain ⟨A', c', hv, hb, _⟩ := ownsRow_bs h
  injection hv with h1 _ _
  rw [h1]
  exact hb
theorem owf_nil {w : World} {B : Nat} : OwnF w B zV := ⟨rfl, .inl ⟨rfl, rfl⟩⟩
theorem FilesAt.buts {w w' : World} {B : Nat} {fs : Fs} {S : List Nat} (h : FilesAt w B fs) (hb : Buts S w w') (hS : ∀ p ∈ fs, ∀ k ∈ p.2.bk, k ∉ S) : FilesAt w' B fs := ⟨fun p hp => owf_buts (h.own p hp) hb (hS p hp), h.bd, h.apart⟩
theorem FilesAt.nil (w : World) (B : Nat) : FilesAt w B [] := ⟨fun p hp => absurd hp (by simp), fun p hp => absurd hp (by simp), List.Pairwise.nil⟩
theorem atF_mem {fs : Fs} {n : Nm} {f : FV} (h : atF fs n = some f) : (n, f) ∈ fs := by
  unfold atF at h
  cases hq : fs.find? fun p => p.1 == n with
  | none => rw [hq] at h; cases h
  | some p =>
    rw [hq] at h
    obtain rfl : p.2 = f := by simpa using h
    have h1 := List.mem_of_find?_eq_some hq
    have h2 := List.find?_some hq
    simp at h2
    rw [← h2]
    exact h1
theorem ins_perm (x : Nm × FV) : ∀ l : Fs, (insF x l).Perm (x :: l)
  | [] => List.Perm.refl _
  | y :: r => by
    unfold insF
    split
    · exact List.Perm.refl _
    · exact ((ins_perm x r).cons y).trans (List.Perm.swap ..)
theorem put_perm (l : Fs) (n : Nm) (f : FV) : (putF l n f).Perm ((n, f) :: delF l n) := ins_perm _ _
theorem mem_put {l : Fs} {n : Nm} {f : FV} {p : Nm × FV} (h : p ∈ putF l n f) : p = (n, f) ∨ (p ∈ l ∧ p.1 ≠ n) := by
  rcases List.mem_cons.1 ((put_perm l n f).mem_iff.1 h) with h | h
  · exact .inl h
  · have := List.mem_filter.1 h
    simp at this
    exact .inr this
theorem put_len (l : Fs) (n : Nm) (f : FV) : (putF l n f).length ≤ l.length + 1 := by
  rw [(put_perm l n f).length_eq]
  have := List.length_filter_le (fun p : Nm × FV => !(p.1 == n)) l
  simp only [List.length_cons, delF]
  omega
theorem put_len' {l : Fs} {n : Nm} (f : FV) (h : (atF l n).isSome = true) : (putF l n f).length ≤ l.length := by
  rw [(put_perm l n f).length_eq]
  obtain ⟨q, hq⟩ := Option.isSome_iff_exists.1 h
  have hm := atF_mem hq
  have : (delF l n).length < l.length := by
    refine List.length_filter_lt_length_iff_exists.2 ⟨_, hm, by simp⟩
  simp only [List.length_cons]
  omega
theorem FilesAt.put {w : World} {B : Nat} {fs : Fs} {n : Nm} {f : FV} (h : FilesAt w B fs) (ho : OwnF w B f) (hb : f.ok) (ha : ∀ p ∈ fs, p.1 ≠ n → ∀ k ∈ p.2.bk, k ∉ f.bk) : FilesAt w B (putF fs n f) := by
  refine ⟨fun p hp => ?_, fun p hp => ?_, ?_⟩
  · rcases mem_put hp with rfl | ⟨hp, _⟩
    · exact ho
    · exact h.own p hp
  · rcases mem_put hp with rfl | ⟨hp, _⟩
    · exact hb
    · exact h.bd p hp
  · refine ((put_perm fs n f).pairwise_iff (fun {x y} hxy k hk hk2 => hxy k hk2 hk)).2 (List.pairwise_cons.2 ⟨fun q hq k hk hk2 => ?_, h.apart.sublist List.filter_sublist⟩)
    have := List.mem_filter.1 hq
    simp at this
    exact ha q this.1 this.2 k hk2 hk
theorem DiskAt.later {w w' : World} {B gd mb : Nat} {pl : Value} {fs : Fs} (h : DiskAt w B gd pl mb fs) (hb : Below w.heap.size w w') : DiskAt w' B gd pl mb fs :=
  ⟨Row.later h.row hb, h.lo, h.map.later hb, h.files.buts (Buts.of hb []) (fun _ _ _ _ hk => by cases hk), h.few⟩
/-- The blocks of a disk. -/
def dblocks (gd mb : Nat) (fs : Fs) : List Nat := gd :: mb :: fs.flatMap (·.2.bk)
theorem mem_dblocks {gd mb k : Nat} {fs : Fs} : k ∈ dblocks gd mb fs ↔ k = gd ∨ k = mb ∨ ∃ p ∈ fs, k ∈ p.2.bk := by simp [dblocks]
theorem DiskAt.buts {w w' : World} {B gd mb : Nat} {pl : Value} {fs : Fs} {S : List Nat} (h : DiskAt w B gd pl mb fs) (hb : Buts S w w') (hS : ∀ k ∈ dblocks gd mb fs, k ∉ S) : DiskAt w' B gd pl mb fs :=
  ⟨Row.buts h.row hb (hS _ (mem_dblocks.2 (.inl rfl))), h.lo, h.map.buts hb (hS _ (mem_dblocks.2 (.inr (.inl rfl)))), h.files.buts hb (fun p hp k hk => hS k (mem_dblocks.2 (.inr (.inr ⟨p, hp, hk⟩)))), h.few⟩
theorem DiskAt.blo {w : World} {B gd mb : Nat} {pl : Value} {fs : Fs} (h : DiskAt w B gd pl mb fs) : ∀ k ∈ dblocks gd mb fs, B ≤ k ∧ k < w.heap.size := by
  intro k hk
  rcases mem_dblocks.1 hk with rfl | rfl | ⟨p, hp, hk⟩
  · exact ⟨h.lo.1, h.row.lt⟩
  · exact ⟨h.lo.2, h.map.lt⟩
  · exact ⟨(owf_lo (h.files.own p hp) k hk).1, (owf_lo (h.files.own p hp) k hk).2.1⟩
/-- A store into the map: what was there stays. -/
theorem DiskAt.stored {w w' : World} {B gd mb : Nat} {pl : Value} {fs : Fs} {n : Nm} {f : FV} (h : DiskAt w B gd pl mb fs) (hm : MapAt w' mb (putE (ents fs) n f.val)) (hB : Buts [mb] w w') (hf : OwnF w B f) (hb : f.ok) (ha : ∀ p ∈ fs, p.1 ≠ n → ∀ k ∈ p.2.bk, k ∉ f.bk) (hl : (atF fs n).isSome = true ∨ fs.length < 64) : DiskAt w' B gd pl mb (putF fs n f) := by
  refine ⟨Row.buts h.row hB (fun e => h.map.ne_row h.row (List.mem_singleton.1 e).symm), h.lo, ?_, (h.files.put hf hb ha).buts hB ?_, ?_⟩
  · show MapAt w' mb (ents (putF fs n f))
    rw [ents_put]
    exact hm
  · intro p hp k hk hk2
    simp at hk2
    subst hk2
    rcases mem_put hp with rfl | ⟨hp, _⟩
    · exact owf_not_map hf h.map hk
    · exact owf_not_map (h.files.own p hp) h.map hk
  · rcases hl with hl | hl
    · exact Nat.le_trans (put_len' f hl) h.few
    · have := put_len fs n f
      omega
end Go.Proofs.Ytfijhfolanhifaa

/-
  The disk: an act of its plug; change; whole; Create. Own work.
-/
namespace Go.Proofs.Ytfijhfolanhifaa
open Go.RowKit Go.Maps Go.ChangeMaps
/-- The blocks of a plug. -/
def plB : Value → List Nat
  | .pointer (some a) => [a.block]
  | _ => []
theorem actE_cases (on : Bool) (fuse : Int) : actE on fuse = 0 ∨ actE on fuse = 8 := by
  unfold actE
  by_cases h : on = false
  · simp [h]
  · by_cases h2 : fuse = 0 <;> simp [h, h2]
theorem plAct_any (w : World) (pl : Value) (on : Bool) (fuse : Int) (h : PlAt w pl on fuse) (hf : isI fuse) : Calls Try.prog 85 #[pl] w fun e w' => e = .returned (.int .i64 (actE on fuse)) ∧ PlAt w' pl (on && actOn on fuse) (actF on fuse) ∧ Buts (plB pl) w w' := by
  rcases h with ⟨gp, rfl, h⟩ | ⟨rfl, rfl⟩
  · refine (act_any w gp on fuse h hf).mono ?_
    rintro e w' ⟨rfl, h1, h2⟩
    exact ⟨rfl, .inl ⟨gp, rfl, h1⟩, Buts.only h2 (List.mem_singleton.2 rfl)⟩
  · refine (act_nil w).mono ?_
    rintro e w' ⟨rfl, rfl⟩
    exact ⟨rfl, .inr ⟨rfl, by simp⟩, Buts.refl _ _⟩
theorem pl_not {w : World} {pl : Value} {on : Bool} {fuse : Int} {B gd mb : Nat} {pl' : Value} {fs : Fs} (h : PlAt w pl on fuse) (hd : DiskAt w B gd pl' mb fs) : ∀ k ∈ dblocks gd mb fs, k ∉ plB pl := by
  intro k hk hk2
  rcases h with ⟨gp, rfl, h⟩ | ⟨rfl, _⟩
  · simp [plB] at hk2
    subst hk2
    rcases mem_dblocks.1 hk with e | e | ⟨p, hp, hk⟩
    · subst e
      have := h.symm.trans hd.row
      simp at this
    · exact hd.map.ne_row h e.symm
    · exact owf_not_row (hd.files.own p hp) h (by decide) hk
  · simp [plB] at hk2
set_option maxRecDepth 100000 in
theorem change_err (w : World) (gd : Nat) (e : Int) (fv : Value) (he : e ≠ 0) : Calls Try.prog 91 #[ptr gd, .int .i64 e, fv] w fun en w' => en = .returned (.int .i64 e) ∧ w = w' := by
  have hd : decide (e = 0) = false := by simp [he]
  go_enter Try.func91, Try.ntmps91
  go_wp2_with fail
  go_ret
  exact ⟨rfl, rfl⟩
set_option maxRecDepth 100000 in
theorem change_off (w : World) (gd : Nat) (pl mv fv : Value) (on : Bool) (fuse : Int) (h : DRow w gd pl mv) (hp : PlAt w pl on fuse) (hf : isI fuse) (ha : actE on fuse = 8) : Calls Try.prog 91 #[ptr gd, .int .i64 0, fv] w fun en w' => en = .returned (.int .i64 8) ∧ PlAt w' pl (on && actOn on fuse) (actF on fuse) ∧ Buts (plB pl) w w' := by
  have c0 := h.cell (j := 0) rfl
  have HP := plAct_any w pl on fuse hp hf
  rw [ha] at HP
  have HP := hide HP
  go_enter Try.func91, Try.ntmps91
  go_wp2_with fail
  refine HP.out.mono ?_
  rintro en w1 ⟨rfl, h1, h2⟩
  go_wp2_with fail
  go_ret
  exact ⟨rfl, h1, h2⟩
set_option maxRecDepth 100000 in
theorem change_do (w : World) (gd : Nat) (pl mv : Value) (F : FuncId) (caps : Array Value) (on : Bool) (fuse : Int) (h : DRow w gd pl mv) (hp : PlAt w pl on fuse) (hf : isI fuse) (ha : actE on fuse = 0) (hF : ∀ (xs : Array Value) (w : World), (callFunc F xs).run Try.prog w = .ok (.enter F xs) w) (R : World → World → Prop)
    (hc : ∀ w1, PlAt w1 pl (on && actOn on fuse) (actF on fuse) → Buts (plB pl) w w1 → Calls Try.prog F caps w1 fun en w2 => en = .returned (.tuple #[]) ∧ R w1 w2) :
    Calls Try.prog 91 #[ptr gd, .int .i64 0, .func (.func F) #[] caps] w fun en w' => en = .returned (.int .i64 0) ∧ ∃ w1, PlAt w1 pl (on && actOn on fuse) (actF on fuse) ∧ Buts (plB pl) w w1 ∧ R w1 w' := by
  have c0 := h.cell (j := 0) rfl
  have HP := plAct_any w pl on fuse hp hf
  rw [ha] at HP
  have HP := hide HP
  have HC := hide hc
  clear hc hp h
  go_enter Try.func91, Try.ntmps91
  go_wp2_with fail
  refine HP.out.mono ?_
  rintro en w1 ⟨rfl, h1, h2⟩
  have HC1 := HC.out w1 h1 h2
  clear HC HP
  have HC1 := hide HC1
  go_wp2_with fail
  refine HC1.out.mono ?_
  rintro en w2 ⟨rfl, hR⟩
  go_wp2_with fail
  go_ret
  exact ⟨rfl, w1, h1, h2, hR⟩
set_option maxRecDepth 100000 in
theorem whole_any (w : World) (A : Option Addr) (n c : Nat) : Calls Try.prog 96 #[.slice A n c] w fun e w' => e = .returned (.agg #[.slice A n c, .int .i64 n]) ∧ Below w.heap.size w w' := by
  have hb : Try.prog.built 137 [(0, .slice A n c), (1, .int .i64 n)] = some [Value.slice A n c, Value.int .i64 n].toArray := by kernel_rfl
  go_enter Try.func96, Try.ntmps96
  go_wp2_with (first
    | ((with_reducible refine wl_alloc rfl 137 _ [.slice none 0 0, .int .i64 0] rfl zFile rfl ?_); intro g9 w2 r9 p9 l9 b9)
    | ((with_reducible refine wl_build rfl 137 _ rfl _ ?hv _ hb ?hk); case hv => rfl)
    | ((with_reducible refine wl_store_row rfl 137 (.tmp 2) (.tmp 6) g9 137 _ [.slice A n c, .int .i64 n] rfl rfl rfl r9 (szFile ⟨A, n, c, [], n⟩) rfl (one_file ⟨A, n, c, [], n⟩) ?_); intro w3 r10 o10; have bS := b9.trans (o10.below p9)))
  refine bodyPost_ret (v := .agg [Value.slice A n c, .int .i64 n].toArray) ?_ rfl ⟨rfl, bS⟩
  exact results_cell_row Try.results96 _ _ g9 137 _ (0, 0) _ rfl r10 Try.underlying137 rfl (szFile ⟨A, n, c, [], n⟩)
end Go.Proofs.Ytfijhfolanhifaa

/-
  The disk: Create. Own work.
-/
namespace Go.Proofs.Ytfijhfolanhifaa
open Go.RowKit Go.Maps Go.ChangeMaps
/-- Nothing that was there turns until the last of the few; N behind it. -/
def JN (w0 : World) (N : World → Prop) (bs : List Bool) (vs : List Value) (w : World) : Prop := (bs.getD 0 false = false → Below w0.heap.size w0 w) ∧ (bs.getD 0 false = true → N w)
theorem JN.start (w0 : World) (N : World → Prop) (vs : List Value) : JN w0 N [false] vs w0.drew := ⟨fun _ => (Below.refl _ _).drew, fun h => absurd (show false = true from h) (by decide)⟩
abbrev BoxD (w : World) (g gd : Nat) : Prop := Row w 27 g [ptr gd]
abbrev BoxS (w : World) (g : Nat) (n : Nm) : Prop := Row w 9 g [encStr n]
def SCr (gA gB gd mb : Nat) (pl : Value) (n : Nm) (opn : Nat) (v : Value) : Prop :=
  match opn with
  | 0 | 1 => v = ptr gd
  | 2 => v = .pointer (some ⟨gd, 1, none⟩)
  | 3 => v = .map (some mb)
  | 4 => v = encStr n
  | 5 => v = .agg #[.slice none 0 0, .int .i64 0]
  | _ => True

theorem lenE {fs : Fs} (h : fs.length ≤ 64) : (ents fs).length < maxLen := by rw [ents_len]; exact Nat.lt_of_le_of_lt h (by decide)
set_option maxRecDepth 100000 in
theorem createC_any (w : World) (gA gB gd mb : Nat) (pl : Value) (fs : Fs) (n : Nm) (hn : n.length ≤ maxLen) (rA : BoxD w gA gd) (rB : BoxS w gB n) (hr : DRow w gd pl (.map (some mb))) (hm : FMap w mb fs) (hl : fs.length ≤ 64) :
    Calls Try.prog 92 #[ptr gA, ptr gB] w fun e w' => e = .returned (.tuple #[]) ∧ MapAt w' mb (putE (ents fs) n zV.val) ∧ Buts [mb] w w' := by
  go_enter Try.func92, Try.ntmps92
  go_wp2_with fail
  refine wp_region_vals [6] (SCr gA gB gd mb pl n) (JN w fun w' => MapAt w' mb (putE (ents fs) n zV.val) ∧ Buts [mb] w w') (by kernel_rfl) (by kernel_rfl) (by kernel_rfl) (by kernel_rfl) (by kernel_rfl) (JN.start _ _ _) ?obsE ?heE
  case obsE =>
    refine ⟨?_, ?_, ?_, ?_, ?_, ?_, ?_, trivial⟩
    · exact .inl ⟨by kernel_rfl, fun L a1 w1 n' h => ⟨_, rfl, run_loadA 27 (.tmp 0) ⟨gA, 0, none⟩ rfl Try.isAgg27 (h.var n' 0 (by kernel_rfl)) ((Row.later rA (h.inv.1 ((bits_at rfl).trans (n'.later (by kernel_rfl))))).cell (j := 0) (v := ptr gd) rfl)⟩⟩
    · refine .inl ⟨by kernel_rfl, fun L a1 w1 n' h => ⟨ptr gd, rfl, ?_⟩⟩
      have e0 : a1.eval (.tmp 2) = _ := h.dep n' 0 2 (by kernel_rfl) rfl
      unfold execOp
      simp only [e0]
      go_simp
    · refine .inl ⟨by kernel_rfl, fun L a1 w1 n' h => ⟨.pointer (some ⟨gd, 1, none⟩), rfl, ?_⟩⟩
      have e0 : a1.eval (.tmp 3) = _ := h.dep n' 1 3 (by kernel_rfl) rfl
      unfold execOp
      simp only [e0]
      go_simp
    · exact .inl ⟨by kernel_rfl, fun L a1 w1 n' h => ⟨_, rfl, run_loadA 70 (.tmp 4) ⟨gd, 1, none⟩ rfl Try.isAgg70 (h.dep n' 2 4 (by kernel_rfl) rfl) ((Row.later hr (h.inv.1 ((bits_at rfl).trans (n'.later (by kernel_rfl))))).cell (j := 1) (v := .map (some mb)) rfl)⟩⟩
    · exact .inl ⟨by kernel_rfl, fun L a1 w1 n' h => ⟨_, rfl, run_loadA 9 (.tmp 1) ⟨gB, 0, none⟩ rfl Try.isAgg9 (h.var n' 1 (by kernel_rfl)) ((Row.later rB (h.inv.1 ((bits_at rfl).trans (n'.later (by kernel_rfl))))).cell (j := 0) (v := encStr n) rfl)⟩⟩
    · exact .inl ⟨by kernel_rfl, fun L a1 w1 n' h => ⟨_, rfl, run_buildX 137 [] rfl [] rfl _ builtFile0⟩⟩
    · refine .inr fun L a1 w1 n' h K hK => ?_
      have no : L.getD 6 false = false := n'.not_yet
      have b9 := h.inv.1 ((bits_at rfl).trans no)
      refine st_put (.tmp 5) (.tmp 6) (.tmp 7) (zV.val) rfl (h.dep n' 3 5 (by kernel_rfl) rfl) (h.dep n' 4 6 (by kernel_rfl) rfl) (h.dep n' 5 7 (by kernel_rfl) rfl) (hm.later b9) hn (lenE hl) ?_
      intro w3 m3 o3
      exact hK undef w3 trivial ⟨fun h0 => absurd (show true = false from h0) (by decide), fun _ => ⟨m3, (Buts.of b9 _).trans (Buts.only o3 (List.mem_singleton.2 rfl))⟩⟩
  case heE =>
    intro V w9 hV hJ
    obtain ⟨h1, h2⟩ := hJ.2 rfl
    go_end0
    exact ⟨rfl, h1, h2⟩
/-- What an act answers, and leaves: e0 is what there is to refuse ahead of the act. -/
def dE (e0 : Int) (on : Bool) (fuse : Int) : Int := if e0 = 0 then actE on fuse else e0
def dOn (e0 : Int) (on : Bool) (fuse : Int) : Bool := if e0 = 0 then (on && actOn on fuse) else on
def dFu (e0 : Int) (on : Bool) (fuse : Int) : Int := if e0 = 0 then actF on fuse else fuse
def dFs (e0 : Int) (on : Bool) (fuse : Int) (fs fs1 : Fs) : Fs := if e0 = 0 then (if actE on fuse = 0 then fs1 else fs) else fs
theorem PlAt.buts {w w' : World} {pl : Value} {on : Bool} {fuse : Int} {S : List Nat} (h : PlAt w pl on fuse) (hb : Buts S w w') (hS : ∀ k ∈ plB pl, k ∉ S) : PlAt w' pl on fuse := by
  rcases h with ⟨gp, rfl, h⟩ | ⟨rfl, h⟩
  · exact .inl ⟨gp, rfl, Row.buts h hb (hS gp (List.mem_singleton.2 rfl))⟩
  · exact .inr ⟨rfl, h⟩
/-- Behind an act. -/
def Acted (w w' : World) (B gd : Nat) (pl : Value) (mb : Nat) (e0 : Int) (on : Bool) (fuse : Int) (fs fs1 : Fs) : Prop :=
  DiskAt w' B gd pl mb (dFs e0 on fuse fs fs1) ∧ PlAt w' pl (dOn e0 on fuse) (dFu e0 on fuse) ∧ Buts (plB pl ++ dblocks gd mb fs) w w'
theorem Acted.from {w0 w w' : World} {B gd mb : Nat} {pl : Value} {e0 : Int} {on : Bool} {fuse : Int} {fs fs1 : Fs} (h : Acted w w' B gd pl mb e0 on fuse fs fs1) (hb : Below w0.heap.size w0 w) : Acted w0 w' B gd pl mb e0 on fuse fs fs1 := ⟨h.1, h.2.1, (Buts.of hb _).trans h.2.2⟩
theorem change_all (w : World) (B gd mb : Nat) (pl : Value) (F : FuncId) (caps : Array Value) (e0 : Int) (on : Bool) (fuse : Int) (fs fs1 : Fs) (h : DiskAt w B gd pl mb fs) (hp : PlAt w pl on fuse) (hf : isI fuse) (hF : ∀ (xs : Array Value) (w : World), (callFunc F xs).run Try.prog w = .ok (.enter F xs) w)
    (hc : e0 = 0 → ∀ w1, DiskAt w1 B gd pl mb fs → Buts (plB pl) w w1 → Calls Try.prog F caps w1 fun en w2 => en = .returned (.tuple #[]) ∧ DiskAt w2 B gd pl mb fs1 ∧ Buts (dblocks gd mb fs) w1 w2) :
    Calls Try.prog 91 #[ptr gd, .int .i64 e0, .func (.func F) #[] caps] w fun en w' => en = .returned (.int .i64 (dE e0 on fuse)) ∧ Acted w w' B gd pl mb e0 on fuse fs fs1 := by
  have hnb := pl_not hp h
  by_cases he : e0 = 0
  · subst he
    rcases actE_cases on fuse with ha | ha
    · refine (change_do w gd pl _ F caps on fuse h.row hp hf ha hF (fun w1 w2 => DiskAt w2 B gd pl mb fs1 ∧ Buts (dblocks gd mb fs) w1 w2) (fun w1 h1 h2 => hc rfl w1 (h.buts h2 hnb) h2)).mono ?_
      rintro en w' ⟨rfl, w1, h1, h2, h3, h4⟩
      refine ⟨by simp [dE, ha], by simpa [dFs, ha] using h3, ?_, (h2.sub (fun k hk => List.mem_append.2 (.inl hk))).trans (h4.sub (fun k hk => List.mem_append.2 (.inr hk)))⟩
      simpa [dOn, dFu] using h1.buts h4 (fun k hk hk2 => hnb k hk2 hk)
    · refine (change_off w gd pl _ _ on fuse h.row hp hf ha).mono ?_
      rintro en w' ⟨rfl, h1, h2⟩
      exact ⟨by simp [dE, ha], by simpa [dFs, ha] using h.buts h2 hnb, by simpa [dOn, dFu] using h1, h2.sub (fun k hk => List.mem_append.2 (.inl hk))⟩
  · refine (change_err w gd e0 _ he).mono ?_
    rintro en w' ⟨rfl, rfl⟩
    exact ⟨by simp [dE, he], by simpa [dFs, he] using h, by simpa [dOn, dFu, he] using hp, Buts.refl _ _⟩
/-- What Create refuses. -/
def creE (fs : Fs) (n : Nm) (on : Bool) : Int := if refE [n] on = 0 then (if (!(atF fs n).isSome && decide (64 ≤ fs.length)) then 10 else 0) else refE [n] on
theorem creE_cases (fs : Fs) (n : Nm) (on : Bool) : (refE [n] on = 0 ∧ n.length ≤ maxLen ∧ (((!(atF fs n).isSome && decide (64 ≤ fs.length)) = true ∧ creE fs n on = 10) ∨ ((!(atF fs n).isSome && decide (64 ≤ fs.length)) = false ∧ creE fs n on = 0 ∧ ((atF fs n).isSome = true ∨ fs.length < 64)))) ∨ (refE [n] on = 1 ∧ creE fs n on = 1) ∨ (refE [n] on = 8 ∧ creE fs n on = 8) := by
  rcases refE_cases [n] on with ⟨h, ho⟩ | h | h
  · refine .inl ⟨h, okN_le (by simpa using ho), ?_⟩
    cases hq : (!(atF fs n).isSome && decide (64 ≤ fs.length)) with
    | true => exact .inl ⟨rfl, by unfold creE; rw [hq, h]; rfl⟩
    | false =>
      refine .inr ⟨rfl, by unfold creE; rw [hq, h]; rfl, ?_⟩
      by_cases hs : (atF fs n).isSome = true
      · exact .inl hs
      · simp at hq
        right
        have : (atF fs n) = none := by simpa using hs
        have := hq this
        omega
  · exact .inr (.inl ⟨h, by simp [creE, h]⟩)
  · exact .inr (.inr ⟨h, by simp [creE, h]⟩)
theorem zV_ok : zV.ok := ⟨by decide, by decide, by decide⟩
set_option maxRecDepth 100000 in
theorem create_any (w : World) (B gd mb : Nat) (pl : Value) (on : Bool) (fuse : Int) (fs : Fs) (n : Nm) (h : DiskAt w B gd pl mb fs) (hp : PlAt w pl on fuse) (hf : isI fuse) :
    Calls Try.prog 35 #[ptr gd, encStr n] w fun e w' => e = .returned (.int .i64 (dE (creE fs n on) on fuse)) ∧ Acted w w' B gd pl mb (creE fs n on) on fuse fs (putF fs n zV) := by
  obtain ⟨i0, hi, hz, hs, hb⟩ := str_info
  have HR := fun (w1 : World) (A : Option Addr) (m c : Nat) (b : Below w.heap.size w w1) (hm2 : m ≤ 2) (hN : NmsAt w1 A m [n]) => refuse_any w1 gd mb pl on fuse A m c [n] hm2 (Row.later h.row b) (hp.later b) hN
  have HC : ∀ (w1 : World) (gA gB : Nat), Below w.heap.size w w1 → BoxD w1 gA gd → BoxS w1 gB n → w.heap.size ≤ gA → w.heap.size ≤ gB → Calls Try.prog 91 #[ptr gd, .int .i64 (creE fs n on), .func (.func 92) #[] #[ptr gA, ptr gB]] w1 fun en w' => en = .returned (.int .i64 (dE (creE fs n on) on fuse)) ∧ Acted w1 w' B gd pl mb (creE fs n on) on fuse fs (putF fs n zV) := by
    intro w1 gA gB b rA rB hA hB
    refine change_all w1 B gd mb pl _ _ _ on fuse fs _ (h.later b) (hp.later b) hf Try.call92 (fun he w2 hD b2 => ?_)
    rcases creE_cases fs n on with ⟨_, hn, ⟨_, hx⟩ | ⟨_, _, hl⟩⟩ | ⟨_, hx⟩ | ⟨_, hx⟩
    · rw [hx] at he; cases he
    · have nA : gA ∉ plB pl := fun hk => by
        rcases hp with ⟨gp, rfl, hp⟩ | ⟨rfl, _⟩
        · simp [plB] at hk; have := hp.lt; omega
        · simp [plB] at hk
      have nB : gB ∉ plB pl := fun hk => by
        rcases hp with ⟨gp, rfl, hp⟩ | ⟨rfl, _⟩
        · simp [plB] at hk; have := hp.lt; omega
        · simp [plB] at hk
      refine (createC_any w2 gA gB gd mb pl fs n hn (Row.buts rA b2 nA) (Row.buts rB b2 nB) hD.row hD.map hD.few).mono ?_
      rintro e w3 ⟨rfl, m3, b3⟩
      exact ⟨rfl, hD.stored m3 b3 owf_nil zV_ok (fun p _ _ k _ hk2 => by simp [FV.bk, zV, Value.ownBlock] at hk2) hl, b3.sub (fun k hk => by simp at hk; subst hk; exact mem_dblocks.2 (.inr (.inl rfl)))⟩
    · rw [hx] at he; cases he
    · rw [hx] at he; cases he
  have HU := fun (hn : n.length ≤ maxLen) (w1 : World) (b : Below w.heap.size w w1) => full_any w1 gd mb pl fs n hn (Row.later h.row b) (h.map.later b)
  clear h hp
  rcases creE_cases fs n on with ⟨he, hn, ⟨hq, h0⟩ | ⟨hq, h0, _⟩⟩ | ⟨he, h0⟩ | ⟨he, h0⟩
  · have HU := HU hn
    rw [he] at HR
    rw [h0] at HC ⊢
    have HR := hide HR
    have HC := hide HC
    have HU := hide HU
    clear he h0
    go_enter Try.func35, Try.ntmps35
    go_wp2_with (first
      | ((with_reducible refine wl_box rfl 27 _ (ptr gd) [ptr gd] rfl rfl rfl ?_); intro gA w1 rA pA lA bA)
      | ((with_reducible refine wl_box rfl 9 _ (encStr n) [encStr n] rfl rfl rfl ?_); intro gB w2 rB pB lB bB; have rA := Row.later rA bB; have bAB := bA.trans (bB.mono bA.size))
      | (with_reducible refine wl_load rfl 27 _ gA 0 27 _ (ptr gd) rfl Try.isAgg27 rfl rA rfl ?_)
      | (with_reducible refine wl_load rfl 9 _ gB 0 9 _ (encStr n) rfl Try.isAgg9 rfl rB rfl ?_)
      | ((with_reducible refine wl_build1 rfl 43 (.tmp 7) rfl 9 i0 (.string ByteArray.empty) (encStr n) Try.underlying43 hi hz hs rfl rfl rfl ?_); intro g3 w3 r3 p3 l3 b3; have rA := Row.later rA b3; have rB := Row.later rB b3; have b03 := bAB.trans (b3.mono bAB.size)))
    refine (HR.out w3 _ 1 1 b03 (by decide) (row_nms r3)).mono ?_
    rintro en w4 ⟨rfl, rfl⟩
    clear HR r3 p3 l3 b3 lA lB
    have cA := rA.cell (j := 0) rfl
    have cB := rB.cell (j := 0) rfl
    go_wp2_with fail
    refine (HU.out w3 b03).mono ?_
    rintro en w4 ⟨rfl, b4⟩
    rw [hq]
    have rA := Row.later rA b4
    have rB := Row.later rB b4
    have b03 := b03.trans (b4.mono b03.size)
    have cA := rA.cell (j := 0) rfl
    have cB := rB.cell (j := 0) rfl
    clear HU hq b4
    go_wp2_with fail
    refine (HC.out w4 gA gB b03 rA rB pA (Nat.le_trans bA.size pB)).mono ?_
    rintro en w5 ⟨rfl, h5⟩
    go_wp2_with fail
    go_ret
    exact ⟨rfl, h5.from b03⟩
  · have HU := HU hn
    rw [he] at HR
    rw [h0] at HC ⊢
    have HR := hide HR
    have HC := hide HC
    have HU := hide HU
    clear he h0
    go_enter Try.func35, Try.ntmps35
    go_wp2_with (first
      | ((with_reducible refine wl_box rfl 27 _ (ptr gd) [ptr gd] rfl rfl rfl ?_); intro gA w1 rA pA lA bA)
      | ((with_reducible refine wl_box rfl 9 _ (encStr n) [encStr n] rfl rfl rfl ?_); intro gB w2 rB pB lB bB; have rA := Row.later rA bB; have bAB := bA.trans (bB.mono bA.size))
      | (with_reducible refine wl_load rfl 27 _ gA 0 27 _ (ptr gd) rfl Try.isAgg27 rfl rA rfl ?_)
      | (with_reducible refine wl_load rfl 9 _ gB 0 9 _ (encStr n) rfl Try.isAgg9 rfl rB rfl ?_)
      | ((with_reducible refine wl_build1 rfl 43 (.tmp 7) rfl 9 i0 (.string ByteArray.empty) (encStr n) Try.underlying43 hi hz hs rfl rfl rfl ?_); intro g3 w3 r3 p3 l3 b3; have rA := Row.later rA b3; have rB := Row.later rB b3; have b03 := bAB.trans (b3.mono bAB.size)))
    refine (HR.out w3 _ 1 1 b03 (by decide) (row_nms r3)).mono ?_
    rintro en w4 ⟨rfl, rfl⟩
    clear HR r3 p3 l3 b3 lA lB
    have cA := rA.cell (j := 0) rfl
    have cB := rB.cell (j := 0) rfl
    go_wp2_with fail
    refine (HU.out w3 b03).mono ?_
    rintro en w4 ⟨rfl, b4⟩
    rw [hq]
    have rA := Row.later rA b4
    have rB := Row.later rB b4
    have b03 := b03.trans (b4.mono b03.size)
    have cA := rA.cell (j := 0) rfl
    have cB := rB.cell (j := 0) rfl
    clear HU hq b4
    go_wp2_with fail
    refine (HC.out w4 gA gB b03 rA rB pA (Nat.le_trans bA.size pB)).mono ?_
    rintro en w5 ⟨rfl, h5⟩
    go_wp2_with fail
    go_ret
    exact ⟨rfl, h5.from b03⟩
  · rw [he] at HR
    rw [h0] at HC ⊢
    have HR := hide HR
    have HC := hide HC
    clear HU
    clear he h0
    go_enter Try.func35, Try.ntmps35
    go_wp2_with (first
      | ((with_reducible refine wl_box rfl 27 _ (ptr gd) [ptr gd] rfl rfl rfl ?_); intro gA w1 rA pA lA bA)
      | ((with_reducible refine wl_box rfl 9 _ (encStr n) [encStr n] rfl rfl rfl ?_); intro gB w2 rB pB lB bB; have rA := Row.later rA bB; have bAB := bA.trans (bB.mono bA.size))
      | (with_reducible refine wl_load rfl 27 _ gA 0 27 _ (ptr gd) rfl Try.isAgg27 rfl rA rfl ?_)
      | (with_reducible refine wl_load rfl 9 _ gB 0 9 _ (encStr n) rfl Try.isAgg9 rfl rB rfl ?_)
      | ((with_reducible refine wl_build1 rfl 43 (.tmp 7) rfl 9 i0 (.string ByteArray.empty) (encStr n) Try.underlying43 hi hz hs rfl rfl rfl ?_); intro g3 w3 r3 p3 l3 b3; have rA := Row.later rA b3; have rB := Row.later rB b3; have b03 := bAB.trans (b3.mono bAB.size)))
    refine (HR.out w3 _ 1 1 b03 (by decide) (row_nms r3)).mono ?_
    rintro en w4 ⟨rfl, rfl⟩
    clear HR r3 p3 l3 b3 lA lB
    have cA := rA.cell (j := 0) rfl
    have cB := rB.cell (j := 0) rfl
    go_wp2_with fail
    refine (HC.out w3 gA gB b03 rA rB pA (Nat.le_trans bA.size pB)).mono ?_
    rintro en w5 ⟨rfl, h5⟩
    go_wp2_with fail
    go_ret
    exact ⟨rfl, h5.from b03⟩
  · rw [he] at HR
    rw [h0] at HC ⊢
    have HR := hide HR
    have HC := hide HC
    clear HU
    clear he h0
    go_enter Try.func35, Try.ntmps35
    go_wp2_with (first
      | ((with_reducible refine wl_box rfl 27 _ (ptr gd) [ptr gd] rfl rfl rfl ?_); intro gA w1 rA pA lA bA)
      | ((with_reducible refine wl_box rfl 9 _ (encStr n) [encStr n] rfl rfl rfl ?_); intro gB w2 rB pB lB bB; have rA := Row.later rA bB; have bAB := bA.trans (bB.mono bA.size))
      | (with_reducible refine wl_load rfl 27 _ gA 0 27 _ (ptr gd) rfl Try.isAgg27 rfl rA rfl ?_)
      | (with_reducible refine wl_load rfl 9 _ gB 0 9 _ (encStr n) rfl Try.isAgg9 rfl rB rfl ?_)
      | ((with_reducible refine wl_build1 rfl 43 (.tmp 7) rfl 9 i0 (.string ByteArray.empty) (encStr n) Try.underlying43 hi hz hs rfl rfl rfl ?_); intro g3 w3 r3 p3 l3 b3; have rA := Row.later rA b3; have rB := Row.later rB b3; have b03 := bAB.trans (b3.mono bAB.size)))
    refine (HR.out w3 _ 1 1 b03 (by decide) (row_nms r3)).mono ?_
    rintro en w4 ⟨rfl, rfl⟩
    clear HR r3 p3 l3 b3 lA lB
    have cA := rA.cell (j := 0) rfl
    have cB := rB.cell (j := 0) rfl
    go_wp2_with fail
    refine (HC.out w3 gA gB b03 rA rB pA (Nat.le_trans bA.size pB)).mono ?_
    rintro en w5 ⟨rfl, h5⟩
    go_wp2_with fail
    go_ret
    exact ⟨rfl, h5.from b03⟩

end Go.Proofs.Ytfijhfolanhifaa

/-
  The disk: what Sync, Remove and Rename do to the map. Own work.
-/
namespace Go.Proofs.Ytfijhfolanhifaa
open Go.RowKit Go.Maps Go.ChangeMaps
/-- Nothing that was there turns until the few's ib-th; N behind it. -/
def JM (w0 : World) (N : World → Prop) (ib : Nat) (bs : List Bool) (vs : List Value) (w : World) : Prop := (bs.getD ib false = false → Below w0.heap.size w0 w) ∧ (bs.getD ib false = true → N w)
theorem JM.start (w0 : World) (N : World → Prop) (ib : Nat) (bs : List Bool) (vs : List Value) (h : bs.getD ib false = false) : JM w0 N ib bs vs w0.drew := ⟨fun _ => (Below.refl _ _).drew, fun h2 => absurd (h.symm.trans h2) (by decide)⟩
abbrev BoxF (w : World) (g : Nat) (f : FV) : Prop := Row w 137 g [.slice f.A f.n f.c, .int .i64 f.kept]
def SSy (gF gA gB gd mb : Nat) (pl : Value) (n : Nm) (f : FV) (opn : Nat) (v : Value) : Prop :=
  match opn with
  | 0 | 1 => v = ptr gd
  | 2 => v = .pointer (some ⟨gd, 1, none⟩)
  | 3 => v = .map (some mb)
  | 4 => v = encStr n
  | 5 => v = .pointer (some ⟨gF, 0, none⟩)
  | 6 => v = .slice f.A f.n f.c
  | 7 => v = .agg #[.slice f.A f.n f.c, .int .i64 (f.n : Int)]
  | _ => True

def SRm (gA gB gd mb : Nat) (pl : Value) (n : Nm) (opn : Nat) (v : Value) : Prop :=
  match opn with
  | 0 | 1 => v = ptr gd
  | 2 => v = .pointer (some ⟨gd, 1, none⟩)
  | 3 => v = .map (some mb)
  | 4 => v = encStr n
  | _ => True

def SR0 (gA gB gF gT gd mb : Nat) (pl : Value) (n : Nm) (opn : Nat) (v : Value) : Prop :=
  match opn with
  | 0 | 1 => v = ptr gd
  | 2 => v = .pointer (some ⟨gd, 1, none⟩)
  | 3 => v = .map (some mb)
  | 4 => v = encStr n
  | _ => True

def SR1 (gA gB gF gT gd mb : Nat) (pl : Value) (n2 : Nm) (f : FV) (opn : Nat) (v : Value) : Prop :=
  match opn with
  | 0 | 1 => v = ptr gd
  | 2 => v = .pointer (some ⟨gd, 1, none⟩)
  | 3 => v = .map (some mb)
  | 4 => v = encStr n2
  | 5 => v = .agg #[.slice f.A f.n f.c, .int .i64 f.kept]
  | _ => True

set_option maxRecDepth 100000 in
theorem syncC_any (w : World) (gF gA gB gd mb : Nat) (pl : Value) (fs : Fs) (n : Nm) (f : FV) (hn : n.length ≤ maxLen) (rF : BoxF w gF f) (rA : BoxD w gA gd) (rB : BoxS w gB n) (hr : DRow w gd pl (.map (some mb))) (hm : FMap w mb fs) (hl : fs.length ≤ 64) :
    Calls Try.prog 95 #[ptr gF, ptr gA, ptr gB] w fun e w' => e = .returned (.tuple #[]) ∧ MapAt w' mb (putE (ents fs) n (FV.val { f with kept := (f.n : Int) })) ∧ Buts [mb] w w' := by
  go_enter Try.func95, Try.ntmps95
  go_wp2_with fail
  refine wp_region_vals [7, 8] (SSy gF gA gB gd mb pl n f) (JM w (fun w' => MapAt w' mb (putE (ents fs) n (FV.val { f with kept := (f.n : Int) })) ∧ Buts [mb] w w') 1) (by kernel_rfl) (by kernel_rfl) (by kernel_rfl) (by kernel_rfl) (by kernel_rfl) (JM.start _ _ _ _ _ rfl) ?obsE ?heE
  case obsE =>
    refine ⟨?_, ?_, ?_, ?_, ?_, ?_, ?_, ?_, ?_, trivial⟩
    · exact .inl ⟨by kernel_rfl, fun L a1 w1 n' h => ⟨_, rfl, run_loadA 27 (.tmp 1) ⟨gA, 0, none⟩ rfl Try.isAgg27 (h.var n' 1 (by kernel_rfl)) ((Row.later rA (h.inv.1 ((bits_at rfl).trans (n'.later (by kernel_rfl))))).cell (j := 0) (v := ptr gd) rfl)⟩⟩
    · refine .inl ⟨by kernel_rfl, fun L a1 w1 n' h => ⟨ptr gd, rfl, ?_⟩⟩
      have e0 : a1.eval (.tmp 3) = _ := h.dep n' 0 3 (by kernel_rfl) rfl
      unfold execOp
      simp only [e0]
      go_simp
    · refine .inl ⟨by kernel_rfl, fun L a1 w1 n' h => ⟨.pointer (some ⟨gd, 1, none⟩), rfl, ?_⟩⟩
      have e0 : a1.eval (.tmp 4) = _ := h.dep n' 1 4 (by kernel_rfl) rfl
      unfold execOp
      simp only [e0]
      go_simp
    · exact .inl ⟨by kernel_rfl, fun L a1 w1 n' h => ⟨_, rfl, run_loadA 70 (.tmp 5) ⟨gd, 1, none⟩ rfl Try.isAgg70 (h.dep n' 2 5 (by kernel_rfl) rfl) ((Row.later hr (h.inv.1 ((bits_at rfl).trans (n'.later (by kernel_rfl))))).cell (j := 1) (v := .map (some mb)) rfl)⟩⟩
    · exact .inl ⟨by kernel_rfl, fun L a1 w1 n' h => ⟨_, rfl, run_loadA 9 (.tmp 2) ⟨gB, 0, none⟩ rfl Try.isAgg9 (h.var n' 2 (by kernel_rfl)) ((Row.later rB (h.inv.1 ((bits_at rfl).trans (n'.later (by kernel_rfl))))).cell (j := 0) (v := encStr n) rfl)⟩⟩
    · refine .inl ⟨by kernel_rfl, fun L a1 w1 n' h => ⟨.pointer (some ⟨gF, 0, none⟩), rfl, ?_⟩⟩
      have e0 : a1.eval (.tmp 0) = _ := h.var n' 0 (by kernel_rfl)
      unfold execOp
      simp only [e0]
      go_simp
    · exact .inl ⟨by kernel_rfl, fun L a1 w1 n' h => ⟨_, rfl, run_loadA 35 (.tmp 8) ⟨gF, 0, none⟩ rfl Try.isAgg35 (h.dep n' 5 8 (by kernel_rfl) rfl) ((Row.later rF (h.inv.1 ((bits_at rfl).trans (n'.later (by kernel_rfl))))).cell (j := 0) (v := .slice f.A f.n f.c) rfl)⟩⟩
    · refine .inr fun L a1 w1 n' h K hK => ?_
      have no8 : L.getD 8 false = false := n'.later (by kernel_rfl)
      have b9 := h.inv.1 ((bits_at rfl).trans no8)
      have y0 : a1.eval (.tmp 9) = .slice f.A f.n f.c := h.dep n' 6 9 (by kernel_rfl) rfl
      refine st_call 96 _ _ #[.slice f.A f.n f.c] rfl Try.call96 ?_ (whole_any w1 f.A f.n f.c) ?_
      · simp only [List.map_toArray, List.map_cons, List.map_nil, y0]
      · rintro e w3 ⟨rfl, b8⟩
        exact ⟨_, rfl, hK _ w3 rfl ⟨fun _ => b9.trans (b8.mono b9.size), fun h0 => absurd (no8.symm.trans h0) (by decide)⟩⟩
    · refine .inr fun L a1 w1 n' h K hK => ?_
      have no : L.getD 8 false = false := n'.not_yet
      have b9 := h.inv.1 ((bits_at rfl).trans no)
      refine st_put (.tmp 6) (.tmp 7) (.tmp 10) ((FV.val { f with kept := (f.n : Int) })) rfl (h.dep n' 3 6 (by kernel_rfl) rfl) (h.dep n' 4 7 (by kernel_rfl) rfl) (h.dep n' 7 10 (by kernel_rfl) rfl) (hm.later b9) hn (lenE hl) ?_
      intro w3 m3 o3
      exact hK undef w3 trivial ⟨fun h0 => absurd (show true = false from h0) (by decide), fun _ => ⟨m3, (Buts.of b9 _).trans (Buts.only o3 (List.mem_singleton.2 rfl))⟩⟩
  case heE =>
    intro V w9 hV hJ
    obtain ⟨h1, h2⟩ := hJ.2 rfl
    go_end0
    exact ⟨rfl, h1, h2⟩
set_option maxRecDepth 100000 in
theorem removeC_any (w : World) (gA gB gd mb : Nat) (pl : Value) (fs : Fs) (n : Nm) (hn : n.length ≤ maxLen) (rA : BoxD w gA gd) (rB : BoxS w gB n) (hr : DRow w gd pl (.map (some mb))) (hm : FMap w mb fs) :
    Calls Try.prog 100 #[ptr gA, ptr gB] w fun e w' => e = .returned (.tuple #[]) ∧ MapAt w' mb (delE (ents fs) n) ∧ Buts [mb] w w' := by
  go_enter Try.func100, Try.ntmps100
  go_wp2_with fail
  refine wp_region_vals [5] (SRm gA gB gd mb pl n) (JM w (fun w' => MapAt w' mb (delE (ents fs) n) ∧ Buts [mb] w w') 0) (by kernel_rfl) (by kernel_rfl) (by kernel_rfl) (by kernel_rfl) (by kernel_rfl) (JM.start _ _ _ _ _ rfl) ?obsE ?heE
  case obsE =>
    refine ⟨?_, ?_, ?_, ?_, ?_, ?_, trivial⟩
    · exact .inl ⟨by kernel_rfl, fun L a1 w1 n' h => ⟨_, rfl, run_loadA 27 (.tmp 0) ⟨gA, 0, none⟩ rfl Try.isAgg27 (h.var n' 0 (by kernel_rfl)) ((Row.later rA (h.inv.1 ((bits_at rfl).trans (n'.later (by kernel_rfl))))).cell (j := 0) (v := ptr gd) rfl)⟩⟩
    · refine .inl ⟨by kernel_rfl, fun L a1 w1 n' h => ⟨ptr gd, rfl, ?_⟩⟩
      have e0 : a1.eval (.tmp 2) = _ := h.dep n' 0 2 (by kernel_rfl) rfl
      unfold execOp
      simp only [e0]
      go_simp
    · refine .inl ⟨by kernel_rfl, fun L a1 w1 n' h => ⟨.pointer (some ⟨gd, 1, none⟩), rfl, ?_⟩⟩
      have e0 : a1.eval (.tmp 3) = _ := h.dep n' 1 3 (by kernel_rfl) rfl
      unfold execOp
      simp only [e0]
      go_simp
    · exact .inl ⟨by kernel_rfl, fun L a1 w1 n' h => ⟨_, rfl, run_loadA 70 (.tmp 4) ⟨gd, 1, none⟩ rfl Try.isAgg70 (h.dep n' 2 4 (by kernel_rfl) rfl) ((Row.later hr (h.inv.1 ((bits_at rfl).trans (n'.later (by kernel_rfl))))).cell (j := 1) (v := .map (some mb)) rfl)⟩⟩
    · exact .inl ⟨by kernel_rfl, fun L a1 w1 n' h => ⟨_, rfl, run_loadA 9 (.tmp 1) ⟨gB, 0, none⟩ rfl Try.isAgg9 (h.var n' 1 (by kernel_rfl)) ((Row.later rB (h.inv.1 ((bits_at rfl).trans (n'.later (by kernel_rfl))))).cell (j := 0) (v := encStr n) rfl)⟩⟩
    · refine .inr fun L a1 w1 n' h K hK => ?_
      have no : L.getD 5 false = false := n'.not_yet
      have b9 := h.inv.1 ((bits_at rfl).trans no)
      refine st_del (.tmp 5) (.tmp 6) rfl (h.dep n' 3 5 (by kernel_rfl) rfl) (h.dep n' 4 6 (by kernel_rfl) rfl) (hm.later b9) hn ?_
      intro w3 m3 o3
      exact hK _ w3 trivial ⟨fun h0 => absurd (show true = false from h0) (by decide), fun _ => ⟨m3, (Buts.of b9 _).trans (Buts.only o3 (List.mem_singleton.2 rfl))⟩⟩
  case heE =>
    intro V w9 hV hJ
    obtain ⟨h1, h2⟩ := hJ.2 rfl
    go_end0
    exact ⟨rfl, h1, h2⟩
set_option maxRecDepth 100000 in
theorem renameC_any (w : World) (gA gB gF gT gd mb : Nat) (pl : Value) (fs : Fs) (n n2 : Nm) (f : FV) (hn : n.length ≤ maxLen) (hn2 : n2.length ≤ maxLen) (rA : BoxD w gA gd) (rB : BoxS w gB n) (rF : BoxF w gF f) (rT : BoxS w gT n2) (hr : DRow w gd pl (.map (some mb))) (hm : FMap w mb fs) (hl : fs.length ≤ 64) :
    Calls Try.prog 99 #[ptr gA, ptr gB, ptr gF, ptr gT] w fun e w' => e = .returned (.tuple #[]) ∧ MapAt w' mb (putE (delE (ents fs) n) n2 f.val) ∧ Buts [mb] w w' := by
  have hl2 : (delE (ents fs) n).length < maxLen := Nat.lt_of_le_of_lt (List.length_filter_le _ _) (lenE hl)
  go_enter Try.func99, Try.ntmps99
  go_wp2_with fail
  rename_i K0 hK0
  refine wp_region_vals [5] (SR0 gA gB gF gT gd mb pl n) (JM w (fun w' => MapAt w' mb (delE (ents fs) n) ∧ Buts [mb] w w') 0) (by kernel_rfl) (by kernel_rfl) (by kernel_rfl) (by kernel_rfl) (by kernel_rfl) (JM.start _ _ _ _ _ rfl) ?obsE ?heE
  case obsE =>
    refine ⟨?_, ?_, ?_, ?_, ?_, ?_, trivial⟩
    · exact .inl ⟨by kernel_rfl, fun L a1 w1 n' h => ⟨_, rfl, run_loadA 27 (.tmp 0) ⟨gA, 0, none⟩ rfl Try.isAgg27 (h.var n' 0 (by kernel_rfl)) ((Row.later rA (h.inv.1 ((bits_at rfl).trans (n'.later (by kernel_rfl))))).cell (j := 0) (v := ptr gd) rfl)⟩⟩
    · refine .inl ⟨by kernel_rfl, fun L a1 w1 n' h => ⟨ptr gd, rfl, ?_⟩⟩
      have e0 : a1.eval (.tmp 4) = _ := h.dep n' 0 4 (by kernel_rfl) rfl
      unfold execOp
      simp only [e0]
      go_simp
    · refine .inl ⟨by kernel_rfl, fun L a1 w1 n' h => ⟨.pointer (some ⟨gd, 1, none⟩), rfl, ?_⟩⟩
      have e0 : a1.eval (.tmp 5) = _ := h.dep n' 1 5 (by kernel_rfl) rfl
      unfold execOp
      simp only [e0]
      go_simp
    · exact .inl ⟨by kernel_rfl, fun L a1 w1 n' h => ⟨_, rfl, run_loadA 70 (.tmp 6) ⟨gd, 1, none⟩ rfl Try.isAgg70 (h.dep n' 2 6 (by kernel_rfl) rfl) ((Row.later hr (h.inv.1 ((bits_at rfl).trans (n'.later (by kernel_rfl))))).cell (j := 1) (v := .map (some mb)) rfl)⟩⟩
    · exact .inl ⟨by kernel_rfl, fun L a1 w1 n' h => ⟨_, rfl, run_loadA 9 (.tmp 1) ⟨gB, 0, none⟩ rfl Try.isAgg9 (h.var n' 1 (by kernel_rfl)) ((Row.later rB (h.inv.1 ((bits_at rfl).trans (n'.later (by kernel_rfl))))).cell (j := 0) (v := encStr n) rfl)⟩⟩
    · refine .inr fun L a1 w1 n' h K hK => ?_
      have no : L.getD 5 false = false := n'.not_yet
      have b9 := h.inv.1 ((bits_at rfl).trans no)
      refine st_del (.tmp 7) (.tmp 8) rfl (h.dep n' 3 7 (by kernel_rfl) rfl) (h.dep n' 4 8 (by kernel_rfl) rfl) (hm.later b9) hn ?_
      intro w3 m3 o3
      exact hK _ w3 trivial ⟨fun h0 => absurd (show true = false from h0) (by decide), fun _ => ⟨m3, (Buts.of b9 _).trans (Buts.only o3 (List.mem_singleton.2 rfl))⟩⟩
  case heE =>
    intro V w2 hV hJ
    obtain ⟨m1, bU⟩ := hJ.2 rfl
    clear hV hJ
    have nb : ∀ {t g : Nat} {vs : List Value}, Row w t g vs → g ∉ [mb] := fun r hk => hm.ne_row r (List.mem_singleton.1 hk).symm
    have rA := Row.buts rA bU (nb rA)
    have rF := Row.buts rF bU (nb rF)
    have rT := Row.buts rT bU (nb rT)
    have hr := Row.buts hr bU (nb hr)
    clear nb
    simp only [putOps, List.setIfInBounds_toArray, List.set_cons_succ, List.set_cons_zero, Nat.reduceAdd]
    refine hK0 _ _ ?_
    go_wp2_with fail
    refine wp_region_vals [6] (SR1 gA gB gF gT gd mb pl n2 f) (JM w2 (fun w' => MapAt w' mb (putE (delE (ents fs) n) n2 f.val) ∧ Buts [mb] w2 w') 0) (by kernel_rfl) (by kernel_rfl) (by kernel_rfl) (by kernel_rfl) (by kernel_rfl) (JM.start _ _ _ _ _ rfl) ?obsF ?heF
    case obsF =>
      refine ⟨?_, ?_, ?_, ?_, ?_, ?_, ?_, trivial⟩
      · exact .inl ⟨by kernel_rfl, fun L a1 w1 n' h => ⟨_, rfl, run_loadA 27 (.tmp 0) ⟨gA, 0, none⟩ rfl Try.isAgg27 (h.var n' 0 (by kernel_rfl)) ((Row.later rA (h.inv.1 ((bits_at rfl).trans (n'.later (by kernel_rfl))))).cell (j := 0) (v := ptr gd) rfl)⟩⟩
      · refine .inl ⟨by kernel_rfl, fun L a1 w1 n' h => ⟨ptr gd, rfl, ?_⟩⟩
        have e0 : a1.eval (.tmp 9) = _ := h.dep n' 0 9 (by kernel_rfl) rfl
        unfold execOp
        simp only [e0]
        go_simp
      · refine .inl ⟨by kernel_rfl, fun L a1 w1 n' h => ⟨.pointer (some ⟨gd, 1, none⟩), rfl, ?_⟩⟩
        have e0 : a1.eval (.tmp 10) = _ := h.dep n' 1 10 (by kernel_rfl) rfl
        unfold execOp
        simp only [e0]
        go_simp
      · exact .inl ⟨by kernel_rfl, fun L a1 w1 n' h => ⟨_, rfl, run_loadA 70 (.tmp 11) ⟨gd, 1, none⟩ rfl Try.isAgg70 (h.dep n' 2 11 (by kernel_rfl) rfl) ((Row.later hr (h.inv.1 ((bits_at rfl).trans (n'.later (by kernel_rfl))))).cell (j := 1) (v := .map (some mb)) rfl)⟩⟩
      · exact .inl ⟨by kernel_rfl, fun L a1 w1 n' h => ⟨_, rfl, run_loadA 9 (.tmp 3) ⟨gT, 0, none⟩ rfl Try.isAgg9 (h.var n' 3 (by kernel_rfl)) ((Row.later rT (h.inv.1 ((bits_at rfl).trans (n'.later (by kernel_rfl))))).cell (j := 0) (v := encStr n2) rfl)⟩⟩
      · exact .inl ⟨by kernel_rfl, fun L a1 w1 n' h => ⟨_, rfl, run_loadRow 137 (.tmp 2) gF 137 _ _ rfl (h.var n' 2 (by kernel_rfl)) (Row.later rF (h.inv.1 ((bits_at rfl).trans (n'.later (by kernel_rfl))))) Try.underlying137 rfl (szFile f)⟩⟩
      · refine .inr fun L a1 w1 n' h K hK => ?_
        have no : L.getD 6 false = false := n'.not_yet
        have b9 := h.inv.1 ((bits_at rfl).trans no)
        refine st_put (.tmp 12) (.tmp 13) (.tmp 14) (f.val) rfl (h.dep n' 3 12 (by kernel_rfl) rfl) (h.dep n' 4 13 (by kernel_rfl) rfl) (h.dep n' 5 14 (by kernel_rfl) rfl) (m1.later b9) hn2 hl2 ?_
        intro w3 m3 o3
        exact hK undef w3 trivial ⟨fun h0 => absurd (show true = false from h0) (by decide), fun _ => ⟨m3, (Buts.of b9 _).trans (Buts.only o3 (List.mem_singleton.2 rfl))⟩⟩
    case heF =>
      intro V2 w9 hV hJ
      obtain ⟨h1, h2⟩ := hJ.2 rfl
      go_end0
      exact ⟨rfl, h1, bU.trans h2⟩
end Go.Proofs.Ytfijhfolanhifaa

/-
  The disk: what Append does to the map, and to a file's row. Own work.
-/
namespace Go.Proofs.Ytfijhfolanhifaa
open Go.RowKit Go.Maps Go.ChangeMaps
/-- 'append(s, xs...)' of bytes onto a row of one's own, whatever xs is; where the row lies behind it. -/
theorem st_append_where {P : Program} {o : Oper} {a : Act} {w : World} {K : Act → World → Prop} {Q : Exit → Act → World → Prop} (s x : Operand) (t : TypeId)
    (ho : o.op = .call { callee := .builtin .append, args := #[s, x], argTypes := #[t, t] })
    (base : Nat) (e : TypeId) (i : TypeInfo) (ht : P.underlying t = some (.slice e)) (hi : P.info? e = some i) (hz : i.zero = some (.int .u8 0)) (hsz : i.size = 1) (hby : i.bytes = 1)
    (v : Value) (n : Nat) (xs : List Int) (hs : a.eval s = v) (hown : w.ownsRow base e 1 v n (bv xs)) (B : Nat) (A : Option Addr) (m c : Nat) (ys : List Int) (hx : a.eval x = .slice A m c) (hr : Bs w B A m ys)
    (hlen : n + m ≤ 140737488355328) (hbase : base ≤ w.heap.size)
    (h : ∀ v' w', w'.ownsRow base e 1 v' (n + m) (bv (xs ++ ys)) → w.grownBy w' v.ownBlock → (v'.ownBlock = v.ownBlock ∨ v'.ownBlock = some w.heap.size) → K (a.put o.dst v') w') : o.wp P a w K Q := by
  have hmap : bv (xs ++ ys) = bv xs ++ bv ys := by simp [bv]
  have hrun : ∃ v' w', (Builtin.append_ #[t, t] o.type #[v, .slice A m c]).run P w = .ok v' w' ∧ w'.ownsRow base e 1 v' (n + m) (bv (xs ++ ys)) ∧ w.grownBy w' v.ownBlock ∧ (v'.ownBlock = v.ownBlock ∨ v'.ownBlock = some w.heap.size) := by
    rcases A with _ | ad
    · have hm : m = 0 := by
        rcases Nat.eq_zero_or_pos m with h0 | h0
        · exact h0
        · obtain ⟨_, _, h, _⟩ := hr.2 h0; cases h
      subst hm
      obtain rfl : ys = [] := List.eq_nil_of_length_eq_zero hr.1
      refine ⟨v, w, ?_, by rw [hmap]; simpa [bv] using hown, ⟨rfl, rfl, rfl, Nat.le_refl _, fun _ _ _ => rfl⟩, .inl rfl⟩
      rcases hown.2 with ⟨rfl, rfl⟩ | ⟨g, cap, cur, rfl, _, _, hnc, _⟩
      · simp [Builtin.append_, run_underlying ht, sizeOf, typeInfo, hi, Builtin.lenOf, Builtin.firstCells]
      · simp [Builtin.append_, run_underlying ht, sizeOf, typeInfo, hi, Builtin.lenOf, Builtin.firstCells, hnc, storeCells]
    · obtain ⟨v', w', h1, h2, h3, _, h5⟩ := run_append_own_at (P := P) w base t o.type e i (.int .u8 0) 1 1 ht hi hz hsz hby rfl (by decide) v n (bv xs) hown ad m c (bv ys) (by rw [bv_len, hr.1, Nat.mul_one]) (hr.cells rfl) (bv_one ys) (by simp only [maxLen]; omega) (by omega) hbase
      exact ⟨v', w', h1, by rw [hmap]; exact h2, h3, h5⟩
  obtain ⟨v', w', hrun, h2, h3, h5⟩ := hrun
  unfold Oper.wp execOp
  simp only [ho, resolve, invoke, builtin, Sem.run_bind, Sem.run_pure, Result.andThen_ok, List.map_toArray, List.map_cons, List.map_nil, hs, hx, hrun]
  exact h v' w' h2 h3 h5
theorem grown_buts {w w' : World} {f : FV} (h : w.grownBy w' f.sl.ownBlock) : Buts f.bk w w' := ⟨h.os, h.tape, h.output, h.size, fun k hk hn => h.block k hk (fun e => hn (by rw [FV.bk, ← e]; simp))⟩
theorem own_fv {w : World} {B n : Nat} {v : Value} {xs : List Int} (kept : Int) (h : w.ownsRow B 5 1 v n (bv xs)) : ∃ f : FV, v = f.sl ∧ f.n = n ∧ f.xs = xs ∧ f.kept = kept ∧ OwnF w B f := by
  have h0 := h
  obtain ⟨hl, ho⟩ := h
  rcases ho with ⟨rfl, rfl⟩ | ⟨g, cap, cur, rfl, _⟩
  · exact ⟨⟨none, 0, 0, xs, kept⟩, rfl, rfl, rfl, rfl, h0⟩
  · exact ⟨⟨some ⟨g, 0, none⟩, n, cap, xs, kept⟩, rfl, rfl, rfl, rfl, h0⟩
/-- A file with bytes behind its own: where they lie. -/
def More (w0 : World) (B : Nat) (f : FV) (ys : List Int) (f' : FV) (w : World) : Prop := f'.n = f.n + ys.length ∧ f'.xs = f.xs ++ ys ∧ f'.kept = f.kept ∧ OwnF w B f' ∧ (f'.sl.ownBlock = f.sl.ownBlock ∨ ∀ k ∈ f'.bk, w0.heap.size ≤ k)
def JAp (w0 : World) (f : FV) (B : Nat) (ys : List Int) (N : World → Prop) (bs : List Bool) (vs : List Value) (w : World) : Prop :=
  (bs.getD 0 false = false → Below w0.heap.size w0 w) ∧ (bs.getD 2 false = false → Buts f.bk w0 w) ∧ (bs.getD 0 false = true → bs.getD 2 false = false → ∃ f' : FV, vs.getD 0 undef = f'.sl ∧ More w0 B f ys f' w) ∧
    (bs.getD 1 false = true → ∃ A n c, vs.getD 0 undef = .slice A n c ∧ vs.getD 1 undef = .agg #[.slice A n c, .int .i64 f.kept]) ∧ (bs.getD 2 false = true → N w)
theorem JAp.start (w0 : World) (f : FV) (B : Nat) (ys : List Int) (N : World → Prop) (vs : List Value) : JAp w0 f B ys N [false, false, false] vs w0.drew :=
  ⟨fun _ => (Below.refl _ _).drew, fun _ => Buts.of (Below.refl _ _).drew _, fun h => absurd (show false = true from h) (by decide), fun h => absurd (show false = true from h) (by decide), fun h => absurd (show false = true from h) (by decide)⟩
theorem byte_info : ∃ i, Try.prog.info? 5 = some i ∧ i.zero = some (.int .u8 0) ∧ i.size = 1 ∧ i.bytes = 1 := by
  have h : (Try.prog.info? 5).map (fun i => (i.zero, i.size, i.bytes)) = some (some (.int .u8 0), 1, 1) := by kernel_rfl
  exact info_parts h
theorem builtFile (A : Option Addr) (n c : Nat) (k : Int) : Try.prog.built 137 [(0, .slice A n c), (1, .int .i64 k)] = some [Value.slice A n c, Value.int .i64 k].toArray := by kernel_rfl
def SAp (gF gC gA gB gd mb : Nat) (pl : Value) (n : Nm) (f : FV) (A : Option Addr) (m c : Nat) (opn : Nat) (v : Value) : Prop :=
  match opn with
  | 0 | 1 => v = ptr gd
  | 2 => v = .pointer (some ⟨gd, 1, none⟩)
  | 3 => v = .map (some mb)
  | 4 => v = encStr n
  | 5 => v = .pointer (some ⟨gF, 0, none⟩)
  | 6 => v = .slice f.A f.n f.c
  | 7 => v = .slice A m c
  | 9 => v = .pointer (some ⟨gF, 1, none⟩)
  | 10 => v = .int .i64 f.kept
  | _ => True

set_option maxRecDepth 100000 in
set_option maxHeartbeats 1000000 in
theorem appendC_any (w : World) (B gF gC gA gB gd mb : Nat) (pl : Value) (fs : Fs) (n : Nm) (f : FV) (A : Option Addr) (m c : Nat) (ys : List Int) (hn : n.length ≤ maxLen) (hB : B ≤ w.heap.size) (hof : OwnF w B f) (hy : Bs w w.heap.size A m ys) (hlen : f.n + m ≤ 140737488355328)
    (rF : BoxF w gF f) (rC : Row w 35 gC [.slice A m c]) (rA : BoxD w gA gd) (rB : BoxS w gB n) (hr : DRow w gd pl (.map (some mb))) (hm : FMap w mb fs) (hl : fs.length ≤ 64) :
    Calls Try.prog 94 #[ptr gF, ptr gC, ptr gA, ptr gB] w fun e w' => e = .returned (.tuple #[]) ∧ ∃ f', More w B f ys f' w' ∧ MapAt w' mb (putE (ents fs) n f'.val) ∧ Buts (mb :: f.bk) w w' := by
  obtain ⟨i0, hi, hz, hs, hb⟩ := byte_info
  have hyl : ys.length = m := hy.1
  have nfgA := owf_not_row hof rA (by decide)
  have nfgB := owf_not_row hof rB (by decide)
  have nfgC := owf_not_row hof rC (by decide)
  have nfgF := owf_not_row hof rF (by decide)
  have nfgd := owf_not_row hof hr (by decide)
  go_enter Try.func94, Try.ntmps94
  go_wp2_with fail
  refine wp_region_vals [8, 11, 12] (SAp gF gC gA gB gd mb pl n f A m c) (JAp w f B ys (fun w' => ∃ f', More w B f ys f' w' ∧ MapAt w' mb (putE (ents fs) n f'.val) ∧ Buts (mb :: f.bk) w w')) (by kernel_rfl) (by kernel_rfl) (by kernel_rfl) (by kernel_rfl) (by kernel_rfl) (JAp.start _ _ _ _ _ _) ?obsE ?heE
  case obsE =>
    refine ⟨?_, ?_, ?_, ?_, ?_, ?_, ?_, ?_, ?_, ?_, ?_, ?_, ?_, trivial⟩
    · exact .inl ⟨by kernel_rfl, fun L a1 w1 n' h => ⟨_, rfl, run_loadA 27 (.tmp 2) ⟨gA, 0, none⟩ rfl Try.isAgg27 (h.var n' 2 (by kernel_rfl)) ((Row.buts rA (h.inv.2.1 ((bits_at rfl).trans (n'.later (by kernel_rfl)))) nfgA).cell (j := 0) (v := ptr gd) rfl)⟩⟩
    · refine .inl ⟨by kernel_rfl, fun L a1 w1 n' h => ⟨ptr gd, rfl, ?_⟩⟩
      have e0 : a1.eval (.tmp 4) = _ := h.dep n' 0 4 (by kernel_rfl) rfl
      unfold execOp
      simp only [e0]
      go_simp
    · refine .inl ⟨by kernel_rfl, fun L a1 w1 n' h => ⟨.pointer (some ⟨gd, 1, none⟩), rfl, ?_⟩⟩
      have e0 : a1.eval (.tmp 5) = _ := h.dep n' 1 5 (by kernel_rfl) rfl
      unfold execOp
      simp only [e0]
      go_simp
    · exact .inl ⟨by kernel_rfl, fun L a1 w1 n' h => ⟨_, rfl, run_loadA 70 (.tmp 6) ⟨gd, 1, none⟩ rfl Try.isAgg70 (h.dep n' 2 6 (by kernel_rfl) rfl) ((Row.buts hr (h.inv.2.1 ((bits_at rfl).trans (n'.later (by kernel_rfl)))) nfgd).cell (j := 1) (v := .map (some mb)) rfl)⟩⟩
    · exact .inl ⟨by kernel_rfl, fun L a1 w1 n' h => ⟨_, rfl, run_loadA 9 (.tmp 3) ⟨gB, 0, none⟩ rfl Try.isAgg9 (h.var n' 3 (by kernel_rfl)) ((Row.buts rB (h.inv.2.1 ((bits_at rfl).trans (n'.later (by kernel_rfl)))) nfgB).cell (j := 0) (v := encStr n) rfl)⟩⟩
    · refine .inl ⟨by kernel_rfl, fun L a1 w1 n' h => ⟨.pointer (some ⟨gF, 0, none⟩), rfl, ?_⟩⟩
      have e0 : a1.eval (.tmp 0) = _ := h.var n' 0 (by kernel_rfl)
      unfold execOp
      simp only [e0]
      go_simp
    · exact .inl ⟨by kernel_rfl, fun L a1 w1 n' h => ⟨_, rfl, run_loadA 35 (.tmp 9) ⟨gF, 0, none⟩ rfl Try.isAgg35 (h.dep n' 5 9 (by kernel_rfl) rfl) ((Row.buts rF (h.inv.2.1 ((bits_at rfl).trans (n'.later (by kernel_rfl)))) nfgF).cell (j := 0) (v := .slice f.A f.n f.c) rfl)⟩⟩
    · exact .inl ⟨by kernel_rfl, fun L a1 w1 n' h => ⟨_, rfl, run_loadA 35 (.tmp 1) ⟨gC, 0, none⟩ rfl Try.isAgg35 (h.var n' 1 (by kernel_rfl)) ((Row.buts rC (h.inv.2.1 ((bits_at rfl).trans (n'.later (by kernel_rfl)))) nfgC).cell (j := 0) (v := .slice A m c) rfl)⟩⟩
    · refine .inr fun L a1 w1 n' h K hK => ?_
      have no8 : L.getD 8 false = false := n'.not_yet
      have no11 : L.getD 11 false = false := n'.later (by kernel_rfl)
      have no12 : L.getD 12 false = false := n'.later (by kernel_rfl)
      have b9 := h.inv.1 ((bits_at rfl).trans no8)
      have own1 : OwnF w1 B f := owf_buts hof (Buts.of b9 []) (fun _ _ hk => absurd hk (by simp))
      refine st_append_where (.tmp 10) (.tmp 11) 35 rfl B 5 i0 Try.underlying35 hi hz hs hb f.sl f.n f.xs (h.dep n' 6 10 (by kernel_rfl) rfl) own1 w1.heap.size A m c ys (h.dep n' 7 11 (by kernel_rfl) rfl) (hy.later b9) hlen (Nat.le_trans hB b9.size) ?_
      intro v' w3 own3 hg3 hloc
      obtain ⟨f', rfl, e1, e2, e3, own4⟩ := own_fv f.kept own3
      have hM : More w B f ys f' w3 := ⟨by rw [e1, hyl], e2, e3, own4, hloc.imp id (fun e k hk => by rw [FV.bk, e] at hk; simp at hk; subst hk; exact b9.size)⟩
      exact hK _ w3 trivial ⟨fun h0 => absurd (show true = false from h0) (by decide), fun _ => (Buts.of b9 _).trans (grown_buts hg3), fun _ _ => ⟨f', rfl, hM⟩, fun h0 => absurd (no11.symm.trans h0) (by decide), fun h0 => absurd (no12.symm.trans h0) (by decide)⟩
    · refine .inl ⟨by kernel_rfl, fun L a1 w1 n' h => ⟨.pointer (some ⟨gF, 1, none⟩), rfl, ?_⟩⟩
      have e0 : a1.eval (.tmp 0) = _ := h.var n' 0 (by kernel_rfl)
      unfold execOp
      simp only [e0]
      go_simp
    · exact .inl ⟨by kernel_rfl, fun L a1 w1 n' h => ⟨_, rfl, run_loadA 3 (.tmp 13) ⟨gF, 1, none⟩ rfl Try.isAgg3 (h.dep n' 9 13 (by kernel_rfl) rfl) ((Row.buts rF (h.inv.2.1 ((bits_at rfl).trans (n'.later (by kernel_rfl)))) nfgF).cell (j := 1) (v := .int .i64 f.kept) rfl)⟩⟩
    · refine .inr fun L a1 w1 n' h K hK => ?_
      have yes8 : L.getD 8 false = true := n'.dep (by kernel_rfl)
      have no12 : L.getD 12 false = false := n'.later (by kernel_rfl)
      obtain ⟨f', ev, hM⟩ := h.inv.2.2.1 ((bits_at rfl).trans yes8) ((bits_at rfl).trans no12)
      have y0 : a1.eval (.tmp 12) = .slice f'.A f'.n f'.c := ev
      have y1 : a1.eval (.tmp 14) = .int .i64 f.kept := h.dep n' 10 14 (by kernel_rfl) rfl
      have hrun := fun (o : Oper) (ho : o.op = .build 137 [(0, Operand.tmp 12), (1, Operand.tmp 14)].toArray) => run_buildX (P := Try.prog) (o := o) (a := a1) (w := w1) 137 [(0, .tmp 12), (1, .tmp 14)] ho [(0, .slice f'.A f'.n f'.c), (1, .int .i64 f.kept)] (by simp only [List.map_cons, List.map_nil]; rw [y0, y1]) _ (builtFile f'.A f'.n f'.c f.kept)
      unfold Oper.wp
      rw [hrun _ rfl]
      exact hK _ w1 trivial ⟨fun h0 => h.inv.1 h0, fun h0 => h.inv.2.1 h0, fun _ _ => ⟨f', ev, hM⟩, fun _ => ⟨f'.A, f'.n, f'.c, ev, rfl⟩, fun h0 => absurd (no12.symm.trans h0) (by decide)⟩
    · refine .inr fun L a1 w1 n' h K hK => ?_
      have yes8 : L.getD 8 false = true := n'.dep (by kernel_rfl)
      have yes11 : L.getD 11 false = true := n'.dep (by kernel_rfl)
      have no12 : L.getD 12 false = false := n'.not_yet
      obtain ⟨f', ev, hM⟩ := h.inv.2.2.1 ((bits_at rfl).trans yes8) ((bits_at rfl).trans no12)
      obtain ⟨A9, n9, c9, ev9, eu9⟩ := h.inv.2.2.2.1 ((bits_at rfl).trans yes11)
      have bU := h.inv.2.1 ((bits_at rfl).trans no12)
      have e9 := ev.symm.trans ev9
      injection e9 with q1 q2 q3
      have y2 : a1.eval (.tmp 15) = f'.val := by
        refine Eq.trans (show a1.eval (.tmp 15) = _ from eu9) ?_
        rw [← q1, ← q2, ← q3, ← hM.2.2.1]
      have mU : FMap w1 mb fs := hm.buts bU (owf_not_map hof hm)
      refine st_put (.tmp 7) (.tmp 8) (.tmp 15) f'.val rfl (h.dep n' 3 7 (by kernel_rfl) rfl) (h.dep n' 4 8 (by kernel_rfl) rfl) y2 mU hn (lenE hl) ?_
      intro w3 m3 o3
      exact hK undef w3 trivial ⟨fun h0 => absurd (yes8.symm.trans h0) (by decide), fun h0 => absurd (show true = false from h0) (by decide), fun _ h0 => absurd (show true = false from h0) (by decide), fun _ => ⟨A9, n9, c9, ev9, eu9⟩, fun _ => ⟨f', ⟨hM.1, hM.2.1, hM.2.2.1, owf_buts hM.2.2.2.1 (Buts.only (S := [mb]) o3 (List.mem_singleton.2 rfl)) (fun k hk hk2 => owf_not_map hM.2.2.2.1 mU (List.mem_singleton.1 hk2 ▸ hk)), hM.2.2.2.2⟩, m3, (bU.sub (fun k hk => List.mem_cons_of_mem _ hk)).trans (Buts.only o3 (List.mem_cons_self ..))⟩⟩
  case heE =>
    intro V w9 hV hJ
    obtain ⟨f', h1, h2, h3⟩ := hJ.2.2.2.2 rfl
    go_end0
    exact ⟨rfl, f', h1, h2, h3⟩
end Go.Proofs.Ytfijhfolanhifaa

/-
  The disk: Sync, Remove, Rename, Append, Read. Own work.
-/
namespace Go.Proofs.Ytfijhfolanhifaa
open Go.RowKit Go.Maps Go.ChangeMaps
theorem pw_mem {α : Type} {R : α → α → Prop} {l : List α} (h : l.Pairwise R) {a b : α} (ha : a ∈ l) (hb : b ∈ l) : a = b ∨ R a b ∨ R b a := by
  induction h with
  | nil => cases ha
  | cons h1 h2 ih =>
    rcases List.mem_cons.1 ha with e | ha <;> rcases List.mem_cons.1 hb with e' | hb
    · exact .inl (e.trans e'.symm)
    · exact .inr (.inl (e ▸ h1 _ hb))
    · exact .inr (.inr (e' ▸ h1 _ ha))
    · exact ih ha hb
theorem FilesAt.two {w : World} {B : Nat} {fs : Fs} (h : FilesAt w B fs) {p q : Nm × FV} (hp : p ∈ fs) (hq : q ∈ fs) (hne : p.1 ≠ q.1) : ∀ k ∈ p.2.bk, k ∉ q.2.bk := by
  rcases pw_mem h.apart hp hq with e | hr | hr
  · exact absurd (congrArg Prod.fst e) hne
  · exact hr
  · exact fun k hk hk2 => hr k hk2 hk
theorem FilesAt.del {w : World} {B : Nat} {fs : Fs} (h : FilesAt w B fs) (n : Nm) : FilesAt w B (delF fs n) := ⟨fun p hp => h.own p (List.mem_filter.1 hp).1, fun p hp => h.bd p (List.mem_filter.1 hp).1, h.apart.sublist List.filter_sublist⟩
theorem DiskAt.turned {w w' : World} {B gd mb : Nat} {pl : Value} {fs fs' : Fs} (h : DiskAt w B gd pl mb fs) (hm : FMap w' mb fs') (hB : Buts [mb] w w') (hf : FilesAt w B fs') (hl : fs'.length ≤ 64) : DiskAt w' B gd pl mb fs' :=
  ⟨Row.buts h.row hB (fun e => h.map.ne_row h.row (List.mem_singleton.1 e).symm), h.lo, hm, hf.buts hB (fun p hp k hk hk2 => by simp at hk2; subst hk2; exact owf_not_map (hf.own p hp) h.map hk), hl⟩
theorem not_plB {w : World} {pl : Value} {on : Bool} {fuse : Int} {g : Nat} (hp : PlAt w pl on fuse) (hg : w.heap.size ≤ g) : g ∉ plB pl := by
  intro hk
  rcases hp with ⟨gp, rfl, hp⟩ | ⟨rfl, _⟩
  · simp [plB] at hk; have := hp.lt; omega
  · simp [plB] at hk
theorem findR_ok {fs : Fs} {n : Nm} {ns : List Nm} {on : Bool} {f : FV} (h : findR fs n ns on = (f, 0)) : atF fs n = some f ∧ ∀ m ∈ n :: ns, m.length ≤ maxLen := by
  unfold findR at h
  by_cases hr : refE (n :: ns) on = 0
  · rw [if_pos hr] at h
    refine ⟨?_, fun m hm => ?_⟩
    · cases hq : atF fs n with
      | none => rw [hq] at h; simp at h
      | some g => rw [hq] at h; simp at h; rw [h]
    · rcases refE_cases (n :: ns) on with ⟨_, ho⟩ | h1 | h1
      · exact okN_le (List.all_eq_true.1 ho m hm)
      · rw [hr] at h1; cases h1
      · rw [hr] at h1; cases h1
  · rw [if_neg hr] at h
    simp at h
    exact absurd h.2 hr
theorem findR_err {fs : Fs} {n : Nm} {ns : List Nm} {on : Bool} {f : FV} {e : Int} (h : findR fs n ns on = (f, e)) (he : e ≠ 0) : f = zV := by
  rcases findR_cases fs n ns on with ⟨_, _, ⟨g, _, h1⟩ | ⟨_, h1⟩⟩ | ⟨_, h1⟩ | ⟨_, h1⟩ <;> rw [h1] at h <;> simp at h
  · exact absurd h.2.symm he
  · exact h.1.symm
  · exact h.1.symm
  · exact h.1.symm
set_option maxRecDepth 100000 in
/-- A copy is a row of its own. -/
theorem cloneF (A : Option Addr) (n c : Nat) (xs : List Int) (w : World) (h : Bs w w.heap.size A n xs) (hn : n ≤ 140737488355328) :
    Calls Try.prog 22 #[.slice A n c] w fun e w' => ∃ A' c', e = .returned (.slice A' n c') ∧ w'.ownsRow w.heap.size 5 1 (.slice A' n c') n (bv xs) ∧ Below w.heap.size w w' := by
  have q : ∀ (w : World) (a : Option Addr) (n c n' c' : Nat), (binOp .eql 35 (.slice a n c) (.slice none n' c')).run Try.prog w = .ok (.bool a.isNone) w := fun w a n c n' c' => Lib.run_eql_slice_nil w _ _ a n c n' c' Try.underlying35
  obtain ⟨i0, hi, hz, hsz, hby⟩ := byte_info
  rcases A with _ | ad
  · have h0 : n = 0 := by
      rcases Nat.eq_zero_or_pos n with h0 | h0
      · exact h0
      · obtain ⟨_, _, h, _⟩ := h.2 h0; cases h
    subst h0
    obtain rfl : xs = [] := List.eq_nil_of_length_eq_zero h.1
    go_enter Try.func22, Try.ntmps22
    go_wp2
    go_ret
    exact ⟨none, 0, rfl, World.ownsRow_nil _ _ _ _, Below.refl _ _⟩
  · have hown := World.ownsRow_lit (base := w.heap.size) (e := 5) (size := 1) w #[] 0 (Nat.le_refl _) (by simp) rfl
    go_enter Try.func22, Try.ntmps22
    go_wp2_with (at_builtin; refine wpList_append_bs rfl (.tmp 5) (.tmp 6) _ rfl w.heap.size 5 i0 Try.underlying35 hi hz hsz hby (.slice (some ⟨w.heap.size, 0, none⟩) 0 0) 0 [] rfl hown w.heap.size (some ad) n c xs rfl (h.below ((Below.refl _ _).alloc (Nat.le_refl _) _)) (by omega) (by simp) ?_; intro v1 w1 hown1 hg1)
    go_ret
    have hb := grown_below ((Below.refl _ _).alloc (Nat.le_refl _) _) hown (Nat.le_refl _) hg1
    rw [Nat.zero_add, List.nil_append] at hown1
    rcases hown1.2 with ⟨rfl, h0⟩ | ⟨g, cap, cur, rfl, _⟩
    · subst h0; exact ⟨none, 0, rfl, hown1, hb⟩
    · exact ⟨some ⟨g, 0, none⟩, cap, rfl, hown1, hb⟩
theorem rne {w : World} {t t' g g' : Nat} {vs vs' : List Value} (h : Row w t g vs) (h' : Row w t' g' vs') (ht : t ≠ t') : g ≠ g' := by
  intro e
  subst e
  have := h.symm.trans h'
  simp at this
  exact ht this.2
set_option maxRecDepth 100000 in
theorem sync_any (w : World) (B gd mb : Nat) (pl : Value) (on : Bool) (fuse : Int) (fs : Fs) (n : Nm) (h : DiskAt w B gd pl mb fs) (hp : PlAt w pl on fuse) (hf : isI fuse) :
    Calls Try.prog 37 #[ptr gd, encStr n] w fun e w' => e = .returned (.int .i64 (dE ((findR fs n [] on).2) on fuse)) ∧ Acted w w' B gd pl mb ((findR fs n [] on).2) on fuse fs (putF fs n { (findR fs n [] on).1 with kept := ((findR fs n [] on).1.n : Int) }) := by
  obtain ⟨i0, hi, hz, hs, hb⟩ := str_info
  have HFD := fun (w1 : World) (b : Below w.heap.size w w1) => find_one w1 gd mb pl on fuse fs n (Row.later h.row b) (hp.later b) (h.map.later b)
  obtain ⟨ff, fe, hfr⟩ : ∃ ff fe, findR fs n [] on = (ff, fe) := ⟨_, _, rfl⟩
  rw [hfr] at HFD ⊢
  have HC : ∀ (w1 : World) (gA gB gF : Nat) (b : Below w.heap.size w w1) (rgA : Row w1 27 gA [ptr gd]) (pgA : w.heap.size ≤ gA) (rgB : Row w1 9 gB [encStr n]) (pgB : w.heap.size ≤ gB) (rF : BoxF w1 gF ff) (pF : w.heap.size ≤ gF), Calls Try.prog 91 #[ptr gd, .int .i64 fe, .func (.func 95) #[] #[ptr gF, ptr gA, ptr gB]] w1 fun en w' => en = .returned (.int .i64 (dE fe on fuse)) ∧ Acted w1 w' B gd pl mb fe on fuse fs (putF fs n { ff with kept := (ff.n : Int) }) := by
    intro w1 gA gB gF b rgA pgA rgB pgB rF pF
    refine change_all w1 B gd mb pl _ _ _ on fuse fs _ (h.later b) (hp.later b) hf Try.call95 (fun he w2 hD b2 => ?_)
    subst he
    obtain ⟨hat, hlen⟩ := findR_ok hfr
    have hn := hlen n (by simp)
    have hmem := atF_mem hat
    have hsm : (atF fs n).isSome = true := by rw [hat]; rfl
    have rgA := Row.buts rgA b2 (not_plB hp pgA)
    have rgB := Row.buts rgB b2 (not_plB hp pgB)
    have rF := Row.buts rF b2 (not_plB hp pF)
    refine (syncC_any w2 gF gA gB gd mb pl fs n ff hn rF rgA rgB hD.row hD.map hD.few).mono ?_
    rintro e w3 ⟨rfl, m3, b3⟩
    have hk := h.files.bd _ hmem
    exact ⟨rfl, hD.stored (f := { ff with kept := (ff.n : Int) }) m3 b3 (hD.files.own _ hmem) ⟨by show (0 : Int) ≤ (ff.n : Int); omega, Int.le_refl _, hk.2.2⟩ (fun p hp hne => hD.files.two hp hmem hne) (.inl hsm), b3.sub (fun k hk => by simp at hk; subst hk; exact mem_dblocks.2 (.inr (.inl rfl)))⟩
  have HC := hide HC
  have HFD := hide HFD
  clear h hp hfr
  go_enter Try.func37, Try.ntmps37
  go_wp2_with (first
    | ((with_reducible refine wl_box rfl 27 _ (ptr gd) [ptr gd] rfl rfl rfl ?_); intro gA wgA rgA pgA lgA bgA; have bX := bgA)
    | ((with_reducible refine wl_box rfl 9 _ (encStr n) [encStr n] rfl rfl rfl ?_); intro gB wgB rgB pgB lgB bgB; have bX0 := bX; have pgB := Nat.le_trans bX0.size pgB; have bX := bX.trans (bgB.mono bX.size); have rgA := Row.later rgA bgB)
    | (with_reducible refine wl_load rfl 27 _ gA 0 27 _ (ptr gd) rfl Try.isAgg27 rfl rgA rfl ?_)
    | (with_reducible refine wl_load rfl 9 _ gB 0 9 _ (encStr n) rfl Try.isAgg9 rfl rgB rfl ?_))
  refine (HFD.out wgB bX).mono ?_
  rintro en w4 ⟨rfl, b4⟩
  have rgA := Row.later rgA b4
  have rgB := Row.later rgB b4
  have cgA := rgA.cell (j := 0) rfl
  have cgB := rgB.cell (j := 0) rfl
  have bX := bX.trans (b4.mono bX.size)
  clear HFD b4 bgA lgA bgB lgB
  go_wp2_with (first
    | ((with_reducible refine wl_alloc rfl 137 _ [.slice none 0 0, .int .i64 0] rfl zFile rfl ?_); intro gF w5 rF pF lF bF; clear cgA; have rgA := Row.later rgA bF; clear cgB; have rgB := Row.later rgB bF; have pF := Nat.le_trans bX.size pF; have bX := bX.trans (bF.mono bX.size))
    | ((with_reducible refine wl_store_row rfl 137 (.tmp 5) (.tmp 11) gF 137 _ [.slice ff.A ff.n ff.c, .int .i64 ff.kept] rfl rfl rfl rF (szFile ff) rfl (one_file ff) ?_); intro w6 r6 o6; have rgA := rgA.only o6 (rne rgA rF (by decide)); have rgB := rgB.only o6 (rne rgB rF (by decide)); have bX := bX.trans (o6.below pF); have cgA := rgA.cell (j := 0) rfl; have cgB := rgB.cell (j := 0) rfl; have cF0 := r6.cell (j := 0) rfl))
  refine (HC.out w6 gA gB gF bX rgA pgA rgB pgB r6 pF).mono ?_
  rintro en w7 ⟨rfl, h7⟩
  go_wp2_with fail
  go_ret
  exact ⟨rfl, h7.from bX⟩

theorem DiskAt.dropped {w w' : World} {B gd mb : Nat} {pl : Value} {fs : Fs} {n : Nm} (h : DiskAt w B gd pl mb fs) (hm : MapAt w' mb (delE (ents fs) n)) (hB : Buts [mb] w w') : DiskAt w' B gd pl mb (delF fs n) :=
  h.turned (by show MapAt w' mb (ents (delF fs n)); rw [ents_del]; exact hm) hB (h.files.del n) (Nat.le_trans (List.length_filter_le _ _) h.few)
set_option maxRecDepth 100000 in
theorem remove_any (w : World) (B gd mb : Nat) (pl : Value) (on : Bool) (fuse : Int) (fs : Fs) (n : Nm) (h : DiskAt w B gd pl mb fs) (hp : PlAt w pl on fuse) (hf : isI fuse) :
    Calls Try.prog 43 #[ptr gd, encStr n] w fun e w' => e = .returned (.int .i64 (dE ((findR fs n [] on).2) on fuse)) ∧ Acted w w' B gd pl mb ((findR fs n [] on).2) on fuse fs (delF fs n) := by
  obtain ⟨i0, hi, hz, hs, hb⟩ := str_info
  have HFD := fun (w1 : World) (b : Below w.heap.size w w1) => find_one w1 gd mb pl on fuse fs n (Row.later h.row b) (hp.later b) (h.map.later b)
  obtain ⟨ff, fe, hfr⟩ : ∃ ff fe, findR fs n [] on = (ff, fe) := ⟨_, _, rfl⟩
  rw [hfr] at HFD ⊢
  have HC : ∀ (w1 : World) (gA gB gF : Nat) (b : Below w.heap.size w w1) (rgA : Row w1 27 gA [ptr gd]) (pgA : w.heap.size ≤ gA) (rgB : Row w1 9 gB [encStr n]) (pgB : w.heap.size ≤ gB) (rF : BoxF w1 gF ff) (pF : w.heap.size ≤ gF), Calls Try.prog 91 #[ptr gd, .int .i64 fe, .func (.func 100) #[] #[ptr gA, ptr gB]] w1 fun en w' => en = .returned (.int .i64 (dE fe on fuse)) ∧ Acted w1 w' B gd pl mb fe on fuse fs (delF fs n) := by
    intro w1 gA gB gF b rgA pgA rgB pgB rF pF
    refine change_all w1 B gd mb pl _ _ _ on fuse fs _ (h.later b) (hp.later b) hf Try.call100 (fun he w2 hD b2 => ?_)
    subst he
    obtain ⟨hat, hlen⟩ := findR_ok hfr
    have hn := hlen n (by simp)
    have hmem := atF_mem hat
    have hsm : (atF fs n).isSome = true := by rw [hat]; rfl
    have rgA := Row.buts rgA b2 (not_plB hp pgA)
    have rgB := Row.buts rgB b2 (not_plB hp pgB)
    have rF := Row.buts rF b2 (not_plB hp pF)
    refine (removeC_any w2 gA gB gd mb pl fs n hn rgA rgB hD.row hD.map).mono ?_
    rintro e w3 ⟨rfl, m3, b3⟩
    exact ⟨rfl, hD.dropped m3 b3, b3.sub (fun k hk => by simp at hk; subst hk; exact mem_dblocks.2 (.inr (.inl rfl)))⟩
  have HC := hide HC
  have HFD := hide HFD
  clear h hp hfr
  go_enter Try.func43, Try.ntmps43
  go_wp2_with (first
    | ((with_reducible refine wl_box rfl 27 _ (ptr gd) [ptr gd] rfl rfl rfl ?_); intro gA wgA rgA pgA lgA bgA; have bX := bgA)
    | ((with_reducible refine wl_box rfl 9 _ (encStr n) [encStr n] rfl rfl rfl ?_); intro gB wgB rgB pgB lgB bgB; have bX0 := bX; have pgB := Nat.le_trans bX0.size pgB; have bX := bX.trans (bgB.mono bX.size); have rgA := Row.later rgA bgB)
    | (with_reducible refine wl_load rfl 27 _ gA 0 27 _ (ptr gd) rfl Try.isAgg27 rfl rgA rfl ?_)
    | (with_reducible refine wl_load rfl 9 _ gB 0 9 _ (encStr n) rfl Try.isAgg9 rfl rgB rfl ?_))
  refine (HFD.out wgB bX).mono ?_
  rintro en w4 ⟨rfl, b4⟩
  have rgA := Row.later rgA b4
  have rgB := Row.later rgB b4
  have cgA := rgA.cell (j := 0) rfl
  have cgB := rgB.cell (j := 0) rfl
  have bX := bX.trans (b4.mono bX.size)
  clear HFD b4 bgA lgA bgB lgB
  go_wp2_with (first
    | ((with_reducible refine wl_alloc rfl 137 _ [.slice none 0 0, .int .i64 0] rfl zFile rfl ?_); intro gF w5 rF pF lF bF; clear cgA; have rgA := Row.later rgA bF; clear cgB; have rgB := Row.later rgB bF; have pF := Nat.le_trans bX.size pF; have bX := bX.trans (bF.mono bX.size))
    | ((with_reducible refine wl_store_row rfl 137 (.tmp 5) (.tmp 11) gF 137 _ [.slice ff.A ff.n ff.c, .int .i64 ff.kept] rfl rfl rfl rF (szFile ff) rfl (one_file ff) ?_); intro w6 r6 o6; have rgA := rgA.only o6 (rne rgA rF (by decide)); have rgB := rgB.only o6 (rne rgB rF (by decide)); have bX := bX.trans (o6.below pF); have cgA := rgA.cell (j := 0) rfl; have cgB := rgB.cell (j := 0) rfl; have cF0 := r6.cell (j := 0) rfl))
  refine (HC.out w6 gA gB gF bX rgA pgA rgB pgB r6 pF).mono ?_
  rintro en w7 ⟨rfl, h7⟩
  go_wp2_with fail
  go_ret
  exact ⟨rfl, h7.from bX⟩

set_option maxRecDepth 100000 in
theorem rename_any (w : World) (B gd mb : Nat) (pl : Value) (on : Bool) (fuse : Int) (fs : Fs) (n n2 : Nm) (h : DiskAt w B gd pl mb fs) (hp : PlAt w pl on fuse) (hf : isI fuse) :
    Calls Try.prog 42 #[ptr gd, encStr n, encStr n2] w fun e w' => e = .returned (.int .i64 (dE ((findR fs n [n2] on).2) on fuse)) ∧ Acted w w' B gd pl mb ((findR fs n [n2] on).2) on fuse fs (putF (delF fs n) n2 (findR fs n [n2] on).1) := by
  obtain ⟨i0, hi, hz, hs, hb⟩ := str_info
  have HFD := fun (w1 : World) (b : Below w.heap.size w w1) (A : Option Addr) (c : Nat) (hN : NmsAt w1 A 1 [n2]) (hA : ∀ b o, A = some ⟨b, o, none⟩ → b < w1.heap.size) => find_two w1 gd mb pl on fuse fs n n2 A c hN hA (Row.later h.row b) (hp.later b) (h.map.later b)
  obtain ⟨ff, fe, hfr⟩ : ∃ ff fe, findR fs n [n2] on = (ff, fe) := ⟨_, _, rfl⟩
  rw [hfr] at HFD ⊢
  have HC : ∀ (w1 : World) (gA gB gT gF : Nat) (b : Below w.heap.size w w1) (rgA : Row w1 27 gA [ptr gd]) (pgA : w.heap.size ≤ gA) (rgB : Row w1 9 gB [encStr n]) (pgB : w.heap.size ≤ gB) (rgT : Row w1 9 gT [encStr n2]) (pgT : w.heap.size ≤ gT) (rF : BoxF w1 gF ff) (pF : w.heap.size ≤ gF), Calls Try.prog 91 #[ptr gd, .int .i64 fe, .func (.func 99) #[] #[ptr gA, ptr gB, ptr gF, ptr gT]] w1 fun en w' => en = .returned (.int .i64 (dE fe on fuse)) ∧ Acted w1 w' B gd pl mb fe on fuse fs (putF (delF fs n) n2 ff) := by
    intro w1 gA gB gT gF b rgA pgA rgB pgB rgT pgT rF pF
    refine change_all w1 B gd mb pl _ _ _ on fuse fs _ (h.later b) (hp.later b) hf Try.call99 (fun he w2 hD b2 => ?_)
    subst he
    obtain ⟨hat, hlen⟩ := findR_ok hfr
    have hn := hlen n (by simp)
    have hmem := atF_mem hat
    have hsm : (atF fs n).isSome = true := by rw [hat]; rfl
    have rgA := Row.buts rgA b2 (not_plB hp pgA)
    have rgB := Row.buts rgB b2 (not_plB hp pgB)
    have rgT := Row.buts rgT b2 (not_plB hp pgT)
    have rF := Row.buts rF b2 (not_plB hp pF)
    refine (renameC_any w2 gA gB gF gT gd mb pl fs n n2 ff hn (hlen n2 (by simp)) rgA rgB rF rgT hD.row hD.map hD.few).mono ?_
    rintro e w3 ⟨rfl, m3, b3⟩
    have hdl : (delF fs n).length < fs.length := List.length_filter_lt_length_iff_exists.2 ⟨_, hmem, by simp⟩
    have hpl := put_len (delF fs n) n2 ff
    have hfew := hD.few
    refine ⟨rfl, hD.turned (by show MapAt w3 mb (ents (putF (delF fs n) n2 ff)); rw [ents_put, ents_del]; exact m3) b3 ((hD.files.del n).put (hD.files.own _ hmem) (hD.files.bd _ hmem) (fun p hp _ => ?_)) (by omega), b3.sub (fun k hk => by simp at hk; subst hk; exact mem_dblocks.2 (.inr (.inl rfl)))⟩
    have hp2 := List.mem_filter.1 hp
    exact hD.files.two hp2.1 hmem (by simpa using hp2.2)
  have HC := hide HC
  have HFD := hide HFD
  clear h hp hfr
  go_enter Try.func42, Try.ntmps42
  go_wp2_with (first
    | ((with_reducible refine wl_box rfl 27 _ (ptr gd) [ptr gd] rfl rfl rfl ?_); intro gA wgA rgA pgA lgA bgA; have bX := bgA)
    | ((with_reducible refine wl_box rfl 9 _ (encStr n) [encStr n] rfl rfl rfl ?_); intro gB wgB rgB pgB lgB bgB; have bX0 := bX; have pgB := Nat.le_trans bX0.size pgB; have bX := bX.trans (bgB.mono bX.size); have rgA := Row.later rgA bgB)
    | ((with_reducible refine wl_box rfl 9 _ (encStr n2) [encStr n2] rfl rfl rfl ?_); intro gT wgT rgT pgT lgT bgT; have bX0 := bX; have pgT := Nat.le_trans bX0.size pgT; have bX := bX.trans (bgT.mono bX.size); have rgA := Row.later rgA bgT; have rgB := Row.later rgB bgT)
    | (with_reducible refine wl_load rfl 27 _ gA 0 27 _ (ptr gd) rfl Try.isAgg27 rfl rgA rfl ?_)
    | (with_reducible refine wl_load rfl 9 _ gB 0 9 _ (encStr n) rfl Try.isAgg9 rfl rgB rfl ?_)
    | (with_reducible refine wl_load rfl 9 _ gT 0 9 _ (encStr n2) rfl Try.isAgg9 rfl rgT rfl ?_)
    | ((with_reducible refine wl_build1 rfl 43 (.tmp 12) rfl 9 i0 (.string ByteArray.empty) (encStr n2) Try.underlying43 hi hz hs rfl rfl rfl ?_); intro g3 w3 r3 p3 l3 b3; have bX := bX.trans (b3.mono bX.size); have rgA := Row.later rgA b3; have rgB := Row.later rgB b3; have rgT := Row.later rgT b3))
  refine (HFD.out w3 bX (some ⟨g3, 0, none⟩) 1 (row_nms r3) (fun b o e => by cases e; exact l3)).mono ?_
  rintro en w4 ⟨rfl, b4⟩
  have rgA := Row.later rgA b4
  have rgB := Row.later rgB b4
  have rgT := Row.later rgT b4
  have cgA := rgA.cell (j := 0) rfl
  have cgB := rgB.cell (j := 0) rfl
  have cgT := rgT.cell (j := 0) rfl
  have bX := bX.trans (b4.mono bX.size)
  clear HFD b4 r3 l3 p3 b3 bgA lgA bgB lgB bgT lgT
  go_wp2_with (first
    | ((with_reducible refine wl_alloc rfl 137 _ [.slice none 0 0, .int .i64 0] rfl zFile rfl ?_); intro gF w5 rF pF lF bF; clear cgA; have rgA := Row.later rgA bF; clear cgB; have rgB := Row.later rgB bF; clear cgT; have rgT := Row.later rgT bF; have pF := Nat.le_trans bX.size pF; have bX := bX.trans (bF.mono bX.size))
    | ((with_reducible refine wl_store_row rfl 137 (.tmp 7) (.tmp 15) gF 137 _ [.slice ff.A ff.n ff.c, .int .i64 ff.kept] rfl rfl rfl rF (szFile ff) rfl (one_file ff) ?_); intro w6 r6 o6; have rgA := rgA.only o6 (rne rgA rF (by decide)); have rgB := rgB.only o6 (rne rgB rF (by decide)); have rgT := rgT.only o6 (rne rgT rF (by decide)); have bX := bX.trans (o6.below pF); have cgA := rgA.cell (j := 0) rfl; have cgB := rgB.cell (j := 0) rfl; have cgT := rgT.cell (j := 0) rfl; have cF0 := r6.cell (j := 0) rfl))
  refine (HC.out w6 gA gB gT gF bX rgA pgA rgB pgB rgT pgT r6 pF).mono ?_
  rintro en w7 ⟨rfl, h7⟩
  go_wp2_with fail
  go_ret
  exact ⟨rfl, h7.from bX⟩

end Go.Proofs.Ytfijhfolanhifaa

/-
  The disk: Append, Read. Own work.
-/
namespace Go.Proofs.Ytfijhfolanhifaa
open Go.RowKit Go.Maps Go.ChangeMaps
/-- Behind an act, the files told by P. -/
def ActedP (w w' : World) (B gd : Nat) (pl : Value) (mb : Nat) (e0 : Int) (on : Bool) (fuse : Int) (fs : Fs) (P : Fs → Prop) : Prop :=
  ∃ fs', (if e0 = 0 ∧ actE on fuse = 0 then P fs' else fs' = fs) ∧ DiskAt w' B gd pl mb fs' ∧ PlAt w' pl (dOn e0 on fuse) (dFu e0 on fuse) ∧ Buts (plB pl ++ dblocks gd mb fs) w w' ∧ ∀ k ∈ dblocks gd mb fs', k ∈ dblocks gd mb fs ∨ w.heap.size ≤ k
theorem ActedP.from {w0 w w' : World} {B gd mb : Nat} {pl : Value} {e0 : Int} {on : Bool} {fuse : Int} {fs : Fs} {P : Fs → Prop} (h : ActedP w w' B gd pl mb e0 on fuse fs P) (hb : Below w0.heap.size w0 w) : ActedP w0 w' B gd pl mb e0 on fuse fs P := by
  obtain ⟨fs', h1, h2, h3, h4, h5⟩ := h
  exact ⟨fs', h1, h2, h3, (Buts.of hb _).trans h4, fun k hk => (h5 k hk).imp id fun q => Nat.le_trans hb.size q⟩
theorem Acted.toP {w w' : World} {B gd mb : Nat} {pl : Value} {e0 : Int} {on : Bool} {fuse : Int} {fs fs1 : Fs} (h : Acted w w' B gd pl mb e0 on fuse fs fs1) (hn : ∀ k ∈ dblocks gd mb fs1, k ∈ dblocks gd mb fs) : ActedP w w' B gd pl mb e0 on fuse fs (fun fs' => fs' = fs1) := by
  obtain ⟨h1, h2, h3⟩ := h
  refine ⟨_, ?_, h1, h2, h3, fun k hk => .inl ?_⟩
  · unfold dFs
    by_cases he : e0 = 0 <;> by_cases ha : actE on fuse = 0 <;> simp [he, ha]
  · unfold dFs at hk
    split at hk
    · split at hk
      · exact hn k hk
      · exact hk
    · exact hk
theorem change_allP (w : World) (B gd mb : Nat) (pl : Value) (F : FuncId) (caps : Array Value) (e0 : Int) (on : Bool) (fuse : Int) (fs : Fs) (P : Fs → Prop) (h : DiskAt w B gd pl mb fs) (hp : PlAt w pl on fuse) (hf : isI fuse) (hF : ∀ (xs : Array Value) (w : World), (callFunc F xs).run Try.prog w = .ok (.enter F xs) w)
    (hc : e0 = 0 → ∀ w1, DiskAt w1 B gd pl mb fs → Buts (plB pl) w w1 → Calls Try.prog F caps w1 fun en w2 => en = .returned (.tuple #[]) ∧ ∃ fs1, P fs1 ∧ DiskAt w2 B gd pl mb fs1 ∧ Buts (dblocks gd mb fs) w1 w2 ∧ ∀ k ∈ dblocks gd mb fs1, k ∈ dblocks gd mb fs ∨ w1.heap.size ≤ k) :
    Calls Try.prog 91 #[ptr gd, .int .i64 e0, .func (.func F) #[] caps] w fun en w' => en = .returned (.int .i64 (dE e0 on fuse)) ∧ ActedP w w' B gd pl mb e0 on fuse fs P := by
  have hnb := pl_not hp h
  by_cases he : e0 = 0
  · subst he
    rcases actE_cases on fuse with ha | ha
    · refine (change_do w gd pl _ F caps on fuse h.row hp hf ha hF (fun w1 w2 => ∃ fs1, P fs1 ∧ DiskAt w2 B gd pl mb fs1 ∧ Buts (dblocks gd mb fs) w1 w2 ∧ ∀ k ∈ dblocks gd mb fs1, k ∈ dblocks gd mb fs ∨ w1.heap.size ≤ k) (fun w1 h1 h2 => hc rfl w1 (h.buts h2 hnb) h2)).mono ?_
      rintro en w' ⟨rfl, w1, h1, h2, fs1, h5, h3, h4, h6⟩
      refine ⟨by simp [dE, ha], fs1, by simpa [ha] using h5, h3, ?_, (h2.sub (fun k hk => List.mem_append.2 (.inl hk))).trans (h4.sub (fun k hk => List.mem_append.2 (.inr hk))), fun k hk => (h6 k hk).imp id fun q => Nat.le_trans h2.size q⟩
      simpa [dOn, dFu] using h1.buts h4 (fun k hk hk2 => hnb k hk2 hk)
    · refine (change_off w gd pl _ _ on fuse h.row hp hf ha).mono ?_
      rintro en w' ⟨rfl, h1, h2⟩
      exact ⟨by simp [dE, ha], fs, by simp [ha], h.buts h2 hnb, by simpa [dOn, dFu] using h1, h2.sub (fun k hk => List.mem_append.2 (.inl hk)), fun k hk => .inl hk⟩
  · refine (change_err w gd e0 _ he).mono ?_
    rintro en w' ⟨rfl, rfl⟩
    exact ⟨by simp [dE, he], fs, by simp [he], h, by simpa [dOn, dFu, he] using hp, Buts.refl _ _, fun k hk => .inl hk⟩
theorem owb_low {w : World} {b0 b1 e n : Nat} {v : Value} {xs : List Value} (h : w.ownsRow b1 e 1 v n xs) (hb : b0 ≤ b1) : w.ownsRow b0 e 1 v n xs :=
  ⟨h.1, h.2.imp id fun ⟨g, cap, cur, e, h1, h2⟩ => ⟨g, cap, cur, e, Nat.le_trans hb h1, h2⟩⟩
/-- Bytes that came in lie in no plug. -/
theorem bs_plB {w w2 : World} {pl : Value} {on : Bool} {fuse : Int} {A : Option Addr} {m : Nat} {ys : List Int} (hy : Bs w w.heap.size A m ys) (hp : PlAt w pl on fuse) (hb : Buts (plB pl) w w2) : Bs w2 w2.heap.size A m ys := by
  refine ⟨hy.1, fun h0 => ?_⟩
  obtain ⟨b, o, rfl, hlt, hc⟩ := hy.2 h0
  refine ⟨b, o, rfl, Nat.lt_of_lt_of_le hlt hb.size, fun j hj => ?_⟩
  have hn : b ∉ plB pl := by
    intro hk
    rcases hp with ⟨gp, rfl, hp⟩ | ⟨rfl, _⟩
    · simp [plB] at hk
      subst hk
      have h1 := hc 0 h0
      rw [cell_of_row w b (o + 0) _ _ (0, 0) (show w.heap[b]? = some (.cells #[.bool on, .int .i64 fuse] 129 (0, 0)) from hp)] at h1
      match o, h1 with
      | 0, h1 => simp at h1
      | 1, h1 => simp at h1
      | o + 2, h1 => simp at h1
    · simp [plB] at hk
  rw [← hc j hj]
  unfold World.cell?
  rw [hb.block b hlt hn]
/-- What Append refuses. -/
def appE (fe : Int) (k m : Nat) : Int := if fe = 0 then (if 1048576 < k + m then 10 else 0) else fe
set_option maxRecDepth 100000 in
set_option maxHeartbeats 1000000 in
theorem append_any (w : World) (B gd mb : Nat) (pl : Value) (on : Bool) (fuse : Int) (fs : Fs) (n : Nm) (A : Option Addr) (m c : Nat) (ys : List Int) (hB : B ≤ w.heap.size) (hy : Bs w w.heap.size A m ys) (hm : m ≤ 1000000000) (h : DiskAt w B gd pl mb fs) (hp : PlAt w pl on fuse) (hf : isI fuse) :
    Calls Try.prog 36 #[ptr gd, encStr n, .slice A m c] w fun e w' => e = .returned (.int .i64 (dE (appE (findR fs n [] on).2 (findR fs n [] on).1.n m) on fuse)) ∧
      ActedP w w' B gd pl mb (appE (findR fs n [] on).2 (findR fs n [] on).1.n m) on fuse fs (fun fs' => ∃ f' : FV, fs' = putF fs n f' ∧ f'.n = (findR fs n [] on).1.n + m ∧ f'.xs = (findR fs n [] on).1.xs ++ ys ∧ f'.kept = (findR fs n [] on).1.kept) := by
  have HFD := fun (w1 : World) (b : Below w.heap.size w w1) => find_one w1 gd mb pl on fuse fs n (Row.later h.row b) (hp.later b) (h.map.later b)
  obtain ⟨ff, fe, hfr⟩ : ∃ ff fe, findR fs n [] on = (ff, fe) := ⟨_, _, rfl⟩
  rw [hfr] at HFD ⊢
  have hcs : (fe = 0 ∧ ff.n ≤ 1048576 ∧ ((decide ((1048576 : Int) < (ff.n : Int) + (m : Int)) = true ∧ appE fe ff.n m = 10) ∨ (decide ((1048576 : Int) < (ff.n : Int) + (m : Int)) = false ∧ appE fe ff.n m = 0))) ∨ (decide (fe = 0) = false ∧ appE fe ff.n m = fe) := by
    by_cases he : fe = 0
    · subst he
      obtain ⟨hat, _⟩ := findR_ok hfr
      refine .inl ⟨rfl, (h.files.bd _ (atF_mem hat)).2.2, ?_⟩
      by_cases hq : 1048576 < ff.n + m
      · exact .inl ⟨by simp; omega, by simp [appE, hq]⟩
      · exact .inr ⟨by simp; omega, by simp [appE, hq]⟩
    · exact .inr ⟨by simp [he], by simp [appE, he]⟩
  have HC : ∀ (w1 : World) (gA gB gC gF : Nat) (b : Below w.heap.size w w1) (rA : BoxD w1 gA gd) (pA : w.heap.size ≤ gA) (rB : BoxS w1 gB n) (pB : w.heap.size ≤ gB) (rC : Row w1 35 gC [.slice A m c]) (pC : w.heap.size ≤ gC) (rF : BoxF w1 gF ff) (pF : w.heap.size ≤ gF),
      Calls Try.prog 91 #[ptr gd, .int .i64 (appE fe ff.n m), .func (.func 94) #[] #[ptr gF, ptr gC, ptr gA, ptr gB]] w1 fun en w' => en = .returned (.int .i64 (dE (appE fe ff.n m) on fuse)) ∧ ActedP w1 w' B gd pl mb (appE fe ff.n m) on fuse fs (fun fs' => ∃ f' : FV, fs' = putF fs n f' ∧ f'.n = ff.n + m ∧ f'.xs = ff.xs ++ ys ∧ f'.kept = ff.kept) := by
    intro w1 gA gB gC gF b rA pA rB pB rC pC rF pF
    refine change_allP w1 B gd mb pl _ _ _ on fuse fs _ (h.later b) (hp.later b) hf Try.call94 (fun he w2 hD b2 => ?_)
    have hfe : fe = 0 ∧ ff.n + m ≤ 1048576 := by
      unfold appE at he
      split at he
      · split at he
        · cases he
        · exact ⟨by assumption, by omega⟩
      · exact absurd he (by assumption)
    obtain ⟨rfl, hle⟩ := hfe
    obtain ⟨hat, hlen⟩ := findR_ok hfr
    have hn := hlen n (by simp)
    have hmem := atF_mem hat
    have hsm : (atF fs n).isSome = true := by rw [hat]; rfl
    have hB2 : B ≤ w2.heap.size := Nat.le_trans hB (Nat.le_trans b.size b2.size)
    refine (appendC_any w2 B gF gC gA gB gd mb pl fs n ff A m c ys hn hB2 (hD.files.own _ hmem) ?_ (by omega) (Row.buts rF b2 (not_plB hp pF)) (Row.buts rC b2 (not_plB hp pC)) (Row.buts rA b2 (not_plB hp pA)) (Row.buts rB b2 (not_plB hp pB)) hD.row hD.map hD.few).mono ?_
    · exact bs_plB (hy.later b) (hp.later b) b2
    · rintro e w3 ⟨rfl, f', hM, m3, b3⟩
      obtain ⟨e1, e2, e3, hof, hloc⟩ := hM
      have hk := h.files.bd _ hmem
      have hnew : ∀ k ∈ f'.bk, k ∈ ff.bk ∨ w2.heap.size ≤ k := fun k hk => by
        rcases hloc with e | e
        · exact .inl (by rw [FV.bk, ← e]; exact hk)
        · exact .inr (e k hk)
      have hS : ∀ p ∈ delF fs n, ∀ k ∈ p.2.bk, k ∉ mb :: ff.bk := fun p hp k hk1 hk2 => by
        have hp2 := List.mem_filter.1 hp
        rcases List.mem_cons.1 hk2 with e | hk2
        · subst e; exact owf_not_map (hD.files.own p hp2.1) hD.map hk1
        · exact hD.files.two hp2.1 hmem (by simpa using hp2.2) k hk1 hk2
      have hF3 : FilesAt w3 B (delF fs n) := (hD.files.del n).buts b3 hS
      have hdis : ∀ p ∈ delF fs n, p.1 ≠ n → ∀ k ∈ p.2.bk, k ∉ f'.bk := fun p hp _ k hk1 hk2 => by
        have hp2 := List.mem_filter.1 hp
        rcases hnew k hk2 with hk3 | hk3
        · exact hS p hp k hk1 (List.mem_cons_of_mem _ hk3)
        · have := (owf_lo (hD.files.own p hp2.1) k hk1).2.1
          omega
      have hput : putF (delF fs n) n f' = putF fs n f' := by
        unfold putF delF
        rw [List.filter_filter]
        simp
      refine ⟨rfl, putF fs n f', ⟨f', rfl, by rw [e1, hy.1], e2, e3⟩, ⟨Row.buts hD.row b3 ?_, hD.lo, ?_, ?_, Nat.le_trans (put_len' f' hsm) hD.few⟩, b3.sub ?_, ?_⟩
      · intro hk2
        rcases List.mem_cons.1 hk2 with e | hk2
        · exact hD.map.ne_row hD.row e.symm
        · exact owf_not_row (hD.files.own _ hmem) hD.row (by decide) hk2
      · show MapAt w3 mb (ents (putF fs n f'))
        rw [ents_put]
        exact m3
      · rw [← hput]
        exact hF3.put hof ⟨by rw [e3]; exact hk.1, by rw [e3, e1]; have : ff.kept ≤ (ff.n : Int) := hk.2.1; omega, by rw [e1, hy.1]; omega⟩ hdis
      · intro k hk2
        rcases List.mem_cons.1 hk2 with e | hk2
        · exact mem_dblocks.2 (.inr (.inl e))
        · exact mem_dblocks.2 (.inr (.inr ⟨_, hmem, hk2⟩))
      · intro k hk2
        rcases mem_dblocks.1 hk2 with e | e | ⟨p, hp2, hk3⟩
        · exact .inl (mem_dblocks.2 (.inl e))
        · exact .inl (mem_dblocks.2 (.inr (.inl e)))
        · rcases mem_put hp2 with rfl | ⟨hp2, _⟩
          · exact (hnew k hk3).imp (fun q => mem_dblocks.2 (.inr (.inr ⟨_, hmem, q⟩))) id
          · exact .inl (mem_dblocks.2 (.inr (.inr ⟨p, hp2, hk3⟩)))
  have HC := hide HC
  have HFD := hide HFD
  clear h hp hfr hy
  generalize appE fe ff.n m = e0 at *
  rcases hcs with ⟨rfl, hle, ⟨hd, rfl⟩ | ⟨hd, rfl⟩⟩ | ⟨hd, he⟩
  · have hw : wrap64 ((ff.n : Int) + (m : Int)) = (ff.n : Int) + (m : Int) := by unfold wrap64; omega
    go_enter Try.func36, Try.ntmps36
    go_wp2_with (first
      | ((with_reducible refine wl_box rfl 27 _ (ptr gd) [ptr gd] rfl rfl rfl ?_); intro gA wgA rgA pgA lgA bgA; have bX := bgA)
      | ((with_reducible refine wl_box rfl 9 _ (encStr n) [encStr n] rfl rfl rfl ?_); intro gB wgB rgB pgB lgB bgB; have bX0 := bX; have pgB := Nat.le_trans bX0.size pgB; have bX := bX.trans (bgB.mono bX.size); have rgA := Row.later rgA bgB)
      | ((with_reducible refine wl_box rfl 35 _ (.slice A m c) [.slice A m c] rfl rfl rfl ?_); intro gC wgC rgC pgC lgC bgC; have bX0 := bX; have pgC := Nat.le_trans bX0.size pgC; have bX := bX.trans (bgC.mono bX.size); have rgA := Row.later rgA bgC; have rgB := Row.later rgB bgC)
      | (with_reducible refine wl_load rfl 27 _ gA 0 27 _ (ptr gd) rfl Try.isAgg27 rfl rgA rfl ?_)
      | (with_reducible refine wl_load rfl 9 _ gB 0 9 _ (encStr n) rfl Try.isAgg9 rfl rgB rfl ?_)
      | (with_reducible refine wl_load rfl 35 _ gC 0 35 _ (.slice A m c) rfl Try.isAgg35 rfl rgC rfl ?_))
    refine (HFD.out wgC bX).mono ?_
    rintro en w4 ⟨rfl, b4⟩
    have rgA := Row.later rgA b4
    have rgB := Row.later rgB b4
    have rgC := Row.later rgC b4
    have cgA := rgA.cell (j := 0) rfl
    have cgB := rgB.cell (j := 0) rfl
    have cgC := rgC.cell (j := 0) rfl
    have bX := bX.trans (b4.mono bX.size)
    clear HFD b4 bgA lgA bgB lgB bgC lgC
    go_wp2_with (first
      | ((with_reducible refine wl_alloc rfl 137 _ [.slice none 0 0, .int .i64 0] rfl zFile rfl ?_); intro gF w5 rF pF lF bF; clear cgA; have rgA := Row.later rgA bF; clear cgB; have rgB := Row.later rgB bF; clear cgC; have rgC := Row.later rgC bF; have pF := Nat.le_trans bX.size pF; have bX := bX.trans (bF.mono bX.size))
      | ((with_reducible refine wl_store_row rfl 137 (.tmp 7) (.tmp 13) gF 137 _ [.slice ff.A ff.n ff.c, .int .i64 ff.kept] rfl rfl rfl rF (szFile ff) rfl (one_file ff) ?_); intro w6 r6 o6; have rgA := rgA.only o6 (rne rgA rF (by decide)); have rgB := rgB.only o6 (rne rgB rF (by decide)); have rgC := rgC.only o6 (rne rgC rF (by decide)); have bX := bX.trans (o6.below pF); have cgA := rgA.cell (j := 0) rfl; have cgB := rgB.cell (j := 0) rfl; have cgC := rgC.cell (j := 0) rfl; have cF0 := r6.cell (j := 0) rfl))
    refine (HC.out w6 gA gB gC gF bX rgA pgA rgB pgB rgC pgC r6 pF).mono ?_
    rintro en w7 ⟨rfl, h7⟩
    go_wp2_with fail
    go_ret
    exact ⟨rfl, h7.from bX⟩
  · have hw : wrap64 ((ff.n : Int) + (m : Int)) = (ff.n : Int) + (m : Int) := by unfold wrap64; omega
    go_enter Try.func36, Try.ntmps36
    go_wp2_with (first
      | ((with_reducible refine wl_box rfl 27 _ (ptr gd) [ptr gd] rfl rfl rfl ?_); intro gA wgA rgA pgA lgA bgA; have bX := bgA)
      | ((with_reducible refine wl_box rfl 9 _ (encStr n) [encStr n] rfl rfl rfl ?_); intro gB wgB rgB pgB lgB bgB; have bX0 := bX; have pgB := Nat.le_trans bX0.size pgB; have bX := bX.trans (bgB.mono bX.size); have rgA := Row.later rgA bgB)
      | ((with_reducible refine wl_box rfl 35 _ (.slice A m c) [.slice A m c] rfl rfl rfl ?_); intro gC wgC rgC pgC lgC bgC; have bX0 := bX; have pgC := Nat.le_trans bX0.size pgC; have bX := bX.trans (bgC.mono bX.size); have rgA := Row.later rgA bgC; have rgB := Row.later rgB bgC)
      | (with_reducible refine wl_load rfl 27 _ gA 0 27 _ (ptr gd) rfl Try.isAgg27 rfl rgA rfl ?_)
      | (with_reducible refine wl_load rfl 9 _ gB 0 9 _ (encStr n) rfl Try.isAgg9 rfl rgB rfl ?_)
      | (with_reducible refine wl_load rfl 35 _ gC 0 35 _ (.slice A m c) rfl Try.isAgg35 rfl rgC rfl ?_))
    refine (HFD.out wgC bX).mono ?_
    rintro en w4 ⟨rfl, b4⟩
    have rgA := Row.later rgA b4
    have rgB := Row.later rgB b4
    have rgC := Row.later rgC b4
    have cgA := rgA.cell (j := 0) rfl
    have cgB := rgB.cell (j := 0) rfl
    have cgC := rgC.cell (j := 0) rfl
    have bX := bX.trans (b4.mono bX.size)
    clear HFD b4 bgA lgA bgB lgB bgC lgC
    go_wp2_with (first
      | ((with_reducible refine wl_alloc rfl 137 _ [.slice none 0 0, .int .i64 0] rfl zFile rfl ?_); intro gF w5 rF pF lF bF; clear cgA; have rgA := Row.later rgA bF; clear cgB; have rgB := Row.later rgB bF; clear cgC; have rgC := Row.later rgC bF; have pF := Nat.le_trans bX.size pF; have bX := bX.trans (bF.mono bX.size))
      | ((with_reducible refine wl_store_row rfl 137 (.tmp 7) (.tmp 13) gF 137 _ [.slice ff.A ff.n ff.c, .int .i64 ff.kept] rfl rfl rfl rF (szFile ff) rfl (one_file ff) ?_); intro w6 r6 o6; have rgA := rgA.only o6 (rne rgA rF (by decide)); have rgB := rgB.only o6 (rne rgB rF (by decide)); have rgC := rgC.only o6 (rne rgC rF (by decide)); have bX := bX.trans (o6.below pF); have cgA := rgA.cell (j := 0) rfl; have cgB := rgB.cell (j := 0) rfl; have cgC := rgC.cell (j := 0) rfl; have cF0 := r6.cell (j := 0) rfl))
    refine (HC.out w6 gA gB gC gF bX rgA pgA rgB pgB rgC pgC r6 pF).mono ?_
    rintro en w7 ⟨rfl, h7⟩
    go_wp2_with fail
    go_ret
    exact ⟨rfl, h7.from bX⟩
  · subst he
    have hne : ¬ e0 = 0 := by simpa using hd
    have hb0 : (e0 == 0) = false := by simpa using hne
    go_enter Try.func36, Try.ntmps36
    go_wp2_with (first
      | ((with_reducible refine wl_box rfl 27 _ (ptr gd) [ptr gd] rfl rfl rfl ?_); intro gA wgA rgA pgA lgA bgA; have bX := bgA)
      | ((with_reducible refine wl_box rfl 9 _ (encStr n) [encStr n] rfl rfl rfl ?_); intro gB wgB rgB pgB lgB bgB; have bX0 := bX; have pgB := Nat.le_trans bX0.size pgB; have bX := bX.trans (bgB.mono bX.size); have rgA := Row.later rgA bgB)
      | ((with_reducible refine wl_box rfl 35 _ (.slice A m c) [.slice A m c] rfl rfl rfl ?_); intro gC wgC rgC pgC lgC bgC; have bX0 := bX; have pgC := Nat.le_trans bX0.size pgC; have bX := bX.trans (bgC.mono bX.size); have rgA := Row.later rgA bgC; have rgB := Row.later rgB bgC)
      | (with_reducible refine wl_load rfl 27 _ gA 0 27 _ (ptr gd) rfl Try.isAgg27 rfl rgA rfl ?_)
      | (with_reducible refine wl_load rfl 9 _ gB 0 9 _ (encStr n) rfl Try.isAgg9 rfl rgB rfl ?_)
      | (with_reducible refine wl_load rfl 35 _ gC 0 35 _ (.slice A m c) rfl Try.isAgg35 rfl rgC rfl ?_))
    refine (HFD.out wgC bX).mono ?_
    rintro en w4 ⟨rfl, b4⟩
    have rgA := Row.later rgA b4
    have rgB := Row.later rgB b4
    have rgC := Row.later rgC b4
    have cgA := rgA.cell (j := 0) rfl
    have cgB := rgB.cell (j := 0) rfl
    have cgC := rgC.cell (j := 0) rfl
    have bX := bX.trans (b4.mono bX.size)
    clear HFD b4 bgA lgA bgB lgB bgC lgC
    go_wp2_with (first
      | ((with_reducible refine wl_alloc rfl 137 _ [.slice none 0 0, .int .i64 0] rfl zFile rfl ?_); intro gF w5 rF pF lF bF; clear cgA; have rgA := Row.later rgA bF; clear cgB; have rgB := Row.later rgB bF; clear cgC; have rgC := Row.later rgC bF; have pF := Nat.le_trans bX.size pF; have bX := bX.trans (bF.mono bX.size))
      | ((with_reducible refine wl_store_row rfl 137 (.tmp 7) (.tmp 13) gF 137 _ [.slice ff.A ff.n ff.c, .int .i64 ff.kept] rfl rfl rfl rF (szFile ff) rfl (one_file ff) ?_); intro w6 r6 o6; have rgA := rgA.only o6 (rne rgA rF (by decide)); have rgB := rgB.only o6 (rne rgB rF (by decide)); have rgC := rgC.only o6 (rne rgC rF (by decide)); have bX := bX.trans (o6.below pF); have cgA := rgA.cell (j := 0) rfl; have cgB := rgB.cell (j := 0) rfl; have cgC := rgC.cell (j := 0) rfl; have cF0 := r6.cell (j := 0) rfl))
    refine (HC.out w6 gA gB gC gF bX rgA pgA rgB pgB rgC pgC r6 pF).mono ?_
    rintro en w7 ⟨rfl, h7⟩
    go_wp2_with fail
    go_ret
    exact ⟨rfl, h7.from bX⟩
set_option maxRecDepth 100000 in
theorem read_any (w : World) (B gd mb : Nat) (pl : Value) (on : Bool) (fuse : Int) (fs : Fs) (n : Nm) (h : DiskAt w B gd pl mb fs) (hp : PlAt w pl on fuse) :
    Calls Try.prog 39 #[ptr gd, encStr n] w fun e w' => ∃ A' c', e = .returned (.tuple #[.slice A' (findR fs n [] on).1.n c', .int .i64 (findR fs n [] on).2]) ∧ w'.ownsRow w.heap.size 5 1 (.slice A' (findR fs n [] on).1.n c') (findR fs n [] on).1.n (bv (findR fs n [] on).1.xs) ∧ Below w.heap.size w w' := by
  have HFD := find_one w gd mb pl on fuse fs n h.row hp h.map
  obtain ⟨ff, fe, hfr⟩ : ∃ ff fe, findR fs n [] on = (ff, fe) := ⟨_, _, rfl⟩
  rw [hfr] at HFD ⊢
  have hbs : Bs w w.heap.size ff.A ff.n ff.xs ∧ ff.n ≤ 140737488355328 := by
    by_cases he : fe = 0
    · subst he
      obtain ⟨hat, _⟩ := findR_ok hfr
      have hm := atF_mem hat
      exact ⟨owf_bs (h.files.own _ hm), Nat.le_trans (h.files.bd _ hm).2.2 (by decide)⟩
    · have := findR_err hfr he
      rw [this]
      exact ⟨Bs.nil_, by decide⟩
  have HFD := hide HFD
  clear h hp hfr
  go_enter Try.func39, Try.ntmps39
  go_wp2_with fail
  refine HFD.out.mono ?_
  rintro en w4 ⟨rfl, b4⟩
  clear HFD
  go_wp2_with (first
    | ((with_reducible refine wl_alloc rfl 137 _ [.slice none 0 0, .int .i64 0] rfl zFile rfl ?_); intro gF w5 rF pF lF bF)
    | ((with_reducible refine wl_store_row rfl 137 (.tmp 6) (.tmp 12) gF 137 _ [.slice ff.A ff.n ff.c, .int .i64 ff.kept] rfl rfl rfl rF (szFile ff) rfl (one_file ff) ?_); intro w6 r6 o6; have cF0 := r6.cell (j := 0) rfl))
  have b6 : Below w.heap.size w w6 := (b4.trans (bF.mono b4.size)).trans (o6.below (Nat.le_trans b4.size pF))
  refine (cloneF ff.A ff.n ff.c ff.xs w6 (hbs.1.later b6) hbs.2).mono ?_
  rintro en w7 ⟨A7, c7, rfl, own7, b7⟩
  go_wp2_with fail
  go_ret2
  exact ⟨A7, c7, rfl, owb_low own7 b6.size, b6.trans (b7.mono b6.size)⟩
end Go.Proofs.Ytfijhfolanhifaa

/-
  slices.Sort at []string, in the numbers of this seat (made by sortlay.sh).
-/
namespace Go.Proofs.Ytfijhfolanhifaa
open Go.Shelf
def sortS_ren : Go.Shelf.Ren := ⟨fun | 190 => 83 | 125 => 115 | 258 => 114 | 128 => 125 | 129 => 126 | 302 => 116 | 303 => 117 | 304 => 118 | 305 => 119 | 306 => 120 | 307 => 121 | 308 => 122 | 309 => 123 | 310 => 124 | 333 => 127 | 329 => 128 | 330 => 129 | 334 => 130 | 335 => 131 | 336 => 132 | 344 => 133 | n => n, fun | 31 => 43 | 9 => 9 | 3 => 3 | 46 => 171 | 0 => 0 | 51 => 182 | 53 => 50 | 4 => 4 | 183 => 174 | 182 => 173 | 131 => 179 | 5 => 5 | 218 => 184 | 222 => 188 | 228 => 190 | 229 => 90 | n => n, fun | n => n⟩
theorem sortS : Go.Proofs.Lays.n190 Try.prog sortS_ren := {
  mixed := by kernel_rfl
  f125 := Try.func115.trans (congrArg some (by kernel_rfl))
  f128 := Try.func125.trans (congrArg some (by kernel_rfl))
  f129 := Try.func126.trans (congrArg some (by kernel_rfl))
  f190 := Try.func83.trans (congrArg some (by kernel_rfl))
  f258 := Try.func114.trans (congrArg some (by kernel_rfl))
  f302 := Try.func116.trans (congrArg some (by kernel_rfl))
  f303 := Try.func117.trans (congrArg some (by kernel_rfl))
  f304 := Try.func118.trans (congrArg some (by kernel_rfl))
  f305 := Try.func119.trans (congrArg some (by kernel_rfl))
  f306 := Try.func120.trans (congrArg some (by kernel_rfl))
  f307 := Try.func121.trans (congrArg some (by kernel_rfl))
  f308 := Try.func122.trans (congrArg some (by kernel_rfl))
  f309 := Try.func123.trans (congrArg some (by kernel_rfl))
  f310 := Try.func124.trans (congrArg some (by kernel_rfl))
  f329 := Try.func128.trans (congrArg some (by kernel_rfl))
  f330 := Try.func129.trans (congrArg some (by kernel_rfl))
  f333 := Try.func127.trans (congrArg some (by kernel_rfl))
  f334 := Try.func130.trans (congrArg some (by kernel_rfl))
  f335 := Try.func131.trans (congrArg some (by kernel_rfl))
  f336 := Try.func132.trans (congrArg some (by kernel_rfl))
  f344 := Try.func133.trans (congrArg some (by kernel_rfl))
  t0 := Try.underlying0
  a0 := Try.isAgg0
  z0 := Try.sizeOf0
  v0 := Try.zeroValue0
  t3 := Try.underlying3
  a3 := Try.isAgg3
  z3 := Try.sizeOf3
  v3 := Try.zeroValue3
  t4 := Try.underlying4
  a4 := Try.isAgg4
  z4 := Try.sizeOf4
  v4 := Try.zeroValue4
  t5 := Try.underlying5
  a5 := Try.isAgg5
  z5 := Try.sizeOf5
  v5 := Try.zeroValue5
  t9 := Try.underlying9
  a9 := Try.isAgg9
  z9 := Try.sizeOf9
  v9 := Try.zeroValue9
  t31 := Try.underlying43
  a31 := Try.isAgg43
  z31 := Try.sizeOf43
  v31 := Try.zeroValue43
  t46 := Try.underlying171
  a46 := Try.isAgg171
  z46 := Try.sizeOf171
  v46 := Try.zeroValue171
  t51 := Try.underlying182
  a51 := Try.isAgg182
  z51 := Try.sizeOf182
  v51 := Try.zeroValue182
  t53 := Try.underlying50
  a53 := Try.isAgg50
  z53 := Try.sizeOf50
  v53 := Try.zeroValue50
  t131 := Try.underlying179
  a131 := Try.isAgg179
  z131 := Try.sizeOf179
  v131 := Try.zeroValue179
  t182 := Try.underlying173
  a182 := Try.isAgg173
  z182 := Try.sizeOf173
  v182 := Try.zeroValue173
  t183 := Try.underlying174
  a183 := Try.isAgg174
  z183 := Try.sizeOf174
  v183 := Try.zeroValue174
  t218 := Try.underlying184
  a218 := Try.isAgg184
  z218 := Try.sizeOf184
  v218 := Try.zeroValue184
  t222 := Try.underlying188
  a222 := Try.isAgg188
  z222 := Try.sizeOf188
  v222 := Try.zeroValue188
  t228 := Try.underlying190
  a228 := Try.isAgg190
  z228 := Try.sizeOf190
  v228 := Try.zeroValue190
  t229 := Try.underlying90
  a229 := Try.isAgg90
  z229 := Try.sizeOf90
  v229 := Try.zeroValue90 }
end Go.Proofs.Ytfijhfolanhifaa

/-
  The disk: New; the library's sort of no names at all. Own work.
-/
namespace Go.Proofs.Ytfijhfolanhifaa
open Go.RowKit Go.Maps Go.ChangeMaps
set_option maxRecDepth 100000 in
theorem insNil (w : World) : Calls Try.prog 116 #[.slice none 0 0, .int .i64 0, .int .i64 0] w fun e w' => e = .returned (.tuple #[]) ∧ w = w' := by
  go_enter Try.func116, Try.ntmps116
  go_wp2_with fail
  go_loopw [6] (fun iv wr => iv = .int .i64 1 ∧ wr = w) (fun _ _ => 0)
  case atStart => exact ⟨rfl, rfl⟩
  case round =>
    obtain ⟨rfl, rfl⟩ := hrel
    go_wp2_with fail
    go_end0
    exact ⟨rfl, rfl⟩
set_option maxRecDepth 100000 in
theorem pdqNil (w : World) (v : Int) : Calls Try.prog 114 #[.slice none 0 0, .int .i64 0, .int .i64 0, .int .i64 v] w fun e w' => e = .returned (.tuple #[]) ∧ w = w' := by
  go_enter Try.func114, Try.ntmps114
  go_wp2_with fail
  go_loopw [1, 2] (fun a1 a2 wr => a1 = .int .i64 0 ∧ a2 = .int .i64 0 ∧ wr = w) (fun _ _ _ => 0)
  case atStart => exact ⟨rfl, rfl, rfl⟩
  case round =>
    obtain ⟨rfl, rfl, rfl⟩ := hrel
    go_wp2_with fail
    refine (insNil _).mono ?_
    rintro e w1 ⟨rfl, rfl⟩
    go_wp2_with fail
    first | go_end0 | refine bodyPost_ret (results_none rfl _ _ _) rfl ?_
    exact ⟨rfl, rfl⟩
theorem lenNil (w : World) : Calls Try.prog 115 #[.int .u64 0] w fun e w' => e = .returned (.int .i64 0) ∧ w = w' :=
  (Any.bits_Len (P := Try.prog) (ρ := sortS_ren) { sortS with } 0 w (by decide) (by decide)).mono fun e w' h => ⟨h.1, h.2.symm⟩
set_option maxRecDepth 100000 in
theorem sortNil (w : World) : Calls Try.prog 83 #[.slice none 0 0] w fun e w' => e = .returned (.tuple #[]) ∧ w = w' := by
  go_enter Try.func83, Try.ntmps83
  go_wp2_with fail
  refine (lenNil w).mono ?_
  rintro e w1 ⟨rfl, rfl⟩
  go_wp2_with fail
  refine (pdqNil w _).mono ?_
  rintro e w1 ⟨rfl, rfl⟩
  go_wp2_with fail
  go_end0
  exact ⟨rfl, rfl⟩
/-- Names of one's own are sorted. -/
theorem sort_own (w : World) (B : Nat) (v : Value) (ss : List Nm) (h : w.ownsRow B 9 1 v ss.length (ss.map encStr)) (hl : ss.length < 4611686018427387904) :
    Calls Try.prog 83 #[v] w fun e w' => e = .returned (.tuple #[]) ∧ w'.ownsRow B 9 1 v ss.length ((ss.mergeSort leB).map encStr) ∧ w.grownBy w' v.ownBlock := by
  rcases h.2 with ⟨rfl, h0⟩ | ⟨g, cap, cur, rfl, hbase, hb, h1, h2, h3, h4⟩
  · refine (sortNil w).mono ?_
    rintro e w' ⟨rfl, rfl⟩
    obtain rfl : ss = [] := List.eq_nil_of_length_eq_zero h0
    exact ⟨rfl, ⟨by simp, .inl ⟨rfl, rfl⟩⟩, ⟨rfl, rfl, rfl, Nat.le_refl _, fun _ _ _ => rfl⟩⟩
  · refine (Any.slices_Sort_string (P := Try.prog) (ρ := sortS_ren) sortS g 0 cap ss w (holds_of_block hb (by simpa using h4)) (Array.getElem?_eq_some_iff.1 hb).1 hl).mono ?_
    rintro e w' ⟨rfl, n, os, rfl⟩
    exact ⟨rfl, ownsRow_sorted (by simp) hbase hb h1 h2 h3, grownBy_sorted _⟩
theorem new_any (w : World) (gP : Nat) (pa : Option Addr) (h : Row w 57 gP [.pointer pa]) : Calls Try.prog 20 #[ptr gP] w fun e w' => ∃ gd mb, e = .returned (ptr gd) ∧ DiskAt w' w.heap.size gd (.pointer pa) mb [] ∧ Below w.heap.size w w' := by
  have hb : ∀ mb, Try.prog.built 72 [(0, .pointer pa), (1, .map (some mb))] = some [Value.pointer pa, Value.map (some mb)].toArray := by intro mb; kernel_rfl
  go_enter Try.func20, Try.ntmps20
  go_wp2_with fail
  refine (shared_any w gP _ h).mono ?_
  rintro en w1 ⟨rfl, rfl⟩
  go_wp2_with (first
    | ((with_reducible refine wl_makeMap rfl rfl ?_); intro mb w2 m2 p2 b2)
    | ((with_reducible refine wl_build rfl 72 _ rfl _ ?hv _ (hb mb) ?hk); case hv => rfl)
    | ((with_reducible refine wl_box rfl 72 _ _ [.pointer pa, .map (some mb)] rfl rfl rfl ?_); intro gd w3 r3 p3 l3 b3))
  go_ret
  exact ⟨gd, mb, rfl, ⟨r3, ⟨Nat.le_trans b2.size p3, p2⟩, m2.later b3, FilesAt.nil _ _, by decide⟩, b2.trans (b3.mono b2.size)⟩
set_option maxRecDepth 100000 in
theorem new_nil (w : World) : Calls Try.prog 20 #[.pointer none] w fun e w' => ∃ gd mb, e = .returned (ptr gd) ∧ DiskAt w' w.heap.size gd (.pointer none) mb [] ∧ Below w.heap.size w w' := by
  have hb : ∀ mb, Try.prog.built 72 [(0, .pointer none), (1, .map (some mb))] = some [Value.pointer none, Value.map (some mb)].toArray := by intro mb; kernel_rfl
  go_enter Try.func20, Try.ntmps20
  go_wp2_with fail
  refine (shared_nil w).mono ?_
  rintro en w1 ⟨rfl, rfl⟩
  go_wp2_with (first
    | ((with_reducible refine wl_makeMap rfl rfl ?_); intro mb w2 m2 p2 b2)
    | ((with_reducible refine wl_build rfl 72 _ rfl _ ?hv _ (hb mb) ?hk); case hv => rfl)
    | ((with_reducible refine wl_box rfl 72 _ _ [.pointer none, .map (some mb)] rfl rfl rfl ?_); intro gd w3 r3 p3 l3 b3))
  go_ret
  exact ⟨gd, mb, rfl, ⟨r3, ⟨Nat.le_trans b2.size p3, p2⟩, m2.later b3, FilesAt.nil _ _, by decide⟩, b2.trans (b3.mono b2.size)⟩
end Go.Proofs.Ytfijhfolanhifaa

/-
  The disk: Names. Own work.
-/
namespace Go.Proofs.Ytfijhfolanhifaa
open Go.RowKit Go.Maps Go.ChangeMaps
theorem bb_lt : ∀ a b : List UInt8, bytesBefore a b = true → a < b
  | [], [], h => by simp [bytesBefore] at h
  | [], b :: s, _ => List.nil_lt_cons ..
  | a :: r, [], h => by simp [bytesBefore] at h
  | a :: r, b :: s, h => by
    simp only [bytesBefore, Bool.or_eq_true, Bool.and_eq_true, decide_eq_true_eq, beq_iff_eq] at h
    rw [List.cons_lt_cons_iff]
    rcases h with h | ⟨h1, h2⟩
    · exact .inl h
    · exact .inr ⟨h1, bb_lt r s h2⟩
theorem sorted_names {l : Ents} (h : riseE l) : (l.map (·.1)).mergeSort leB = l.map (·.1) := by
  refine List.mergeSort_of_pairwise (List.pairwise_map.2 (h.imp fun {p q} hpq => ?_))
  simp only [leB, decide_eq_true_eq]
  exact List.le_of_lt (bb_lt _ _ hpq)
theorem owb_later {w w' : World} {T e n : Nat} {v : Value} {xs : List Value} (h : w.ownsRow T e 1 v n xs) (hb : Below w.heap.size w w') : w'.ownsRow T e 1 v n xs := by
  have hlt := h.lt
  refine ⟨h.1, h.2.imp id fun ⟨g, cap, cur, e, h1, hg, h2⟩ => ⟨g, cap, cur, e, h1, (hb.block g (Array.getElem?_eq_some_iff.1 hg).1).trans hg, h2⟩⟩
theorem below_grown {w w' : World} (h : Below w.heap.size w w') : w.grownBy w' none := ⟨h.os, h.tape, h.output, h.size, fun i hi _ => h.block i hi⟩
set_option maxRecDepth 100000 in
theorem names_no (w : World) (v : Value) (h : Unmade w v) : Calls Try.prog 25 #[v] w fun e w' => e = .returned (.slice none 0 0) ∧ w = w' := by
  go_enter Try.func25, Try.ntmps25
  go_wp2_with fail
  refine (made_no w v h).mono ?_
  rintro e w1 ⟨rfl, rfl⟩
  go_wp2_with fail
  go_ret
  exact ⟨rfl, rfl⟩
set_option maxRecDepth 100000 in
set_option maxHeartbeats 1000000 in
theorem names_ent (w : World) (gd mb : Nat) (pl : Value) (l : Ents) (h : DRow w gd pl (.map (some mb))) (hm : MapAt w mb l) (hl : l.length ≤ 64) :
    Calls Try.prog 25 #[ptr gd] w fun e w' => ∃ v, e = .returned v ∧ w'.ownsRow w.heap.size 9 1 v l.length ((l.map (·.1)).map encStr) ∧ Below w.heap.size w w' := by
  obtain ⟨i0, hi, hz, hs, hb⟩ := str_info
  have hbl := hm.lt
  have c1 := h.cell (j := 1) rfl
  have hown : w.ownsMap Try.prog 9 heldE mb l.length (entD l) := hm
  have hsz : size (entD l) = l.length := entD_size l
  have HM := hide hm
  clear hm
  go_enter Try.func25, Try.ntmps25
  go_wp2_with fail
  refine (made_yes w gd mb pl h).mono ?_
  rintro e w1 ⟨rfl, rfl⟩
  clear h
  go_wp2_with (first
    | (at_range; refine wpList_range_own _ rfl _ 70 rfl 9 137 keyS Try.underlying70 _ mb l.length _ rfl hown ?_; intro w0 hrg0 hg0 hs0)
    | go_in)
  clear hs0
  go_frame
  go_loopw [3] (fun v wr => ∃ (left : Lit → Bool) (cnt : Nat) (ss : List Nm), wr.ranges Try.prog 9 heldE mb w.heap.size l.length (entD l) left cnt ∧ ss.length + cnt ≤ l.length ∧ wr.ownsRow w.heap.size 9 1 v ss.length (ss.map encStr) ∧ Collected (entD l) left ss ∧ Below w.heap.size w wr)
    (fun _ wr => wr.rangeLeft mb w.heap.size)
  case atStart => exact ⟨_, _, [], hrg0, by simp [hsz], World.ownsRow_nil _ _ _ _, Collected.start _, (Below.refl _ _).grown hg0 (Nat.le_refl _) (fun j hj => by cases hj)⟩
  case round =>
    clear hrg0 hg0 c1
    obtain ⟨left, cnt, ss, hrg, hcs, hrow, hC, hnx⟩ := hrel
    go_wp2_with (first
      | (at_next; refine wpList_next_ranges _ rfl _ rfl 9 keyS heldE encStr (fun v : Value => v) (fun key kl hk => by obtain ⟨x, hx, _⟩ := Maps.keyOf_str Try.underlying9 hk; exact ⟨x, hx⟩) (fun v y _ => ⟨v, rfl⟩) mb w.heap.size l.length _ _ _ rfl hrg ?_ ?_)
      | go_in)
    · intro hc0 hl0
      have hperm := hC.perm hown keyS Try.underlying9 hl0
      rw [entD_keys] at hperm
      have hsort := (mergeSort_of_perm hperm).trans (sorted_names HM.out.rise)
      have hlen : ss.length = l.length := by simpa using hperm.length_eq
      have HS := sort_own wr w.heap.size _ ss hrow (by omega)
      rw [hsort, hlen] at HS
      have hlt := hrow.lt
      clear hperm hsort hC hcs
      go_wp2_with fail
      refine HS.mono ?_
      rintro e w2 ⟨rfl, own2, hg2⟩
      go_wp2_with fail
      go_ret
      exact ⟨_, rfl, own2, hnx.grown hg2 hnx.size (fun j hj => (hlt j hj).1)⟩
    · intro x c kl yd yp w2 cnt2 hkey hlk hv hat hrg2 hlt hg2 hs2 hen
      obtain ⟨x', ex, rfl, _⟩ := Maps.keyOf_str Try.underlying9 hkey
      obtain rfl : x = x' := encStr_inj ex
      have hrow2 := hrow.kept hg2 (.inr (row_ne_iter hrow hrg).symm)
      have sz2 : w.heap.size ≤ w2.heap.size := Nat.le_trans hnx.size hg2.size
      have hl1 := hide (show ss.length + 1 ≤ maxLen by simp only [maxLen]; omega)
      have hl2 := hide (show (ss.length + 1) * 16 ≤ 140737488355328 by omega)
      clear hs2
      go_wp2_with (first
        | ((with_reducible refine wl_build1 rfl 43 (.tmp 18) rfl 9 i0 (.string ByteArray.empty) (encStr x) Try.underlying43 hi hz hs rfl rfl rfl ?_); intro g3 w3 r3 p3 l3 b3; have hrow3 := owb_later hrow2 b3)
        | ((with_reducible refine wl_append_at rfl (.tmp 17) (.tmp 19) 43 rfl w.heap.size 9 i0 (.string ByteArray.empty) 1 16 Try.underlying43 hi hz hs hb rfl (by decide) u3 ss.length (ss.map encStr) rfl hrow3 ⟨g3, 0, none⟩ 1 1 [encStr x] rfl rfl (row_src r3) (one_str x) hl1.out hl2.out (Nat.le_trans sz2 b3.size) ?_); intro v' w4 own4 hg4 hl4))
      have hrg3 := (hrg2.kept (below_grown b3) (by simp) (by simp)).kept hg4 (row_ne_low hrow3 hbl) (row_ne_iter hrow3 (hrg2.kept (below_grown b3) (by simp) (by simp)))
      have hlt3 := hrow3.lt
      go_roundw
      case rel =>
        refine ⟨_, cnt2, ss ++ [x], hrg3, by simp; omega, by simpa using own4, hC.step hlk hat, ?_⟩
        exact ((hnx.grown hg2 hnx.size (fun j hj => by cases hj; exact Nat.le_refl _)).trans (b3.mono sz2)).grown hg4 (Nat.le_trans sz2 b3.size) (fun j hj => (hlt3 j hj).1)
      case measure => rw [hrg3.left_eq, hrg.left_eq]; exact hlt
end Go.Proofs.Ytfijhfolanhifaa

/-
  The disk: what a crash leaves of a file. Own work.
-/
namespace Go.Proofs.Ytfijhfolanhifaa
open Go.RowKit Go.Maps Go.ChangeMaps
theorem w64i (m : Int) (h : -9223372036854775808 ≤ m ∧ m ≤ 9223372036854775807) : IntKind.i64.wrap m = m := by rw [IntKind.wrap_i64]; omega
theorem w64u (m : Int) (h : 0 ≤ m ∧ m ≤ 18446744073709551615) : IntKind.u64.wrap m = m := by
  rw [IntKind.wrap_u64]
  omega
theorem szF (A : Option Addr) (m c : Nat) (k : Int) : (Try.prog.info? 137).map (·.size) = some [Value.slice A m c, Value.int .i64 k].length := by kernel_rfl
theorem oneF (A : Option Addr) (m c : Nat) (k : Int) : ∀ u ∈ [Value.slice A m c, Value.int .i64 k], u.oneCell' = true := by intro u hu; simp at hu; rcases hu with rfl | rfl <;> rfl
/-- How many of a file's loose bytes stay. -/
def tornR (cut : Int) (d : Nat) : Nat := ((IntKind.u64.wrap cut).tmod ((d : Int) + 1)).toNat
theorem tornR_eq (cut : Int) (d : Nat) : (IntKind.u64.wrap cut).tmod ((d : Int) + 1) = (tornR cut d : Nat) ∧ tornR cut d ≤ d := by
  have h0 := wrap_u64_nonneg cut
  have h1 := Int.tmod_eq_emod_of_nonneg (b := ((d : Int) + 1)) h0
  have h2 := Int.emod_nonneg (IntKind.u64.wrap cut) (show ((d : Int) + 1) ≠ 0 by omega)
  have h3 := Int.emod_lt_of_pos (IntKind.u64.wrap cut) (show (0 : Int) < (d : Int) + 1 by omega)
  unfold tornR
  rw [h1]
  omega
def STo (g2 g4 : Nat) (A : Option Addr) (M C kk dd rr : Nat) (cut : Int) (opn : Nat) (v : Value) : Prop :=
  match opn with
  | 0 => v = .pointer (some ⟨g2, 0, none⟩)
  | 1 => v = .slice A M C
  | 2 => v = .pointer (some ⟨g2, 1, none⟩)
  | 3 => v = .int .i64 (kk : Int)
  | 4 => v = .int .i64 cut
  | 5 => v = .int .u64 (IntKind.u64.wrap cut)
  | 6 => v = .int .i64 ((M : Int) - (kk : Int))
  | 7 => v = .int .i64 ((dd : Int) + 1)
  | 8 => v = .int .u64 ((dd : Int) + 1)
  | 9 => v = .int .u64 (rr : Int)
  | 10 => v = .int .i64 (rr : Int)
  | 11 => v = .int .i64 ((kk + rr : Nat) : Int)
  | 12 => v = .slice A (kk + rr) C
  | 13 => v = .agg #[.slice A (kk + rr) C, .int .i64 ((kk + rr : Nat) : Int)]
  | _ => True

set_option maxRecDepth 100000 in
theorem torn_any (w : World) (A : Option Addr) (M C kk : Nat) (cut : Int) (hk : kk ≤ M) (hM : M ≤ 1048576) (hC : M ≤ C) :
    Calls Try.prog 97 #[.agg #[.slice A M C, .int .i64 (kk : Int)], .int .i64 cut] w fun e w' => e = .returned (.agg #[.slice A (kk + tornR cut (M - kk)) C, .int .i64 ((kk + tornR cut (M - kk) : Nat) : Int)]) ∧ Below w.heap.size w w' := by
  obtain ⟨hr, hle⟩ := tornR_eq cut (M - kk)
  have hwc := wrap_u64_nonneg cut
  obtain ⟨dd, hdd⟩ : ∃ dd, dd = M - kk := ⟨_, rfl⟩
  rw [← hdd] at hr hle ⊢
  generalize tornR cut dd = rr at hr hle ⊢
  have hS1 := fun w => run_sliceTo (P := Try.prog) w 35 5 1 Try.underlying35 Try.sizeOf5 A M C .i64 ((kk + rr : Nat) : Int) (kk + rr) rfl (by omega)
  have hsub : wrap64 ((M : Int) - (kk : Int)) = (dd : Int) := by unfold wrap64; omega
  have hq1 : dd ≤ 1048576 := by omega
  have hq2 : kk + rr ≤ 1048576 := by omega
  have hA7 : IntKind.i64.wrap ((M : Int) - (kk : Int) + 1) = (dd : Int) + 1 := by rw [w64i _ ⟨by omega, by omega⟩]; omega
  have hA8 : IntKind.u64.wrap ((dd : Int) + 1) = (dd : Int) + 1 := w64u _ ⟨by omega, by omega⟩
  have hA9 : ¬ (dd : Int) + 1 = 0 := by omega
  have hA10 : IntKind.i64.wrap (rr : Int) = (rr : Int) := w64i _ ⟨by omega, by omega⟩
  have hA11 : IntKind.i64.wrap ((kk : Int) + (rr : Int)) = (kk : Int) + (rr : Int) := w64i _ ⟨by omega, by omega⟩
  clear hdd hsub
  go_enter Try.func97, Try.ntmps97
  go_wp2_with (first
    | ((with_reducible refine wl_box rfl 137 _ _ [.slice A M C, .int .i64 (kk : Int)] rfl rfl rfl ?_); intro g2 w2 r2 p2 l2 b2)
    | ((with_reducible refine wl_alloc rfl 137 _ [.slice none 0 0, .int .i64 0] rfl zFile rfl ?_); intro g4 w4 r4 p4 l4 b4; have r2 := Row.later r2 b4; have c20 := r2.cell (j := 0) rfl; have c21 := r2.cell (j := 1) rfl))
  have b24 := b2.trans (b4.mono b2.size)
  rename_i K0 hK0
  refine wp_region_vals [13, 14] (STo g2 g4 A M C kk dd rr cut) (JM w4 (fun w' => Row w' 137 g4 [.slice A (kk + rr) C, .int .i64 ((kk + rr : Nat) : Int)] ∧ Buts [g4] w4 w') 1) (by kernel_rfl) (by kernel_rfl) (by kernel_rfl) (by kernel_rfl) (by kernel_rfl) (JM.start _ _ _ _ _ rfl) ?obsE ?heE
  case obsE =>
    refine ⟨?_, ?_, ?_, ?_, ?_, ?_, ?_, ?_, ?_, ?_, ?_, ?_, ?_, ?_, ?_, trivial⟩
    · refine .inl ⟨by kernel_rfl, fun L a1 w1 n' h => ⟨.pointer (some ⟨g2, 0, none⟩), rfl, ?_⟩⟩
      have e0 : a1.eval (.tmp 2) = _ := h.var n' 2 (by kernel_rfl)
      unfold execOp
      simp only [e0]
      go_simp
    · exact .inl ⟨by kernel_rfl, fun L a1 w1 n' h => ⟨_, rfl, run_loadA 35 (.tmp 12) ⟨g2, 0, none⟩ rfl Try.isAgg35 (h.dep n' 0 12 (by kernel_rfl) rfl) ((Row.later r2 (h.inv.1 ((bits_at rfl).trans (n'.later (by kernel_rfl))))).cell (j := 0) (v := .slice A M C) rfl)⟩⟩
    · refine .inl ⟨by kernel_rfl, fun L a1 w1 n' h => ⟨.pointer (some ⟨g2, 1, none⟩), rfl, ?_⟩⟩
      have e0 : a1.eval (.tmp 2) = _ := h.var n' 2 (by kernel_rfl)
      unfold execOp
      simp only [e0]
      go_simp
    · exact .inl ⟨by kernel_rfl, fun L a1 w1 n' h => ⟨_, rfl, run_loadA 3 (.tmp 14) ⟨g2, 1, none⟩ rfl Try.isAgg3 (h.dep n' 2 14 (by kernel_rfl) rfl) ((Row.later r2 (h.inv.1 ((bits_at rfl).trans (n'.later (by kernel_rfl))))).cell (j := 1) (v := .int .i64 (kk : Int)) rfl)⟩⟩
    · exact .inl ⟨by kernel_rfl, fun L a1 w1 n' h => ⟨_, rfl, run_move (.tmp 1) rfl (h.var n' 1 (by kernel_rfl))⟩⟩
    · refine .inl ⟨by kernel_rfl, fun L a1 w1 n' h => ⟨.int .u64 (IntKind.u64.wrap cut), rfl, ?_⟩⟩
      have e0 : a1.eval (.tmp 16) = _ := h.dep n' 4 16 (by kernel_rfl) rfl
      unfold execOp
      simp only [e0]
      go_simp
    · exact .inl ⟨by kernel_rfl, fun L a1 w1 n' h => ⟨_, rfl, run_move (.tmp 5) rfl (h.var n' 5 (by kernel_rfl))⟩⟩
    · refine .inl ⟨by kernel_rfl, fun L a1 w1 n' h => ⟨.int .i64 ((dd : Int) + 1), rfl, ?_⟩⟩
      have e0 : a1.eval (.tmp 18) = _ := h.dep n' 6 18 (by kernel_rfl) rfl
      unfold execOp
      simp only [e0]
      go_simp
    · refine .inl ⟨by kernel_rfl, fun L a1 w1 n' h => ⟨.int .u64 ((dd : Int) + 1), rfl, ?_⟩⟩
      have e0 : a1.eval (.tmp 19) = _ := h.dep n' 7 19 (by kernel_rfl) rfl
      unfold execOp
      simp only [e0]
      go_simp
    · refine .inl ⟨by kernel_rfl, fun L a1 w1 n' h => ⟨.int .u64 (rr : Int), rfl, ?_⟩⟩
      have e0 : a1.eval (.tmp 17) = _ := h.dep n' 5 17 (by kernel_rfl) rfl
      have e1 : a1.eval (.tmp 20) = _ := h.dep n' 8 20 (by kernel_rfl) rfl
      unfold execOp
      simp only [e0, e1]
      go_simp
    · refine .inl ⟨by kernel_rfl, fun L a1 w1 n' h => ⟨.int .i64 (rr : Int), rfl, ?_⟩⟩
      have e0 : a1.eval (.tmp 21) = _ := h.dep n' 9 21 (by kernel_rfl) rfl
      unfold execOp
      simp only [e0]
      go_simp
    · refine .inl ⟨by kernel_rfl, fun L a1 w1 n' h => ⟨.int .i64 ((kk + rr : Nat) : Int), rfl, ?_⟩⟩
      have e0 : a1.eval (.tmp 15) = _ := h.dep n' 3 15 (by kernel_rfl) rfl
      have e1 : a1.eval (.tmp 22) = _ := h.dep n' 10 22 (by kernel_rfl) rfl
      unfold execOp
      simp only [e0, e1]
      go_simp
    · refine .inl ⟨by kernel_rfl, fun L a1 w1 n' h => ⟨.slice A (kk + rr) C, rfl, ?_⟩⟩
      have e0 : a1.eval (.tmp 13) = _ := h.dep n' 1 13 (by kernel_rfl) rfl
      have e1 : a1.eval (.tmp 23) = _ := h.dep n' 11 23 (by kernel_rfl) rfl
      unfold execOp
      simp only [e0, e1, Option.map_some, Option.map_none, Sem.run_bind, hS1, Result.andThen_ok, Sem.run_pure]
    · refine .inr fun L a1 w1 n' h K hK => ?_
      have no8 : L.getD 14 false = false := n'.later (by kernel_rfl)
      have b9 := h.inv.1 ((bits_at rfl).trans no8)
      have y0 : a1.eval (.tmp 24) = .slice A (kk + rr) C := h.dep n' 12 24 (by kernel_rfl) rfl
      refine st_call 96 _ _ #[.slice A (kk + rr) C] rfl Try.call96 ?_ (whole_any w1 A (kk + rr) C) ?_
      · simp only [List.map_toArray, List.map_cons, List.map_nil, y0]
      · rintro e w3 ⟨rfl, b8⟩
        exact ⟨_, rfl, hK _ w3 rfl ⟨fun _ => b9.trans (b8.mono b9.size), fun h0 => absurd (no8.symm.trans h0) (by decide)⟩⟩
    · refine .inr fun L a1 w1 n' h K hK => ?_
      have no : L.getD 14 false = false := n'.not_yet
      have b9 := h.inv.1 ((bits_at rfl).trans no)
      refine st_store_row 137 (.tmp 4) (.tmp 25) g4 137 _ [.slice A (kk + rr) C, .int .i64 ((kk + rr : Nat) : Int)] rfl (h.var n' 4 (by kernel_rfl)) (h.dep n' 13 25 (by kernel_rfl) rfl) (Row.later r4 b9) (szF _ _ _ _) rfl (oneF _ _ _ _) ?_
      intro w3 r3 o3
      exact hK undef w3 trivial ⟨fun h0 => absurd (show true = false from h0) (by decide), fun _ => ⟨r3, (Buts.of b9 _).trans (Buts.only o3 (List.mem_singleton.2 rfl))⟩⟩
  case heE =>
    intro V w9 hV hJ
    obtain ⟨h1, h2⟩ := hJ.2 rfl
    simp only [putOps, List.setIfInBounds_toArray, List.set_cons_succ, List.set_cons_zero, Nat.reduceAdd]
    refine hK0 _ _ ?_
    go_wp2_with fail
    refine bodyPost_ret (v := .agg [Value.slice A (kk + rr) C, Value.int .i64 ((kk + rr : Nat) : Int)].toArray) ?_ rfl ⟨rfl, b24.trans (h2.below (fun k hk => by simp at hk; subst hk; exact Nat.le_trans b2.size p4) b24.size)⟩
    exact results_cell_row Try.results97 _ _ g4 137 _ (0, 0) _ rfl h1 Try.underlying137 rfl (szF _ _ _ _)
end Go.Proofs.Ytfijhfolanhifaa

/-
  The disk: Crash. Own work.
-/
namespace Go.Proofs.Ytfijhfolanhifaa
open Go.RowKit Go.Maps Go.ChangeMaps
def riseF (l : Fs) : Prop := l.Pairwise fun p q => bytesBefore p.1 q.1 = true
theorem bb_asymm {a b : Nm} (h : bytesBefore a b = true) : bytesBefore b a = false := by
  cases hq : bytesBefore b a with
  | false => rfl
  | true => exact absurd (List.lt_trans (bb_lt _ _ h) (bb_lt _ _ hq)) (List.lt_irrefl _)
theorem bb_ne {a b : Nm} (h : bytesBefore a b = true) : a ≠ b := fun e => by
  subst e
  rw [Go.WideAt.bytes_irrefl] at h
  cases h
theorem FMap.rise {w : World} {b : Nat} {fs : Fs} (h : FMap w b fs) : riseF fs := by
  have := MapAt.rise h
  unfold riseE ents at this
  rw [List.pairwise_map] at this
  exact this
theorem del_none {l : Fs} {n : Nm} (h : ∀ p ∈ l, p.1 ≠ n) : delF l n = l := by
  unfold delF
  rw [List.filter_eq_self]
  intro p hp
  simpa using h p hp
theorem put_set : ∀ (l : Fs) (i : Nat) (n : Nm) (f v : FV), riseF l → l[i]? = some (n, f) → putF l n v = l.set i (n, v)
  | [], i, n, f, v, _, h => by simp at h
  | p :: r, 0, n, f, v, hr, h => by
    have h1 := (List.pairwise_cons.1 hr).1
    simp at h
    subst h
    have hd : delF ((n, f) :: r) n = r := by
      have : delF ((n, f) :: r) n = delF r n := by simp [delF]
      rw [this]
      exact del_none fun q hq e => bb_ne (h1 q hq) e.symm
    unfold putF
    rw [hd]
    cases r with
    | nil => rfl
    | cons q s =>
      have := h1 q (List.mem_cons_self ..)
      simp only [insF, this, if_true, List.set_cons_zero]
  | p :: r, i + 1, n, f, v, hr, h => by
    have hp := List.pairwise_cons.1 hr
    have h2 : r[i]? = some (n, f) := by simpa using h
    have hb := hp.1 (n, f) (List.mem_of_getElem? h2)
    have hd : delF (p :: r) n = p :: delF r n := by
      have : (p.1 == n) = false := by simpa using bb_ne hb
      simp [delF, this]
    have ih := put_set r i n f v hp.2 h2
    unfold putF at ih ⊢
    rw [hd]
    simp only [insF, bb_asymm hb, List.set_cons_succ, ← ih]
    rfl
theorem at_nth {l : Fs} {i : Nat} {n : Nm} {f : FV} (hr : riseF l) (h : l[i]? = some (n, f)) : atF l n = some f := by
  have hm := List.mem_of_getElem? h
  cases hq : atF l n with
  | none =>
    have : (l.find? fun p => p.1 == n) = none := by simpa [atF] using hq
    have := List.find?_eq_none.1 this _ hm
    simp at this
  | some g =>
    have h2 := atF_mem hq
    rcases pw_mem hr hm h2 with e | e | e
    · cases e; rfl
    · exact absurd rfl (bb_ne e)
    · exact absurd rfl (bb_ne e)
/-- What a crash leaves of a file. -/
def tornN (f : FV) (cut : Int) : Nat := f.kept.toNat + tornR cut (f.n - f.kept.toNat)
def tornV (f : FV) (cut : Int) : FV := ⟨f.A, tornN f cut, f.c, f.xs.take (tornN f cut), (tornN f cut : Int)⟩
theorem tornN_le {f : FV} (h : f.ok) (cut : Int) : tornN f cut ≤ f.n := by
  have h1 := (tornR_eq cut (f.n - f.kept.toNat)).2
  have h2 := h.2.1
  have h3 := h.1
  unfold tornN
  omega
theorem tornV_ok {f : FV} (h : f.ok) (cut : Int) : (tornV f cut).ok := ⟨by show (0 : Int) ≤ (tornN f cut : Int); omega, Int.le_refl _, Nat.le_trans (tornN_le h cut) h.2.2⟩
theorem owf_cap {w : World} {B : Nat} {f : FV} (h : OwnF w B f) : f.n ≤ f.c := by
  rcases h.2 with ⟨e, h0⟩ | ⟨g, cap, cur, e, _, _, hc, _⟩
  · omega
  · injection e with _ _ e3
    omega
theorem tornV_own {w : World} {B : Nat} {f : FV} (h : OwnF w B f) (hk : f.ok) (cut : Int) : OwnF w B (tornV f cut) := by
  have hle := tornN_le hk cut
  have hb := owf_bs h
  obtain ⟨hl, ho⟩ := h
  have hxl : f.xs.length = f.n := by simpa [bv] using hl
  refine ⟨by simp [bv, tornV]; omega, ?_⟩
  rcases ho with ⟨e, h0⟩ | ⟨g, cap, cur, e, h1, hg, h2, h3, h4, h5⟩
  · injection e with e1 e2 e3
    refine .inl ⟨?_, by show tornN f cut = 0; omega⟩
    show Value.slice f.A (tornN f cut) f.c = _
    rw [e1, e3, show tornN f cut = 0 by omega]
  · injection e with e1 e2 e3
    refine .inr ⟨g, cap, cur, ?_, h1, hg, Nat.le_trans hle h2, h3, h4, ?_⟩
    · show Value.slice f.A (tornN f cut) f.c = _
      rw [e1, e3]
      rfl
    · show cur.toList.take (tornN f cut * 1) = bv (f.xs.take (tornN f cut))
      rw [Nat.mul_one] at h5 ⊢
      have : cur.toList.take (tornN f cut) = (cur.toList.take f.n).take (tornN f cut) := by rw [List.take_take, Nat.min_eq_left hle]
      rw [this, h5, bv, bv, List.map_take]
theorem tornV_bk (f : FV) (cut : Int) : (tornV f cut).bk = f.bk := by
  unfold FV.bk FV.sl tornV
  cases f.A with
  | none => rfl
  | some a => rfl
theorem torn_fv (w : World) (f : FV) (cut : Int) (hk : f.ok) (hc : f.n ≤ f.c) :
    Calls Try.prog 97 #[f.val, .int .i64 cut] w fun e w' => e = .returned (tornV f cut).val ∧ Below w.heap.size w w' := by
  have h1 := hk.1
  have h2 := hk.2.1
  have := torn_any w f.A f.n f.c f.kept.toNat cut (by omega) hk.2.2 hc
  rw [show ((f.kept.toNat : Nat) : Int) = f.kept by omega] at this
  exact this
/-- Numbers that came in. -/
def IsAt (w : World) (B : Nat) (A : Option Addr) (m : Nat) (cs : List Int) : Prop := cs.length = m ∧ (0 < m → ∃ b o, A = some ⟨b, o, none⟩ ∧ b < B ∧ ∀ j, j < m → w.cell? ⟨b, o + j, none⟩ = some (.int .i64 (cs.getD j 0)))
theorem IsAt.below {w w' : World} {B : Nat} {A : Option Addr} {m : Nat} {cs : List Int} (h : IsAt w B A m cs) (hb : Below B w w') : IsAt w' B A m cs := ⟨h.1, fun h0 => by
  obtain ⟨b, o, e, hlt, hc⟩ := h.2 h0
  exact ⟨b, o, e, hlt, fun j hj => (hb.cell (p := ⟨b, o + j, none⟩) hlt).trans (hc j hj)⟩⟩
/-- The files behind the first i were torn. -/
def crashTo (fs : Fs) (cs : List Int) (i : Nat) : Fs := fs.mapIdx fun j p => if j < i then (p.1, tornV p.2 (cs.getD j 0)) else p
theorem crashTo_zero (fs : Fs) (cs : List Int) : crashTo fs cs 0 = fs := by
  apply List.ext_getElem?
  intro j
  simp [crashTo]
theorem crashTo_len (fs : Fs) (cs : List Int) (i : Nat) : (crashTo fs cs i).length = fs.length := by simp [crashTo]
theorem crashTo_at (fs : Fs) (cs : List Int) (i : Nat) : (crashTo fs cs i)[i]? = fs[i]? := by
  simp [crashTo]
theorem crashTo_set (fs : Fs) (cs : List Int) (i : Nat) {n : Nm} {f : FV} (h : fs[i]? = some (n, f)) : (crashTo fs cs i).set i (n, tornV f (cs.getD i 0)) = crashTo fs cs (i + 1) := by
  apply List.ext_getElem?
  intro j
  have hlt := (List.getElem?_eq_some_iff.1 h).1
  rw [List.getElem?_set]
  by_cases hj : i = j
  · subst hj
    have e := (List.getElem?_eq_some_iff.1 h).2
    simp [crashTo, hlt, e]
  · rw [if_neg hj]
    simp only [crashTo, List.getElem?_mapIdx]
    cases hq : fs[j]? with
    | none => rfl
    | some p =>
      by_cases h1 : j < i
      · simp [h1, show j < i + 1 by omega]
      · simp [h1, show ¬ j < i + 1 by omega]
theorem run_lookG {o : Oper} {a : Act} {w : World} {b : Nat} {fs : Fs} {n : Nm} {f : FV} (m x : Operand) (ho : o.op = .lookup 70 m x false) (hm : a.eval m = .map (some b)) (hx : a.eval x = encStr n) (h : FMap w b fs) (hn : n.length ≤ maxLen) (hf : (atF fs n).getD zV = f) :
    (execOp a.eval o).run Try.prog w = .ok (.value f.val) w := hf ▸ run_lookF1 m x ho hm hx h hn
end Go.Proofs.Ytfijhfolanhifaa

/-
  The disk: Crash, the walk. Own work.
-/
namespace Go.Proofs.Ytfijhfolanhifaa
open Go.RowKit Go.Maps Go.ChangeMaps
def crashF (fs : Fs) (cs : List Int) : Fs := crashTo fs cs fs.length
set_option maxRecDepth 100000 in
theorem crash_no (w : World) (v cv : Value) (h : Unmade w v) : Calls Try.prog 38 #[v, cv] w fun e w' => e = .returned (.tuple #[]) ∧ w = w' := by
  go_enter Try.func38, Try.ntmps38
  go_wp2_with fail
  refine (made_no w v h).mono ?_
  rintro e w1 ⟨rfl, rfl⟩
  go_wp2_with fail
  first | go_end0 | refine bodyPost_ret (results_none rfl _ _ _) rfl ?_
  exact ⟨rfl, rfl⟩
theorem names_cell {w : World} {T m i : Nat} {v : Value} {ns : List Nm} (h : w.ownsRow T 9 1 v m (ns.map encStr)) (hi : i < m) {n : Nm} (hn : ns[i]? = some n) : ∃ g cap, v = .slice (some ⟨g, 0, none⟩) m cap ∧ w.cell? ⟨g, i, none⟩ = some (encStr n) := by
  obtain ⟨hl, ho⟩ := h
  rcases ho with ⟨rfl, h0⟩ | ⟨g, cap, cur, rfl, _, hg, h1, h2, h3, h4⟩
  · omega
  · refine ⟨g, cap, rfl, ?_⟩
    have e : (cur.toList.take (m * 1))[i]? = (ns.map encStr)[i]? := by rw [h4]
    rw [Nat.mul_one, List.getElem?_take, if_pos hi, List.getElem?_map, hn, Option.map_some] at e
    rw [cell_of_row w g i cur _ (0, 0) hg, ← Array.getElem?_toList]
    exact e
theorem own_sl {w : World} {T e m : Nat} {v : Value} {xs : List Value} (h : w.ownsRow T e 1 v m xs) : ∃ A c, v = .slice A m c := by
  rcases h.2 with ⟨rfl, rfl⟩ | ⟨g, cap, cur, rfl, _⟩
  · exact ⟨none, 0, rfl⟩
  · exact ⟨_, cap, rfl⟩
theorem ownr_buts {w w' : World} {T e m : Nat} {v : Value} {xs : List Value} {S : List Nat} (h : w.ownsRow T e 1 v m xs) (hb : Buts S w w') (hS : ∀ k ∈ S, k < T) : w'.ownsRow T e 1 v m xs := by
  have hlt := h.lt
  refine ⟨h.1, h.2.imp id fun ⟨g, cap, cur, e1, h1, hg, h2⟩ => ⟨g, cap, cur, e1, h1, (hb.block g (Array.getElem?_eq_some_iff.1 hg).1 (fun hk => by have := hS g hk; omega)).trans hg, h2⟩⟩
def SCx (gd gp mb : Nat) (nm : Nm) (f : FV) (cut : Int) (opn : Nat) (v : Value) : Prop :=
  match opn with
  | 0 | 1 | 5 | 6 => v = ptr gd
  | 2 | 7 => v = .pointer (some ⟨gd, 1, none⟩)
  | 3 | 8 => v = .map (some mb)
  | 4 | 9 => v = encStr nm
  | 10 => v = f.val
  | 11 => v = .int .i64 cut
  | 12 => v = (tornV f cut).val
  | _ => True

set_option maxRecDepth 100000 in
set_option maxHeartbeats 2000000 in
theorem crash_any (w : World) (B gd mb gp : Nat) (on : Bool) (fuse : Int) (fs : Fs) (A : Option Addr) (m c : Nat) (cs : List Int) (hc : IsAt w w.heap.size A m cs) (hnd : ∀ b o, A = some ⟨b, o, none⟩ → b ∉ dblocks gd mb fs) (h : DiskAt w B gd (ptr gp) mb fs) (hp : Plg w gp on fuse) :
    Calls Try.prog 38 #[ptr gd, .slice A m c] w fun e w' => e = .returned (.tuple #[]) ∧ DiskAt w' B gd (ptr gp) mb (crashF fs cs) ∧ Plg w' gp true (-1) ∧ Buts (gp :: dblocks gd mb fs) w w' := by
  have HNm := names_ent w gd mb (ptr gp) (ents fs) h.row h.map (by rw [ents_len]; exact h.few)
  rw [ents_len, show (ents fs).map (·.1) = fs.map (·.1) by simp [ents]] at HNm
  have hmb := h.map.lt
  have hris : riseF fs := FMap.rise h.map
  have hcl := hc.1
  have HNm := hide HNm
  have HC := hide hc
  have HH := hide h
  clear hc
  go_enter Try.func38, Try.ntmps38
  go_wp2_with fail
  refine (made_yes w gd mb _ h.row).mono ?_
  rintro e w1 ⟨rfl, rfl⟩
  clear h
  go_wp2_with fail
  refine HNm.out.mono ?_
  rintro e w1 ⟨nv, rfl, hN, b1⟩
  obtain ⟨NA, nc, rfl⟩ := own_sl hN
  have hD1 := HH.out.later b1
  have hP1 : PlAt w1 (ptr gp) on fuse := .inl ⟨gp, rfl, Row.later hp b1⟩
  rw [← crashTo_zero fs cs] at hD1
  clear HNm hp
  go_wp2_with fail
  go_loopw [13] (fun iv wr => ∃ i : Nat, i ≤ fs.length ∧ iv = .int .i64 i ∧ DiskAt wr B gd (ptr gp) mb (crashTo fs cs i) ∧ PlAt wr (ptr gp) on fuse ∧ wr.ownsRow w.heap.size 9 1 (.slice NA fs.length nc) fs.length ((fs.map (·.1)).map encStr) ∧ Buts (dblocks gd mb fs) w wr) (fun iv _ => fs.length - (intOf iv).toNat)
  case atStart => exact ⟨0, by omega, rfl, hD1, hP1, hN, Buts.of b1 _⟩
  case round =>
    clear hD1 hP1 hN b1
    obtain ⟨i, hi, rfl, hD, hP, hN, hU⟩ := hrel
    by_cases hlt : i < fs.length
    · obtain ⟨⟨nm, f⟩, hf⟩ : ∃ p, fs[i]? = some p := ⟨_, List.getElem?_eq_getElem hlt⟩
      have hfi : (crashTo fs cs i)[i]? = some (nm, f) := (crashTo_at fs cs i).trans hf
      have hmem := List.mem_of_getElem? hfi
      have hri : riseF (crashTo fs cs i) := FMap.rise hD.map
      have hat0 := at_nth hri hfi
      have hn : nm.length ≤ maxLen := strKeys_le HH.out.map Try.underlying9 nm (by rw [entD_keys, ents, List.map_map]; exact List.mem_map.2 ⟨_, List.mem_of_getElem? hf, rfl⟩)
      have hok := hD.files.bd _ hmem
      have hof := hD.files.own _ hmem
      have hcap := owf_cap hof
      obtain ⟨g7, cap7, e7, c7⟩ := names_cell hN hlt (n := nm) (by rw [List.getElem?_map, hf]; rfl)
      injection e7 with e71 e72 e73
      subst e71
      subst e73
      have hU0 := hU
      obtain ⟨cut, hcut⟩ : ∃ cut, cs.getD i 0 = cut := ⟨_, rfl⟩
      have hset := crashTo_set fs cs i hf
      rw [hcut] at hset
      have HFin : ∀ w9, MapAt w9 mb (putE (ents (crashTo fs cs i)) nm (tornV f cut).val) → Buts [mb] wr w9 → DiskAt w9 B gd (ptr gp) mb (crashTo fs cs (i + 1)) := fun w9 m9 b9 => by
        have := hD.stored m9 b9 (tornV_own hof hok cut) (tornV_ok hok cut) (fun p hp hne k hk => by rw [tornV_bk]; exact hD.files.two hp hmem hne k hk) (.inl (by rw [hat0]; rfl))
        rw [put_set _ i nm f _ hri hfi, hset] at this
        exact this
      have hat : (atF (crashTo fs cs i) nm).getD zV = f := by rw [hat0]; rfl
      have HFin := hide HFin
      have cd1 := hD.row.cell (j := 1) rfl
      clear hfi hmem hri hat0 hof hset hf hU0
      by_cases him : i < m
      · obtain ⟨cb, co, rfl, hcb, hcc⟩ := HC.out.2 (by omega)
        have cc := hcc i him
        rw [hcut] at cc
        have cc : wr.cell? ⟨cb, co + i, none⟩ = some (.int .i64 cut) := by
          rw [← cc]
          unfold World.cell?
          have hb : wr.heap[cb]? = w.heap[cb]? := hU.block cb hcb (hnd cb co rfl)
          rw [hb]
        clear hcc hcut
        go_wp2_with fail
        rename_i K0 hK0
        refine wp_region_vals [12, 13] (SCx gd gp mb nm f cut) (JM wr (fun w' => MapAt w' mb (putE (ents (crashTo fs cs i)) nm (tornV f cut).val) ∧ Buts [mb] wr w') 1) (by kernel_rfl) (by kernel_rfl) (by kernel_rfl) (by kernel_rfl) (by kernel_rfl) (JM.start _ _ _ _ _ rfl) ?obsE ?heE
        case obsE =>
          refine ⟨?_, ?_, ?_, ?_, ?_, ?_, ?_, ?_, ?_, ?_, ?_, ?_, ?_, ?_, trivial⟩
          · exact .inl ⟨by kernel_rfl, fun L a1 w1 n' h => ⟨_, rfl, run_move (.tmp 0) rfl (h.var n' 0 (by kernel_rfl))⟩⟩
          · refine .inl ⟨by kernel_rfl, fun L a1 w1 n' h => ⟨ptr gd, rfl, ?_⟩⟩
            have e0 : a1.eval (.tmp 26) = _ := h.dep n' 0 26 (by kernel_rfl) rfl
            unfold execOp
            simp only [e0]
            go_simp
          · refine .inl ⟨by kernel_rfl, fun L a1 w1 n' h => ⟨.pointer (some ⟨gd, 1, none⟩), rfl, ?_⟩⟩
            have e0 : a1.eval (.tmp 27) = _ := h.dep n' 1 27 (by kernel_rfl) rfl
            unfold execOp
            simp only [e0]
            go_simp
          · exact .inl ⟨by kernel_rfl, fun L a1 w1 n' h => ⟨_, rfl, run_loadA 70 (.tmp 28) ⟨gd, 1, none⟩ rfl Try.isAgg70 (h.dep n' 2 28 (by kernel_rfl) rfl) ((Row.later hD.row (h.inv.1 ((bits_at rfl).trans (n'.later (by kernel_rfl))))).cell (j := 1) (v := .map (some mb)) rfl)⟩⟩
          · exact .inl ⟨by kernel_rfl, fun L a1 w1 n' h => ⟨_, rfl, run_move (.tmp 5) rfl (h.var n' 5 (by kernel_rfl))⟩⟩
          · exact .inl ⟨by kernel_rfl, fun L a1 w1 n' h => ⟨_, rfl, run_move (.tmp 0) rfl (h.var n' 0 (by kernel_rfl))⟩⟩
          · refine .inl ⟨by kernel_rfl, fun L a1 w1 n' h => ⟨ptr gd, rfl, ?_⟩⟩
            have e0 : a1.eval (.tmp 31) = _ := h.dep n' 5 31 (by kernel_rfl) rfl
            unfold execOp
            simp only [e0]
            go_simp
          · refine .inl ⟨by kernel_rfl, fun L a1 w1 n' h => ⟨.pointer (some ⟨gd, 1, none⟩), rfl, ?_⟩⟩
            have e0 : a1.eval (.tmp 32) = _ := h.dep n' 6 32 (by kernel_rfl) rfl
            unfold execOp
            simp only [e0]
            go_simp
          · exact .inl ⟨by kernel_rfl, fun L a1 w1 n' h => ⟨_, rfl, run_loadA 70 (.tmp 33) ⟨gd, 1, none⟩ rfl Try.isAgg70 (h.dep n' 7 33 (by kernel_rfl) rfl) ((Row.later hD.row (h.inv.1 ((bits_at rfl).trans (n'.later (by kernel_rfl))))).cell (j := 1) (v := .map (some mb)) rfl)⟩⟩
          · exact .inl ⟨by kernel_rfl, fun L a1 w1 n' h => ⟨_, rfl, run_move (.tmp 5) rfl (h.var n' 5 (by kernel_rfl))⟩⟩
          · exact .inl ⟨by kernel_rfl, fun L a1 w1 n' h => ⟨_, rfl, run_lookG (.tmp 34) (.tmp 35) rfl (h.dep n' 8 34 (by kernel_rfl) rfl) (h.dep n' 9 35 (by kernel_rfl) rfl) (hD.map.later (h.inv.1 ((bits_at rfl).trans (n'.later (by kernel_rfl))))) hn hat⟩⟩
          · exact .inl ⟨by kernel_rfl, fun L a1 w1 n' h => ⟨_, rfl, run_move (.tmp 6) rfl (h.var n' 6 (by kernel_rfl))⟩⟩
          · refine .inr fun L a1 w1 n' h K hK => ?_
            have no8 : L.getD 13 false = false := n'.later (by kernel_rfl)
            have b9 := h.inv.1 ((bits_at rfl).trans no8)
            have y0 : a1.eval (.tmp 36) = f.val := h.dep n' 10 36 (by kernel_rfl) rfl
            have y1 : a1.eval (.tmp 37) = .int .i64 cut := h.dep n' 11 37 (by kernel_rfl) rfl
            refine st_call 97 _ _ #[f.val, .int .i64 cut] rfl Try.call97 ?_ (torn_fv w1 f cut hok hcap) ?_
            · simp only [List.map_toArray, List.map_cons, List.map_nil, y0, y1]
            · rintro e w3 ⟨rfl, b8⟩
              exact ⟨_, rfl, hK _ w3 rfl ⟨fun _ => b9.trans (b8.mono b9.size), fun h0 => absurd (no8.symm.trans h0) (by decide)⟩⟩
          · refine .inr fun L a1 w1 n' h K hK => ?_
            have no : L.getD 13 false = false := n'.not_yet
            have b9 := h.inv.1 ((bits_at rfl).trans no)
            refine st_put (.tmp 29) (.tmp 30) (.tmp 38) (tornV f cut).val rfl (h.dep n' 3 29 (by kernel_rfl) rfl) (h.dep n' 4 30 (by kernel_rfl) rfl) (h.dep n' 12 38 (by kernel_rfl) rfl) (hD.map.later b9) hn (lenE hD.few) ?_
            intro w3 m3 o3
            exact hK undef w3 trivial ⟨fun h0 => absurd (show true = false from h0) (by decide), fun _ => ⟨m3, (Buts.of b9 _).trans (Buts.only o3 (List.mem_singleton.2 rfl))⟩⟩
        case heE =>
          intro V w9 hV hJ
          obtain ⟨m9, b9⟩ := hJ.2 rfl
          clear hV hJ
          simp only [putOps, List.setIfInBounds_toArray, List.set_cons_succ, List.set_cons_zero, Nat.reduceAdd]
          refine hK0 _ _ ?_
          have hD9 := HFin.out w9 m9 b9
          have hP9 := hP.buts b9 (fun k hk hk2 => pl_not hP hD k (by simp at hk2; subst hk2; exact mem_dblocks.2 (.inr (.inl rfl))) hk)
          have hN9 := ownr_buts hN b9 (by simpa using hmb)
          have hU9 := hU.trans (b9.sub (S' := dblocks gd mb fs) (fun k hk => by simp at hk; subst hk; exact mem_dblocks.2 (.inr (.inl rfl))))
          clear m9 b9 hD hP hN hU HFin hK0 hat hok hcap hn
          have hfew : fs.length ≤ 64 := HH.out.few
          go_wp2_with fail
          go_roundw
          case rel => exact ⟨i + 1, by omega, by go_num, hD9, hP9, hN9, hU9⟩
          case measure => simp [intOf]; omega
      · have hz : cut = 0 := by
          rw [← hcut, List.getD, List.getElem?_eq_none (by omega)]
          rfl
        clear hcut
        subst hz
        go_wp2_with fail
        rename_i K0 hK0
        refine wp_region_vals [12, 13] (SCx gd gp mb nm f 0) (JM wr (fun w' => MapAt w' mb (putE (ents (crashTo fs cs i)) nm (tornV f 0).val) ∧ Buts [mb] wr w') 1) (by kernel_rfl) (by kernel_rfl) (by kernel_rfl) (by kernel_rfl) (by kernel_rfl) (JM.start _ _ _ _ _ rfl) ?obsE ?heE
        case obsE =>
          refine ⟨?_, ?_, ?_, ?_, ?_, ?_, ?_, ?_, ?_, ?_, ?_, ?_, ?_, ?_, trivial⟩
          · exact .inl ⟨by kernel_rfl, fun L a1 w1 n' h => ⟨_, rfl, run_move (.tmp 0) rfl (h.var n' 0 (by kernel_rfl))⟩⟩
          · refine .inl ⟨by kernel_rfl, fun L a1 w1 n' h => ⟨ptr gd, rfl, ?_⟩⟩
            have e0 : a1.eval (.tmp 26) = _ := h.dep n' 0 26 (by kernel_rfl) rfl
            unfold execOp
            simp only [e0]
            go_simp
          · refine .inl ⟨by kernel_rfl, fun L a1 w1 n' h => ⟨.pointer (some ⟨gd, 1, none⟩), rfl, ?_⟩⟩
            have e0 : a1.eval (.tmp 27) = _ := h.dep n' 1 27 (by kernel_rfl) rfl
            unfold execOp
            simp only [e0]
            go_simp
          · exact .inl ⟨by kernel_rfl, fun L a1 w1 n' h => ⟨_, rfl, run_loadA 70 (.tmp 28) ⟨gd, 1, none⟩ rfl Try.isAgg70 (h.dep n' 2 28 (by kernel_rfl) rfl) ((Row.later hD.row (h.inv.1 ((bits_at rfl).trans (n'.later (by kernel_rfl))))).cell (j := 1) (v := .map (some mb)) rfl)⟩⟩
          · exact .inl ⟨by kernel_rfl, fun L a1 w1 n' h => ⟨_, rfl, run_move (.tmp 5) rfl (h.var n' 5 (by kernel_rfl))⟩⟩
          · exact .inl ⟨by kernel_rfl, fun L a1 w1 n' h => ⟨_, rfl, run_move (.tmp 0) rfl (h.var n' 0 (by kernel_rfl))⟩⟩
          · refine .inl ⟨by kernel_rfl, fun L a1 w1 n' h => ⟨ptr gd, rfl, ?_⟩⟩
            have e0 : a1.eval (.tmp 31) = _ := h.dep n' 5 31 (by kernel_rfl) rfl
            unfold execOp
            simp only [e0]
            go_simp
          · refine .inl ⟨by kernel_rfl, fun L a1 w1 n' h => ⟨.pointer (some ⟨gd, 1, none⟩), rfl, ?_⟩⟩
            have e0 : a1.eval (.tmp 32) = _ := h.dep n' 6 32 (by kernel_rfl) rfl
            unfold execOp
            simp only [e0]
            go_simp
          · exact .inl ⟨by kernel_rfl, fun L a1 w1 n' h => ⟨_, rfl, run_loadA 70 (.tmp 33) ⟨gd, 1, none⟩ rfl Try.isAgg70 (h.dep n' 7 33 (by kernel_rfl) rfl) ((Row.later hD.row (h.inv.1 ((bits_at rfl).trans (n'.later (by kernel_rfl))))).cell (j := 1) (v := .map (some mb)) rfl)⟩⟩
          · exact .inl ⟨by kernel_rfl, fun L a1 w1 n' h => ⟨_, rfl, run_move (.tmp 5) rfl (h.var n' 5 (by kernel_rfl))⟩⟩
          · exact .inl ⟨by kernel_rfl, fun L a1 w1 n' h => ⟨_, rfl, run_lookG (.tmp 34) (.tmp 35) rfl (h.dep n' 8 34 (by kernel_rfl) rfl) (h.dep n' 9 35 (by kernel_rfl) rfl) (hD.map.later (h.inv.1 ((bits_at rfl).trans (n'.later (by kernel_rfl))))) hn hat⟩⟩
          · exact .inl ⟨by kernel_rfl, fun L a1 w1 n' h => ⟨_, rfl, run_move (.tmp 6) rfl (h.var n' 6 (by kernel_rfl))⟩⟩
          · refine .inr fun L a1 w1 n' h K hK => ?_
            have no8 : L.getD 13 false = false := n'.later (by kernel_rfl)
            have b9 := h.inv.1 ((bits_at rfl).trans no8)
            have y0 : a1.eval (.tmp 36) = f.val := h.dep n' 10 36 (by kernel_rfl) rfl
            have y1 : a1.eval (.tmp 37) = .int .i64 0 := h.dep n' 11 37 (by kernel_rfl) rfl
            refine st_call 97 _ _ #[f.val, .int .i64 0] rfl Try.call97 ?_ (torn_fv w1 f 0 hok hcap) ?_
            · simp only [List.map_toArray, List.map_cons, List.map_nil, y0, y1]
            · rintro e w3 ⟨rfl, b8⟩
              exact ⟨_, rfl, hK _ w3 rfl ⟨fun _ => b9.trans (b8.mono b9.size), fun h0 => absurd (no8.symm.trans h0) (by decide)⟩⟩
          · refine .inr fun L a1 w1 n' h K hK => ?_
            have no : L.getD 13 false = false := n'.not_yet
            have b9 := h.inv.1 ((bits_at rfl).trans no)
            refine st_put (.tmp 29) (.tmp 30) (.tmp 38) (tornV f 0).val rfl (h.dep n' 3 29 (by kernel_rfl) rfl) (h.dep n' 4 30 (by kernel_rfl) rfl) (h.dep n' 12 38 (by kernel_rfl) rfl) (hD.map.later b9) hn (lenE hD.few) ?_
            intro w3 m3 o3
            exact hK undef w3 trivial ⟨fun h0 => absurd (show true = false from h0) (by decide), fun _ => ⟨m3, (Buts.of b9 _).trans (Buts.only o3 (List.mem_singleton.2 rfl))⟩⟩
        case heE =>
          intro V w9 hV hJ
          obtain ⟨m9, b9⟩ := hJ.2 rfl
          clear hV hJ
          simp only [putOps, List.setIfInBounds_toArray, List.set_cons_succ, List.set_cons_zero, Nat.reduceAdd]
          refine hK0 _ _ ?_
          have hD9 := HFin.out w9 m9 b9
          have hP9 := hP.buts b9 (fun k hk hk2 => pl_not hP hD k (by simp at hk2; subst hk2; exact mem_dblocks.2 (.inr (.inl rfl))) hk)
          have hN9 := ownr_buts hN b9 (by simpa using hmb)
          have hU9 := hU.trans (b9.sub (S' := dblocks gd mb fs) (fun k hk => by simp at hk; subst hk; exact mem_dblocks.2 (.inr (.inl rfl))))
          clear m9 b9 hD hP hN hU HFin hK0 hat hok hcap hn
          have hfew : fs.length ≤ 64 := HH.out.few
          go_wp2_with fail
          go_roundw
          case rel => exact ⟨i + 1, by omega, by go_num, hD9, hP9, hN9, hU9⟩
          case measure => simp [intOf]; omega
    · obtain rfl : i = fs.length := by omega
      have hPg : Plg wr gp on fuse := by
        rcases hP with ⟨g9, e9, h9⟩ | ⟨e9, _⟩
        · cases e9; exact h9
        · cases e9
      have hnb := pl_not hP hD
      have cd0 := hD.row.cell (j := 0) rfl
      clear hN hris hcl HC
      go_wp2_with fail
      refine (mend_any wr gp on fuse hPg).mono ?_
      rintro e w2 ⟨rfl, h2, o2⟩
      go_wp2_with fail
      first | go_end0 | refine bodyPost_ret (results_none rfl _ _ _) rfl ?_
      exact ⟨rfl, hD.buts (Buts.only (S := [gp]) o2 (List.mem_singleton.2 rfl)) (fun k hk hk2 => hnb k hk (by simpa [plB] using hk2)), h2, (hU.sub (fun k hk => List.mem_cons_of_mem _ hk)).trans (Buts.only o2 (List.mem_cons_self ..))⟩
end Go.Proofs.Ytfijhfolanhifaa

/-
  The disk: the example of its laws (awake). Own work.
-/
namespace Go.Proofs.Ytfijhfolanhifaa
open Go.RowKit Go.Maps Go.ChangeMaps
theorem DiskAt.mono {w : World} {B B' gd mb : Nat} {pl : Value} {fs : Fs} (h : DiskAt w B' gd pl mb fs) (hB : B ≤ B') : DiskAt w B gd pl mb fs := ⟨h.row, ⟨Nat.le_trans hB h.lo.1, Nat.le_trans hB h.lo.2⟩, h.map, ⟨fun p hp => owb_low (h.files.own p hp) hB, h.files.bd, h.files.apart⟩, h.few⟩
theorem frame_below {w w' : World} {B gd mb gp : Nat} {fs : Fs} {pl' : Value} (h : Buts (plB (ptr gp) ++ dblocks gd mb fs) w w') (hd : DiskAt w B gd pl' mb fs) (hg : B ≤ gp) (hB : B ≤ w.heap.size) : Below B w w' := by
  refine h.below (fun k hk => ?_) hB
  rcases List.mem_append.1 hk with hk | hk
  · simp [plB] at hk; omega
  · exact (hd.blo k hk).1
theorem PlAt.plg {w : World} {gp : Nat} {on : Bool} {fuse : Int} (h : PlAt w (ptr gp) on fuse) : Plg w gp on fuse := by
  rcases h with ⟨g9, e9, h9⟩ | ⟨e9, _⟩
  · cases e9; exact h9
  · cases e9
theorem Acted.ok {w w' : World} {B gd mb gp : Nat} {fs fs1 : Fs} (h : Acted w w' B gd (ptr gp) mb 0 true (-1) fs fs1) : DiskAt w' B gd (ptr gp) mb fs1 ∧ PlAt w' (ptr gp) true (-1) ∧ Buts (plB (ptr gp) ++ dblocks gd mb fs) w w' := h
theorem ActedP.ok {w w' : World} {B gd mb gp : Nat} {fs : Fs} {P : Fs → Prop} (h : ActedP w w' B gd (ptr gp) mb 0 true (-1) fs P) : ∃ fs', P fs' ∧ DiskAt w' B gd (ptr gp) mb fs' ∧ PlAt w' (ptr gp) true (-1) ∧ Buts (plB (ptr gp) ++ dblocks gd mb fs) w w' := by
  obtain ⟨fs', h1, h2, h3, h4, _⟩ := h
  rw [if_pos ⟨rfl, by decide⟩] at h1
  exact ⟨fs', h1, h2, h3, h4⟩
theorem isI_m1 : isI (-1) := ⟨by decide, by decide⟩
set_option maxRecDepth 100000 in
set_option maxHeartbeats 2000000 in
theorem awakeD_any (w : World) : Calls Try.prog 18 #[] w fun e w' => e = .returned (.bool true) ∧ Below w.heap.size w w' := by
  have kc := fun (w : World) (C : Array Value) (n c : Nat) => Lib.run_convert_bytes_const (P := Try.prog) w 35 5 C n c Try.underlying35 Try.underlying5
  obtain ⟨B, hBe⟩ : ∃ B, B = w.heap.size := ⟨_, rfl⟩
  have hBw : B ≤ w.heap.size := Nat.le_of_eq hBe
  go_enter Try.func18, Try.ntmps18
  go_wp2_with fail
  refine (plug_any w).mono ?_
  rintro en w1 ⟨gP, gp, rfl, hPw, hPl, hgP, hgp, hne, b1⟩
  go_wp2_with fail
  refine (new_any w1 gP (some ⟨gp, 0, none⟩) hPw).mono ?_
  rintro en w2 ⟨gd, mb, rfl, hD, b2⟩
  rw [← hBe] at hgP hgp b1
  have hD : DiskAt w2 B gd (ptr gp) mb [] := hD.mono (Nat.le_trans hBw b1.size)
  have hP : PlAt w2 (ptr gp) true (-1) := .inl ⟨gp, rfl, Row.later hPl b2⟩
  have B2 : Below B w w2 := b1.trans (b2.mono (Nat.le_trans hBw b1.size))
  clear hPw hPl hgP hne b1 b2
  go_wp2_with fail
  refine (create_any w2 B gd mb (ptr gp) true (-1) [] [97] hD hP isI_m1).mono ?_
  rintro en w3 ⟨rfl, hA⟩
  obtain ⟨hD3, hP3, bU⟩ := Acted.ok hA
  have hB2 := Nat.le_trans hBw B2.size
  have B3 : Below B w w3 := B2.trans (frame_below bU hD hgp hB2)
  have hD3 : DiskAt w3 B gd (ptr gp) mb [([97], zV)] := hD3
  have hB3 := Nat.le_trans hBw B3.size
  have hv : dE (creE [] [97] true) true (-1) = 0 := by decide
  rw [hv]
  clear hv hA bU hD hP B2 hB2
  go_wp2_with fail
  have hl := Bs.lit' w3 5 (3, 4) [97, 98, 99] #[.int .u8 97, .int .u8 98, .int .u8 99] 3 _ rfl rfl rfl
  have bl : Below w3.heap.size w3 (w3.alloc (.cells #[.int .u8 97, .int .u8 98, .int .u8 99] 5 (3, 4))) := (Below.refl _ _).alloc (Nat.le_refl _) _
  refine (append_any _ B gd mb (ptr gp) true (-1) [([97], zV)] [97] _ 3 3 [97, 98, 99] (Nat.le_trans hB3 bl.size) hl (by decide) (hD3.later bl) (hP3.later bl) isI_m1).mono ?_
  rintro en w4 ⟨rfl, hA⟩
  obtain ⟨fs4, ⟨f, rfl, q1, q2, q3⟩, hD4, hP4, bU⟩ := ActedP.ok hA
  have B3a : Below B w _ := B3.trans (bl.mono hB3)
  have B4 : Below B w w4 := B3a.trans (frame_below bU (hD3.later bl) hgp (Nat.le_trans hB3 bl.size))
  have hD4 : DiskAt w4 B gd (ptr gp) mb [([97], f)] := hD4
  have hB4 := Nat.le_trans hBw B4.size
  have hv : dE (appE (findR [([97], zV)] [97] [] true).2 (findR [([97], zV)] [97] [] true).1.n 3) true (-1) = 0 := by decide
  have e1 : f.n = 3 := q1
  have e2 : f.xs = [97, 98, 99] := q2
  rw [hv]
  clear hv hA bU hD3 hP3 B3 hB3 hl bl B3a q1 q2 q3
  go_wp2_with fail
  refine (sync_any w4 B gd mb (ptr gp) true (-1) [([97], f)] [97] hD4 hP4 isI_m1).mono ?_
  rintro en w5 ⟨rfl, hA⟩
  obtain ⟨hD5, hP5, bU⟩ := Acted.ok hA
  have B5 : Below B w w5 := B4.trans (frame_below bU hD4 hgp hB4)
  have hD5 : DiskAt w5 B gd (ptr gp) mb [([97], { f with kept := (f.n : Int) })] := hD5
  have hB5 := Nat.le_trans hBw B5.size
  have hv : dE (findR [([97], f)] [97] [] true).2 true (-1) = 0 := rfl
  rw [hv]
  obtain ⟨f5, hf5⟩ : ∃ f5 : FV, f5 = { f with kept := (f.n : Int) } := ⟨_, rfl⟩
  have d1 : f5.n = 3 := by rw [hf5]; exact e1
  have d2 : f5.xs = [97, 98, 99] := by rw [hf5]; exact e2
  have d3 : f5.kept = 3 := by rw [hf5]; show (f.n : Int) = 3; rw [e1]; rfl
  rw [← hf5] at hD5
  clear hv hA bU hD4 hP4 B4 hB4 hf5 e1 e2
  go_wp2_with fail
  have hl := Bs.lit' w5 5 (2, 3) [100, 101] #[.int .u8 100, .int .u8 101] 2 _ rfl rfl rfl
  have bl : Below w5.heap.size w5 (w5.alloc (.cells #[.int .u8 100, .int .u8 101] 5 (2, 3))) := (Below.refl _ _).alloc (Nat.le_refl _) _
  refine (append_any _ B gd mb (ptr gp) true (-1) [([97], f5)] [97] _ 2 2 [100, 101] (Nat.le_trans hB5 bl.size) hl (by decide) (hD5.later bl) (hP5.later bl) isI_m1).mono ?_
  rintro en w6 ⟨rfl, hA⟩
  have hv0 : appE (findR [([97], f5)] [97] [] true).2 (findR [([97], f5)] [97] [] true).1.n 2 = 0 := by
    show appE 0 f5.n 2 = 0
    rw [d1]; rfl
  rw [hv0] at hA ⊢
  obtain ⟨fs6, ⟨f, rfl, q1, q2, q3⟩, hD6, hP6, bU⟩ := ActedP.ok hA
  have B5a : Below B w _ := B5.trans (bl.mono hB5)
  have B6 : Below B w w6 := B5a.trans (frame_below bU (hD5.later bl) hgp (Nat.le_trans hB5 bl.size))
  have hD6 : DiskAt w6 B gd (ptr gp) mb [([97], f)] := hD6
  have hB6 := Nat.le_trans hBw B6.size
  have e1 : f.n = 5 := q1.trans (by show f5.n + 2 = 5; rw [d1])
  have e2 : f.xs = [97, 98, 99, 100, 101] := q2.trans (by show f5.xs ++ [100, 101] = _; rw [d2]; rfl)
  have e3 : f.kept = 3 := q3.trans d3
  have hv : dE 0 true (-1) = 0 := rfl
  rw [hv]
  clear hv hv0 hA bU hD5 hP5 B5 hB5 hl bl B5a d1 d2 d3 q1 q2 q3
  go_wp2_with fail
  have rI : Row (w6.alloc (.cells #[.int .i64 4] 3)) 3 w6.heap.size [.int .i64 4] := by unfold Row; exact heap_alloc_new _ _
  have bl : Below w6.heap.size w6 (w6.alloc (.cells #[.int .i64 4] 3)) := (Below.refl _ _).alloc (Nat.le_refl _) _
  have hI : IsAt (w6.alloc (.cells #[.int .i64 4] 3)) (w6.alloc (.cells #[.int .i64 4] 3)).heap.size (some ⟨w6.heap.size, 0, none⟩) 1 [4] := ⟨rfl, fun _ => ⟨_, 0, rfl, rI.lt, fun j hj => by
    obtain rfl : j = 0 := by omega
    exact rI.cell (j := 0) rfl⟩⟩
  refine (crash_any _ B gd mb gp true (-1) [([97], f)] _ 1 1 [4] hI (fun b o e hk => by
    cases e
    have := (hD6.blo _ hk).2
    omega) (hD6.later bl) (hP6.later bl).plg).mono ?_
  rintro en w8 ⟨rfl, hD8, hP8, bU⟩
  have B8 : Below B w w8 := (B6.trans (bl.mono hB6)).trans (bU.below (fun k hk => by
    rcases List.mem_cons.1 hk with e | hk
    · omega
    · exact ((hD6.later bl).blo k hk).1) (Nat.le_trans hB6 bl.size))
  have hB8 := Nat.le_trans hBw B8.size
  obtain ⟨f8, hf8⟩ : ∃ f8 : FV, f8 = tornV f 4 := ⟨_, rfl⟩
  have hcr : crashF [([97], f)] [4] = [([97], f8)] := by rw [hf8]; rfl
  rw [hcr] at hD8
  have hN : tornN f 4 = 4 := by unfold tornN; rw [e1, e3]; decide
  have d1 : f8.n = 4 := by rw [hf8]; exact hN
  have d2 : f8.xs = [97, 98, 99, 100] := by rw [hf8]; show f.xs.take (tornN f 4) = _; rw [hN, e2]; rfl
  have HR := read_any w8 B gd mb (ptr gp) true (-1) [([97], f8)] [97] hD8 (.inl ⟨gp, rfl, hP8⟩)
  rw [show findR [([97], f8)] [97] [] true = (f8, 0) from rfl] at HR
  simp only [d1, d2] at HR
  clear hcr hN hf8 e1 e2 e3 hI rI bl hD6 hP6 B6 hB6 bU
  have HR := hide HR
  go_wp2_with fail
  refine HR.out.mono ?_
  rintro en w9 ⟨A9, c9, rfl, own9, b9⟩
  have hs9 : Bs w9 w9.heap.size A9 4 [97, 98, 99, 100] := by
    obtain ⟨A', c', hv, hb, _⟩ := ownsRow_bs own9
    injection hv with h1 _ _
    rw [h1]
    exact hb
  have e1 := hs9.convert (P := Try.prog) c9 35 5 9 Try.underlying35 Try.underlying5 Try.underlying9
  have hD9 := hD8.later b9
  have hP9 : PlAt w9 (ptr gp) true (-1) := .inl ⟨gp, rfl, Row.later hP8 b9⟩
  have B9 : Below B w w9 := B8.trans (b9.mono hB8)
  rw [show strOfNums [97, 98, 99, 100] = ⟨#[97, 98, 99, 100]⟩ from rfl] at e1
  clear HR own9 b9 hs9 hD8 hP8 B8 kc
  have hB9 := Nat.le_trans hBw B9.size
  go_wp2_with fail
  refine (append_any w9 B gd mb (ptr gp) true (-1) [([97], f8)] [98] none 0 0 [] hB9 Bs.nil_ (by decide) hD9 hP9 isI_m1).mono ?_
  rintro en w10 ⟨rfl, hA⟩
  have hv : dE (appE (findR [([97], f8)] [98] [] true).2 (findR [([97], f8)] [98] [] true).1.n 0) true (-1) = 9 := rfl
  rw [hv]
  obtain ⟨fs', _, _, _, bU, _⟩ := hA
  have B10 : Below B w w10 := B9.trans (frame_below bU hD9 hgp hB9)
  clear bU hD9 hP9 hv
  go_wp2_with fail
  go_ret
  exact ⟨rfl, hBe ▸ B10⟩
end Go.Proofs.Ytfijhfolanhifaa

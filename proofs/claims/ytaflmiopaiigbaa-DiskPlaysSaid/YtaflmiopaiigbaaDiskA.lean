/-
  Maps keyed by strings, whose elements are any values: what such a map has, as a list of names and values; look-up, store, delete, length. Own work, over the library's maps.
-/
import Derived.Test.YtaflmiopaiigbaaOpen
import Derived.Test.YtaflmiopaiigbaaCellB
import Derived.Test.YtaflmiopaiigbaaEqArr
import Derived.Maps.OwnSet
import Derived.Maps.RangeWalk
import Derived.Sort.KeysCollected
import Derived.StringKeys
namespace Go.Proofs.Ytaflmiopaiigbaa
open Go.RowKit Go.Maps Go.ChangeMaps
set_option linter.unusedVariables false
set_option linter.unusedSimpArgs false
abbrev Nm := List UInt8
abbrev Ents := List (Nm × Value)
/-- An element reads as itself. -/
def heldE : Value → Option (DataW Value × List MemPlace) := fun v => some (.held v, [])
def entD (l : Ents) : DataW Value := .map (l.map fun p => (.string p.1, .held p.2))
def insE (x : Nm × Value) : Ents → Ents
  | [] => [x]
  | y :: r => if bytesBefore x.1 y.1 then x :: y :: r else y :: insE x r
def delE (l : Ents) (n : Nm) : Ents := l.filter fun p => !(p.1 == n)
def putE (l : Ents) (n : Nm) (v : Value) : Ents := insE (n, v) (delE l n)
def atE (l : Ents) (n : Nm) : Option Value := (l.find? fun p => p.1 == n).map (·.2)
def riseE (l : Ents) : Prop := l.Pairwise fun p q => bytesBefore p.1 q.1 = true
theorem entD_ins (x : Nm × Value) : ∀ l : Ents, DataW.insert (Lit.string x.1, DataW.held x.2) (l.map fun p => (Lit.string p.1, DataW.held p.2)) = (insE x l).map fun p => (Lit.string p.1, DataW.held p.2)
  | [] => rfl
  | y :: r => by
    simp only [List.map_cons, DataW.insert, insE, Lit.before]
    by_cases h : bytesBefore x.1 y.1 = true
    · simp only [h, if_true]; rfl
    · simp only [h]; rw [entD_ins x r]; rfl
theorem entD_filter (l : Ents) (n : Nm) : (l.map fun p => ((Lit.string p.1, DataW.held p.2) : Lit × DataW Value)).filter (fun p => !p.1.sameKey (.string n)) = (delE l n).map fun p => (Lit.string p.1, DataW.held p.2) := by
  unfold delE
  rw [List.filter_map]
  rfl
theorem entD_put (l : Ents) (n : Nm) (v : Value) : (entD l).put (.string n) (.held v) = entD (putE l n v) := by
  show DataW.map (DataW.insert (Lit.string n, DataW.held v) ((l.map fun p => ((Lit.string p.1, DataW.held p.2) : Lit × DataW Value)).filter fun p => !p.1.sameKey (.string n))) = _
  rw [entD_filter, entD_ins (n, v)]
  rfl
theorem entD_del (l : Ents) (n : Nm) : (entD l).del (.string n) = entD (delE l n) := by
  show DataW.map ((l.map fun p => ((Lit.string p.1, DataW.held p.2) : Lit × DataW Value)).filter fun p => !p.1.sameKey (.string n)) = _
  rw [entD_filter]
  rfl
theorem entD_find (l : Ents) (n : Nm) : (l.map fun p => ((Lit.string p.1, DataW.held p.2) : Lit × DataW Value)).find? (fun p => p.1.sameKey (.string n)) = (l.find? fun p => p.1 == n).map fun p => (Lit.string p.1, DataW.held p.2) := by
  rw [List.find?_map]
  rfl
theorem entD_at (l : Ents) (n : Nm) (z : Value) : (entD l).atKey (.string n) (.held z) = .held ((atE l n).getD z) := by
  unfold entD atE DataW.atKey
  simp only [entD_find]
  cases l.find? fun p => p.1 == n <;> rfl
theorem entD_has (l : Ents) (n : Nm) : has (entD l) (.string n) = (atE l n).isSome := by
  show (l.map fun p => ((Lit.string p.1, DataW.held p.2) : Lit × DataW Value)).any (fun p => p.1.sameKey (.string n)) = _
  rw [List.any_map]
  unfold atE
  rw [Option.isSome_map]
  apply Bool.eq_iff_iff.2
  rw [List.find?_isSome]
  simp [Lit.sameKey]
theorem entD_size (l : Ents) : size (entD l) = l.length := by show (l.map _).length = _; simp
theorem entD_keys (l : Ents) : strKeys (entD l) = l.map (·.1) := by
  show (l.map fun p => ((Lit.string p.1, DataW.held p.2) : Lit × DataW Value)).map (fun p => strOf p.1) = _
  rw [List.map_map]
  rfl
/-- Block b is a map that has just these. -/
def MapAt (w : World) (b : Nat) (l : Ents) : Prop := w.ownsMap Try.prog 9 heldE b l.length (entD l)
theorem keyS : Keyed Try.prog 9 := string_keyed Try.underlying9
theorem keyOf_enc (n : Nm) (h : n.length ≤ maxLen) : keyOf Try.prog 9 (encStr n) = some (.string n) := by
  have := Go.WideMaps.keyOf_string_mk (P := Try.prog) (k := 9) Try.underlying9 (s := ⟨n.toArray⟩) (by show n.toArray.size ≤ _; simpa using h)
  simpa using this
theorem own_exact {w : World} {b n : Nat} {D : DataW Value} (h : w.ownsMap Try.prog 9 heldE b n D) : w.ownsMap Try.prog 9 heldE b (size D) D := by
  obtain ⟨es, clock, hb, F, hs, rfl⟩ := h
  exact ⟨es, clock, hb, F, by simp [size, length_sorted], rfl⟩
section
variable {w w' : World} {b B : Nat} {l : Ents}
theorem MapAt.lt (h : MapAt w b l) : b < w.heap.size := World.ownsMap.lt h
theorem MapAt.rise (h : MapAt w b l) : riseE l := by
  obtain ⟨es, clock, hb, F, hs, hD⟩ := h
  have h1 := Go.WideShapes.rising_pairwise _ (fit_rising keyS F)
  have h2 : (l.map fun p => ((Lit.string p.1, DataW.held p.2) : Lit × DataW Value)) = _ := DataW.map.inj hD
  rw [← h2, List.pairwise_map] at h1
  exact h1
theorem MapAt.same (h : MapAt w b l) (e : w'.heap[b]? = w.heap[b]?) : MapAt w' b l := by
  obtain ⟨es, clock, hb, F, hs, hD⟩ := h
  exact ⟨es, clock, e.trans hb, F, hs, hD⟩
theorem MapAt.later (h : MapAt w b l) (hb : Below w.heap.size w w') : MapAt w' b l := h.same (hb.block b h.lt)
theorem MapAt.below (h : MapAt w b l) (hb : Below B w w') (hB : b < B) : MapAt w' b l := h.same (hb.block b hB)
theorem MapAt.only {g : Nat} (h : MapAt w b l) (ho : Only g w w') (hne : b ≠ g) : MapAt w' b l := h.same (ho.block b hne)
theorem MapAt.buts {S : List Nat} (h : MapAt w b l) (ho : Buts S w w') (hne : b ∉ S) : MapAt w' b l := h.same (ho.block b h.lt hne)
theorem MapAt.ne_row {t g : Nat} {vs : List Value} (h : MapAt w b l) (hr : Row w t g vs) : b ≠ g := by
  obtain ⟨es, clock, hb, _⟩ := h
  intro e
  subst e
  unfold Row at hr
  rw [hb] at hr
  cases hr
theorem MapAt.made (w : World) : MapAt (w.alloc (.map #[] 0)) w.heap.size [] := World.ownsMap_made w _ _ _
theorem turned_only {g : Nat} (h : w.mapTurned w' g) : Only g w w' := by
  obtain ⟨es, clock, es', clock', hb, rfl⟩ := h
  exact ⟨rfl, rfl, rfl, by simp [ChangeMaps.setBlock], fun k hk => Go.ChangeMaps.heap_setBlock_other hb _ hk⟩
end
/-- What a file has: its slice, its bytes, how many are kept. -/
structure FV where
  A : Option Addr
  n : Nat
  c : Nat
  xs : List Int
  kept : Int
abbrev Fs := List (Nm × FV)
abbrev FV.cells (f : FV) : List Value := [.slice f.A f.n f.c, .int .i64 f.kept]
abbrev FV.val (f : FV) : Value := .agg #[.slice f.A f.n f.c, .int .i64 f.kept]
abbrev FV.sl (f : FV) : Value := .slice f.A f.n f.c
/-- A file that is not there. -/
def zV : FV := ⟨none, 0, 0, [], 0⟩
def ents (fs : Fs) : Ents := fs.map fun p => (p.1, p.2.val)
def insF (x : Nm × FV) : Fs → Fs
  | [] => [x]
  | y :: r => if bytesBefore x.1 y.1 then x :: y :: r else y :: insF x r
def delF (l : Fs) (n : Nm) : Fs := l.filter fun p => !(p.1 == n)
def putF (l : Fs) (n : Nm) (v : FV) : Fs := insF (n, v) (delF l n)
def atF (l : Fs) (n : Nm) : Option FV := (l.find? fun p => p.1 == n).map (·.2)
theorem ents_len (fs : Fs) : (ents fs).length = fs.length := by simp [ents]
theorem ents_ins (x : Nm × FV) : ∀ l : Fs, ents (insF x l) = insE (x.1, x.2.val) (ents l)
  | [] => rfl
  | y :: r => by
    show ents (if bytesBefore x.1 y.1 then x :: y :: r else y :: insF x r) = (if bytesBefore x.1 y.1 then (x.1, x.2.val) :: (y.1, y.2.val) :: ents r else (y.1, y.2.val) :: insE (x.1, x.2.val) (ents r))
    by_cases h : bytesBefore x.1 y.1 = true
    · simp only [h, if_true]; rfl
    · simp only [h]; rw [← ents_ins x r]; rfl
theorem ents_del (l : Fs) (n : Nm) : ents (delF l n) = delE (ents l) n := by
  unfold ents delE delF
  rw [List.filter_map]
  rfl
theorem ents_put (l : Fs) (n : Nm) (v : FV) : ents (putF l n v) = putE (ents l) n v.val := by rw [putF, ents_ins, ents_del]; rfl
theorem ents_at (l : Fs) (n : Nm) : atE (ents l) n = (atF l n).map FV.val := by
  unfold ents atE atF
  rw [List.find?_map, Option.map_map, Option.map_map]
  rfl
theorem ents_get (l : Fs) (n : Nm) : (atE (ents l) n).getD (.agg #[.slice none 0 0, .int .i64 0]) = ((atF l n).getD zV).val := by
  rw [ents_at]
  cases atF l n <;> rfl
theorem ents_some (l : Fs) (n : Nm) : (atE (ents l) n).isSome = (atF l n).isSome := by rw [ents_at, Option.isSome_map]
/-- Block b is a map that has just these files. -/
abbrev FMap (w : World) (b : Nat) (fs : Fs) : Prop := MapAt w b (ents fs)
end Go.Proofs.Ytaflmiopaiigbaa

/-
  What a call leaves of memory that writes into one old block; parts of a struct that is built. Own work.
-/
import Derived.Test.YtaflmiopaiigbaaMem2
namespace Go.Proofs.Ytaflmiopaiigbaa
open Go.RowKit
set_option linter.unusedVariables false
set_option linter.unusedSimpArgs false
/-- From w to w' nothing that was there has turned but block g. -/
structure But (g : Nat) (w w' : World) : Prop where
  os : w'.os = w.os
  tape : w'.tape = w.tape
  output : w'.output = w.output
  size : w.heap.size ≤ w'.heap.size
  block : ∀ k, k < w.heap.size → k ≠ g → w'.heap[k]? = w.heap[k]?
section
variable {g B t g' : Nat} {w w' a b c : World} {vs : List Value}
theorem But.refl (g : Nat) (w : World) : But g w w := ⟨rfl, rfl, rfl, Nat.le_refl _, fun _ _ _ => rfl⟩
theorem But.trans (h : But g a b) (k : But g b c) : But g a c :=
  ⟨k.os.trans h.os, k.tape.trans h.tape, k.output.trans h.output, Nat.le_trans h.size k.size, fun i hi hg => (k.block i (Nat.lt_of_lt_of_le hi h.size) hg).trans (h.block i hi hg)⟩
theorem But.of (h : Below w.heap.size w w') (g : Nat) : But g w w' := ⟨h.os, h.tape, h.output, h.size, fun k hk _ => h.block k hk⟩
theorem But.only (h : Only g w w') : But g w w' := ⟨h.os, h.tape, h.output, Nat.le_of_eq h.size.symm, fun k _ hg => h.block k hg⟩
theorem But.below (h : But g w w') (hB : B ≤ g) (hw : B ≤ w.heap.size) : Below B w w' := ⟨h.os, h.tape, h.output, h.size, fun k hk => h.block k (by omega) (by omega)⟩
theorem Row.but (h : Row w t g' vs) (hb : But g w w') (hne : g' ≠ g) : Row w' t g' vs := (hb.block g' h.lt hne).trans h
theorem But.drew (h : But g a w) : But g a w.drew := ⟨h.os, h.tape, h.output, h.size, h.block⟩
end

/-! ### Parts of a struct that is built -/
theorem fold_splice : ∀ (V L : List Value) (off : Nat), off + V.length ≤ L.length → (V.toArray.zipIdx.foldl (fun cs (x : Value × Nat) => cs.setIfInBounds (off + x.2) x.1) L.toArray) = (splice L off V).toArray := by
  intro V
  have key : ∀ (V L : List Value) (k off : Nat), off + k + V.length ≤ L.length → (V.zipIdx k).foldl (fun (cs : Array Value) (x : Value × Nat) => cs.setIfInBounds (off + x.2) x.1) L.toArray = (splice L (off + k) V).toArray := by
    intro V
    induction V with
    | nil => intro L k off h; simp [splice]
    | cons v V ih =>
      intro L k off h
      simp only [List.zipIdx_cons, List.foldl_cons, List.length_cons] at h ⊢
      rw [show (L.toArray.setIfInBounds (off + k) v) = (L.set (off + k) v).toArray by simp, ih _ _ _ (by simp; omega)]
      congr 1
      simp only [splice, List.length_cons]
      rw [show off + (k + 1) = off + k + 1 from by omega, List.take_succ_eq_append_getElem (by simp; omega), List.getElem_set_self, List.take_set_of_le (Nat.le_refl _), List.append_assoc, List.drop_set_of_lt (by omega)]
      simp
      congr 1
      omega
  intro L off h
  have := key V L 0 off (by simpa using h)
  rw [← Array.foldl_toList]
  simpa using this
theorem splice_mid {A M C V : List Value} {off : Nat} (hA : A.length = off) (hM : M.length = V.length) : splice (A ++ (M ++ C)) off V = A ++ (V ++ C) := by
  subst hA
  simp [splice, ← hM]
theorem fill_part {place : Nat → Option (Nat × Nat)} {A M C V : List Value} {i off n : Nat} {v : Value} {rest : List (Nat × Value)} (hp : place i = some (off, n)) (hv : v.cells = V.toArray) (hn : V.length = n) (hA : A.length = off) (hM : M.length = n) :
    Instr.fill place (A ++ (M ++ C)).toArray ((i, v) :: rest) = Instr.fill place (A ++ (V ++ C)).toArray rest := by
  subst hn
  conv => lhs; unfold Instr.fill
  simp only [hp, hv, List.size_toArray, ne_eq, not_true_eq_false, decide_false, Bool.false_or, gt_iff_lt]
  rw [if_neg (by simp; omega), fold_splice V _ off (by simp; omega), splice_mid hA hM]
theorem fill_cons {place : Nat → Option (Nat × Nat)} {L V : List Value} {i off n : Nat} {v : Value} {rest : List (Nat × Value)} (hp : place i = some (off, n)) (hv : v.cells = V.toArray) (hn : V.length = n) (hl : off + n ≤ L.length) :
    Instr.fill place L.toArray ((i, v) :: rest) = Instr.fill place (splice L off V).toArray rest := by
  subst hn
  conv => lhs; unfold Instr.fill
  simp only [hp, hv, List.size_toArray, ne_eq, not_true_eq_false, decide_false, Bool.false_or, gt_iff_lt]
  rw [if_neg (by simp; omega), fold_splice V L off hl]
theorem built_struct {P : Program} {t : TypeId} {fs : Array Field} {z : Value} {zs : List Value} {places : List (Nat × Nat)} {parts : List (Nat × Value)} (hi : (P.info? t).map (fun i => i.zero) = some (some z)) (hz : z.cells = zs.toArray)
    (hu : P.underlying t = some (.struct fs)) (hp : fs.toList.mapM (fun f => (P.info? f.type).map fun i => (f.offset, i.size)) = some places) :
    P.built t parts = Instr.fill (fun i => places[i]?) zs.toArray parts := by
  cases hq : P.info? t with
  | none => simp [hq] at hi
  | some it =>
    simp [hq] at hi
    simp [Program.built, hq, hu, hi, hp, hz]
end Go.Proofs.Ytaflmiopaiigbaa

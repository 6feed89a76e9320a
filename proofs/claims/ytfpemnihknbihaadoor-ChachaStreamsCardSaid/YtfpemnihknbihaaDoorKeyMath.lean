/-
  The bytes of a stream, as lists: plain mathematics; and what a call leaves of memory that writes into one old block. Own work.
-/
import Derived.Test.YtfpemnihknbihaaDoorBlock
namespace Go.Proofs.YtfpemnihknbihaaDoor
open Go.RowKit
set_option linter.unusedVariables false
set_option linter.unusedSimpArgs false
/-- The byte of the stream with the key ks and the nonce ns that stands at place p, from counter 0 on. -/
def kbyte (ks ns : List Int) (p : Nat) : Int := (blockL ks ((p / 64 : Nat) : Int) ns).getD (p % 64) 0
/-- The n bytes from place p on. -/
def ksl (ks ns : List Int) (p n : Nat) : List Int := (List.range n).map fun i => kbyte ks ns (p + i)
theorem ksl_len (ks ns : List Int) (p n : Nat) : (ksl ks ns p n).length = n := by simp [ksl]
theorem ksl_get {ks ns : List Int} {p n i : Nat} (h : i < n) : (ksl ks ns p n).getD i 0 = kbyte ks ns (p + i) := by
  simp [ksl, List.getD, h]
theorem blockL_by (ks : List Int) (c : Int) (ns : List Int) : IsBy (blockL ks c ns) := blockP_by ks c ns 16
theorem by_getD (b : List Int) (h : IsBy b) (i : Nat) : 0 ≤ b.getD i 0 ∧ b.getD i 0 < 256 := getD_byte h i
theorem kbyte_by (ks ns : List Int) (p : Nat) : 0 ≤ kbyte ks ns p ∧ kbyte ks ns p < 256 := by
  have h := by_getD (blockL ks ((p / 64 : Nat) : Int) ns) (blockL_by _ _ _) (p % 64)
  rw [kbyte]
  exact h
theorem ksl_add (ks ns : List Int) (p n m : Nat) : ksl ks ns p (n + m) = ksl ks ns p n ++ ksl ks ns (p + n) m := by
  simp only [ksl, List.range_add, List.map_append, List.map_map]
  refine congrArg (fun l => List.map (fun i => kbyte ks ns (p + i)) (List.range n) ++ l) ?_
  refine List.map_congr_left fun i _ => ?_
  simp only [Function.comp_apply, Nat.add_assoc]
/-- Some bytes of one block. -/
theorem ksl_block {ks ns : List Int} {p n : Nat} (h : p % 64 + n ≤ 64) : ksl ks ns p n = ((blockL ks ((p / 64 : Nat) : Int) ns).drop (p % 64)).take n := by
  apply List.ext_getElem
  · rw [ksl_len, List.length_take, List.length_drop, blockL_len]; omega
  · intro i h1 h2
    rw [ksl_len] at h1
    have e1 : (p + i) / 64 = p / 64 := by omega
    have e2 : (p + i) % 64 = p % 64 + i := by omega
    have hl : p % 64 + i < (blockL ks ((p / 64 : Nat) : Int) ns).length := by rw [blockL_len]; omega
    simp only [ksl, List.getElem_map, List.getElem_range, kbyte, e1, e2, List.getElem_take, List.getElem_drop, List.getD, List.getElem?_eq_getElem hl, Option.getD_some]
/-- xs, xored with the bytes of the stream from place p on. -/
def outL (ks ns : List Int) (p : Nat) (xs : List Int) : List Int := (List.range xs.length).map fun i => bits .xor .u8 (xs.getD i 0) (kbyte ks ns (p + i))
theorem outL_len (ks ns : List Int) (p : Nat) (xs : List Int) : (outL ks ns p xs).length = xs.length := by simp [outL]
/-- Its first k bytes. -/
def outP (ks ns : List Int) (p : Nat) (xs : List Int) (k : Nat) : List Int := (List.range k).map fun i => bits .xor .u8 (xs.getD i 0) (kbyte ks ns (p + i))
theorem outP_len (ks ns : List Int) (p : Nat) (xs : List Int) (k : Nat) : (outP ks ns p xs k).length = k := by simp [outP]
theorem outP_succ (ks ns : List Int) (p : Nat) (xs : List Int) (k : Nat) : outP ks ns p xs (k + 1) = outP ks ns p xs k ++ [bits .xor .u8 (xs.getD k 0) (kbyte ks ns (p + k))] := by
  simp [outP, List.range_succ]
theorem outP_all (ks ns : List Int) (p : Nat) (xs : List Int) : outP ks ns p xs xs.length = outL ks ns p xs := rfl

/-- How far a stream with l bytes left has come. -/
def pos (l : Nat) : Nat := 274877906944 - l
theorem pos_div {l : Nat} (h0 : 0 < l) (h : l ≤ 274877906944) : ((pos l / 64 : Nat) : Int) = 4294967296 - ((l : Int) + 63) / 64 := by unfold pos; omega
theorem pos_mod {l : Nat} (h : l ≤ 274877906944) : pos l % 64 = (64 - l % 64) % 64 := by unfold pos; omega
theorem pos_sub {l n : Nat} (h : n ≤ l) (hl : l ≤ 274877906944) : pos (l - n) = pos l + n := by unfold pos; omega

/-- From w to w' nothing that was there has turned but block g. -/
structure But (g : Nat) (w w' : World) : Prop where
  os : w'.os = w.os
  tape : w'.tape = w.tape
  output : w'.output = w.output
  size : w.heap.size ≤ w'.heap.size
  block : ∀ k, k < w.heap.size → k ≠ g → w'.heap[k]? = w.heap[k]?
section
variable {g B t g' : Nat} {w w' a b c : World} {vs : List Value}
theorem But.refl (g : Nat) (w : World) : But g w w := ⟨rfl, rfl, rfl, Nat.le_refl _, fun _ _ _ => rfl⟩
theorem But.trans (h : But g a b) (k : But g b c) : But g a c :=
  ⟨k.os.trans h.os, k.tape.trans h.tape, k.output.trans h.output, Nat.le_trans h.size k.size, fun i hi hg => (k.block i (Nat.lt_of_lt_of_le hi h.size) hg).trans (h.block i hi hg)⟩
theorem But.of (h : Below w.heap.size w w') (g : Nat) : But g w w' := ⟨h.os, h.tape, h.output, h.size, fun k hk _ => h.block k hk⟩
theorem But.only (h : Only g w w') : But g w w' := ⟨h.os, h.tape, h.output, Nat.le_of_eq h.size.symm, fun k _ hg => h.block k hg⟩
theorem But.below (h : But g w w') (hB : B ≤ g) (hw : B ≤ w.heap.size) : Below B w w' := ⟨h.os, h.tape, h.output, h.size, fun k hk => h.block k (by omega) (by omega)⟩
theorem Row.but (h : Row w t g' vs) (hb : But g w w') (hne : g' ≠ g) : Row w' t g' vs := (hb.block g' h.lt hne).trans h
theorem But.drew (h : But g a w) : But g a w.drew := ⟨h.os, h.tape, h.output, h.size, h.block⟩
end

/-! ### Parts of a struct that is built -/
theorem fold_splice : ∀ (V L : List Value) (off : Nat), off + V.length ≤ L.length → (V.toArray.zipIdx.foldl (fun cs (x : Value × Nat) => cs.setIfInBounds (off + x.2) x.1) L.toArray) = (splice L off V).toArray := by
  intro V
  have key : ∀ (V L : List Value) (k off : Nat), off + k + V.length ≤ L.length → (V.zipIdx k).foldl (fun (cs : Array Value) (x : Value × Nat) => cs.setIfInBounds (off + x.2) x.1) L.toArray = (splice L (off + k) V).toArray := by
    intro V
    induction V with
    | nil => intro L k off h; simp [splice]
    | cons v V ih =>
      intro L k off h
      simp only [List.zipIdx_cons, List.foldl_cons, List.length_cons] at h ⊢
      rw [show (L.toArray.setIfInBounds (off + k) v) = (L.set (off + k) v).toArray by simp, ih _ _ _ (by simp; omega)]
      congr 1
      simp only [splice, List.length_cons]
      rw [show off + (k + 1) = off + k + 1 from by omega, List.take_succ_eq_append_getElem (by simp; omega), List.getElem_set_self, List.take_set_of_le (Nat.le_refl _), List.append_assoc, List.drop_set_of_lt (by omega)]
      simp
      congr 1
      omega
  intro L off h
  have := key V L 0 off (by simpa using h)
  rw [← Array.foldl_toList]
  simpa using this
theorem splice_mid {A M C V : List Value} {off : Nat} (hA : A.length = off) (hM : M.length = V.length) : splice (A ++ (M ++ C)) off V = A ++ (V ++ C) := by
  subst hA
  simp [splice, ← hM]
theorem fill_part {place : Nat → Option (Nat × Nat)} {A M C V : List Value} {i off n : Nat} {v : Value} {rest : List (Nat × Value)} (hp : place i = some (off, n)) (hv : v.cells = V.toArray) (hn : V.length = n) (hA : A.length = off) (hM : M.length = n) :
    Instr.fill place (A ++ (M ++ C)).toArray ((i, v) :: rest) = Instr.fill place (A ++ (V ++ C)).toArray rest := by
  subst hn
  conv => lhs; unfold Instr.fill
  simp only [hp, hv, List.size_toArray, ne_eq, not_true_eq_false, decide_false, Bool.false_or, gt_iff_lt]
  rw [if_neg (by simp; omega), fold_splice V _ off (by simp; omega), splice_mid hA hM]
theorem fill_cons {place : Nat → Option (Nat × Nat)} {L V : List Value} {i off n : Nat} {v : Value} {rest : List (Nat × Value)} (hp : place i = some (off, n)) (hv : v.cells = V.toArray) (hn : V.length = n) (hl : off + n ≤ L.length) :
    Instr.fill place L.toArray ((i, v) :: rest) = Instr.fill place (splice L off V).toArray rest := by
  subst hn
  conv => lhs; unfold Instr.fill
  simp only [hp, hv, List.size_toArray, ne_eq, not_true_eq_false, decide_false, Bool.false_or, gt_iff_lt]
  rw [if_neg (by simp; omega), fold_splice V L off hl]
theorem built_struct {P : Program} {t : TypeId} {fs : Array Field} {z : Value} {zs : List Value} {places : List (Nat × Nat)} {parts : List (Nat × Value)} (hi : (P.info? t).map (fun i => i.zero) = some (some z)) (hz : z.cells = zs.toArray)
    (hu : P.underlying t = some (.struct fs)) (hp : fs.toList.mapM (fun f => (P.info? f.type).map fun i => (f.offset, i.size)) = some places) :
    P.built t parts = Instr.fill (fun i => places[i]?) zs.toArray parts := by
  cases hq : P.info? t with
  | none => simp [hq] at hi
  | some it =>
    simp [hq] at hi
    simp [Program.built, hq, hu, hi, hp, hz]
end Go.Proofs.YtfpemnihknbihaaDoor

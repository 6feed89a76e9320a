/-
  Bytes of a string, turned in place. Own work.
-/
import Derived.Test.YthjcmgjmdjihnaaDoorRun
import Derived.Lib.ConvBytes
import Derived.Lib.AtoiErrMem
namespace Go.Proofs.YthjcmgjmdjihnaaDoor
open Go.RowKit
set_option linter.unusedVariables false
set_option linter.unusedSimpArgs false
/-- A block that holds the bytes of a string that was made into a slice. -/
def BufB (w : World) (g e : Nat) (xs : List Int) : Prop := ∃ C : List Value, w.heap[g]? = some (.cells (bv xs ++ C).toArray e ((bv xs ++ C).length, (bv xs ++ C).length + 1))
theorem BufB.lt {w : World} {g e : Nat} {xs : List Int} (h : BufB w g e xs) : g < w.heap.size := by
  obtain ⟨C, h⟩ := h
  rcases Nat.lt_or_ge g w.heap.size with h1 | h1
  · exact h1
  · rw [Array.getElem?_eq_none h1] at h; cases h
theorem BufB.cell {w : World} {g e : Nat} {xs : List Int} (h : BufB w g e xs) {j : Nat} {x : Int} (hj : xs[j]? = some x) : w.cell? ⟨g, j, none⟩ = some (.int .u8 x) := by
  obtain ⟨C, h⟩ := h
  have hl : j < xs.length := (List.getElem?_eq_some_iff.1 hj).1
  simp only [World.cell?, h]
  rw [List.getElem?_toArray, List.getElem?_append_left (by rw [bv_len]; exact hl)]
  simp [bv, hj]
theorem BufB.frozen {w : World} {g e : Nat} {xs : List Int} (h : BufB w g e xs) {j : Nat} (hj : j < xs.length) : w.frozen? ⟨g, j, none⟩ = false := by
  obtain ⟨C, h⟩ := h
  have : j < (bv xs ++ C).length := by rw [List.length_append, bv_len]; omega
  generalize bv xs ++ C = L at *
  simp [World.frozen?, h]
  omega
theorem BufB.later {w w' : World} {g e : Nat} {xs : List Int} (h : BufB w g e xs) (hb : Below w.heap.size w w') : BufB w' g e xs := by
  have hl := h.lt
  obtain ⟨C, h⟩ := h
  exact ⟨C, (hb.block g hl).trans h⟩
theorem BufB.bs {w : World} {g e : Nat} {xs : List Int} (h : BufB w g e xs) : Bs w w.heap.size (some ⟨g, 0, none⟩) xs.length xs :=
  ⟨rfl, fun _ => ⟨g, 0, rfl, h.lt, fun j hj => by
    rw [Nat.zero_add, h.cell (List.getElem?_eq_getElem hj)]
    simp [List.getD, hj]⟩⟩
theorem BufB.set {w : World} {g e i : Nat} {xs : List Int} {v : Int} (h : BufB w g e xs) (hi : i < xs.length) : BufB (w.setCell ⟨g, i, none⟩ (.int .u8 v)) g e (xs.set i v) := by
  obtain ⟨C, h⟩ := h
  refine ⟨C, ?_⟩
  have hl : (bv (xs.set i v) ++ C).length = (bv xs ++ C).length := by simp [bv_len]
  rw [hl, setCell_eq_setRow w g i _ e _ _ h, setRow_heap w g _ _ e _ h]
  congr 2
  rw [← bv_set, List.setIfInBounds_toArray]
  congr 1
  rw [List.set_append_left _ _ (by rw [bv_len]; exact hi)]
theorem wl_storeB {P : Program} {ops : Array Oper} {rest : List Oper} {o : Oper} {a : Act} {w : World} {Q : Exit → Act → World → Prop} (hgd : o.guard = none) (ty : TypeId) (x y : Operand) (g i e : Nat) (xs : List Int) (v : Int) (ho : o.op = .store ty x y) (hsz : (P.info? ty).map (·.size) = some 1) (hx : a.eval x = .pointer (some ⟨g, i, none⟩)) (hy : a.eval y = .int .u8 v) (h : BufB w g e xs) (hi : i < xs.length)
    (hk : ∀ w', BufB w' g e (xs.set i v) → Only g w w' → wpList P ops Q rest (a.put o.dst undef) w') : wpList P ops Q (o :: rest) a w :=
  wpList_plain hgd fun K hK => by
    have hc : w.cell? ⟨g, i, none⟩ = some (.int .u8 xs[i]) := h.cell (List.getElem?_eq_getElem hi)
    have hf := h.frozen hi
    have h1 : (Value.int .u8 v).oneCell' = true := rfl
    have hcells : (Value.int .u8 v).cells = #[Value.int .u8 v] := rfl
    have hadd : (⟨g, i, none⟩ : Addr).add 0 = ⟨g, i, none⟩ := by unfold Addr.add; split <;> simp_all
    cases hq : P.info? ty with
    | none => simp [hq] at hsz
    | some inf =>
      have hs : inf.size = 1 := by simp [hq] at hsz; exact hsz
      have hrun : (storeVar ty ⟨g, i, none⟩ (.int .u8 v)).run P w = .ok () (w.setCell ⟨g, i, none⟩ (.int .u8 v)) := by
        simp [storeVar, sizeOf, typeInfo, hq, hs, hcells, storeCells, hadd, run_store P w _ _ _ h1, hc, hf]
      unfold Oper.wp execOp
      simp only [ho, hx, hy, Instr.storeAt, Instr.sureAddr, Sem.run_bind, Sem.run_pure, Result.andThen_ok, hrun]
      exact hK _ _ (hk _ (h.set hi) (only_setCell _ _ _ _))
def numsL (l : List UInt8) : List Int := l.map fun c => (c.toNat : Int)
theorem numsL_len (l : List UInt8) : (numsL l).length = l.length := by simp [numsL]
theorem numsL_at {l : List UInt8} {j : Nat} {c : UInt8} (h : l[j]? = some c) : (numsL l)[j]? = some (c.toNat : Int) := by simp [numsL, h]
theorem strOf_numsL (l : List UInt8) : Value.string (strOfNums (numsL l)) = encStr l := by
  unfold encStr
  congr 1
  unfold strOfNums numsL
  congr 1
  congr 1
  rw [List.map_map]
  conv => rhs; rw [← List.map_id l]
  refine List.map_congr_left fun c _ => ?_
  simp
theorem wl_convF {P : Program} {ops : Array Oper} {rest : List Oper} {o : Oper} {a : Act} {w : World} {Q : Exit → Act → World → Prop} (hgd : o.guard = none) (src dst e : TypeId) (x : Operand) (l : List UInt8) (ho : o.op = .convert src dst x) (hx : a.eval x = encStr l)
    {u : TypeDesc} (hs : P.underlying src = some u) (hd : P.underlying dst = some (.slice e)) (he : P.underlying e = some (.int .u8))
    (hk : ∀ g c w', BufB w' g e (numsL l) → w.heap.size ≤ g → Below w.heap.size w w' → wpList P ops Q rest (a.put o.dst (.slice (some ⟨g, 0, none⟩) l.length c)) w') : wpList P ops Q (o :: rest) a w :=
  wpList_plain hgd fun K hK => by
    have hz := str_len l
    have hrun := Lib.run_convert_string_bytes (P := P) w src dst e ⟨l.toArray⟩ hs hd he
    rw [hz] at hrun
    unfold Oper.wp execOp
    simp only [ho, hx, encStr, Sem.run_bind, Sem.run_pure, Result.andThen_ok, hrun]
    refine hK _ _ (hk _ _ _ ?_ (Nat.le_refl _) (Lib.bytesWorld_below _ _ _))
    have hb := Lib.bytesWorld_at_new w e ⟨l.toArray⟩
    obtain ⟨C, hC⟩ : ∃ C : List Value, Lib.bytesCells w e ⟨l.toArray⟩ = (bv (numsL l) ++ C).toArray := by
      refine ⟨List.replicate (grownCap w (⟨l.toArray⟩ : ByteArray).size 0 e - (⟨l.toArray⟩ : ByteArray).size) (.int .u8 0), ?_⟩
      unfold Lib.bytesCells
      apply Array.ext'
      simp [bv, numsL]
    refine ⟨C, ?_⟩
    rw [hb, hC]
    simp
end Go.Proofs.YthjcmgjmdjihnaaDoor

/-
  A list literal of one struct or array of many cells. Plain theorems over whatever program. Own work.
-/
import Derived.Test.YthjcmgjmdjihnaaDoorApp
namespace Go.Proofs.YthjcmgjmdjihnaaDoor
open Go.RowKit
set_option linter.unusedVariables false
set_option linter.unusedSimpArgs false
theorem setAllB : ∀ (L : List Value) (k : Nat) (C : Array Value), ((L.zipIdx k).foldl (fun cs x => cs.setIfInBounds x.2 x.1) C).size = C.size ∧ ∀ j, ((L.zipIdx k).foldl (fun cs x => cs.setIfInBounds x.2 x.1) C)[j]? = if k ≤ j ∧ j < k + L.length ∧ j < C.size then L[j - k]? else C[j]? := by
  intro L
  induction L with
  | nil => intro k C; exact ⟨rfl, fun j => by rw [if_neg (by simp; omega)]; rfl⟩
  | cons v r ih =>
    intro k C
    obtain ⟨h1, h2⟩ := ih (k + 1) (C.setIfInBounds k v)
    simp only [List.zipIdx_cons, List.foldl_cons]
    refine ⟨by rw [h1, Array.size_setIfInBounds], fun j => ?_⟩
    rw [h2, Array.size_setIfInBounds, Array.getElem?_setIfInBounds]
    by_cases hc : k + 1 ≤ j ∧ j < k + 1 + r.length ∧ j < C.size
    · rw [if_pos hc, if_pos ⟨by omega, by rw [List.length_cons]; omega, hc.2.2⟩]
      obtain ⟨d, hd⟩ : ∃ d, j - k = d + 1 := ⟨j - k - 1, by omega⟩
      rw [hd, List.getElem?_cons_succ, show j - (k + 1) = d by omega]
    · rw [if_neg hc]
      by_cases hj : k = j
      · subst hj
        rw [if_pos rfl]
        by_cases hs : k < C.size
        · rw [if_pos hs, if_pos ⟨Nat.le_refl _, by rw [List.length_cons]; omega, hs⟩, Nat.sub_self]; rfl
        · rw [if_neg hs, if_neg (by omega)]; exact (Array.getElem?_eq_none (by omega)).symm
      · rw [if_neg hj, if_neg (by rw [List.length_cons]; omega)]
theorem fill_oneB (z M : Array Value) (hl : z.size = M.size) (h0 : 0 < M.size) : Instr.fill (fun i => some (i * M.size, M.size)) ((Array.range (1 * M.size)).map (z[· % z.size]!)) [(0, .agg M)] = some M := by
  have h : ((Array.range (1 * M.size)).map (z[· % z.size]!)).size = M.size := by simp
  generalize (Array.range (1 * M.size)).map (z[· % z.size]!) = C at *
  simp only [Instr.fill, Value.cells, Nat.zero_mul, Nat.zero_add]
  have key : M.zipIdx.foldl (fun cs x => cs.setIfInBounds x.2 x.1) C = M := by
    obtain ⟨h1, h2⟩ := setAllB M.toList 0 C
    have e : M.zipIdx.foldl (fun cs x => cs.setIfInBounds x.2 x.1) C = (M.toList.zipIdx 0).foldl (fun cs x => cs.setIfInBounds x.2 x.1) C := by rw [← Array.foldl_toList, Array.toList_zipIdx]
    rw [e]
    apply Array.ext_getElem?
    intro j
    rw [h2]
    by_cases hj : j < M.size
    · rw [if_pos ⟨Nat.zero_le _, by simpa using hj, by omega⟩]; simp
    · rw [if_neg (by omega), Array.getElem?_eq_none (by omega), Array.getElem?_eq_none (by omega)]
  simp [h]
  simpa using key
theorem st_build1B {P : Program} {o : Oper} {a : Act} {w : World} {K : Act → World → Prop} {Q : Exit → Act → World → Prop} (t : TypeId) (x : Operand) (ho : o.op = .buildSlice t 1 #[(0, x)]) (e : TypeId) (i : TypeInfo) (z : Value) (M : List Value) (n : Nat) (ht : P.underlying t = some (.slice e)) (hi : P.info? e = some i) (hz : i.zero = some z) (hzs : z.cells.size = n) (hsz : i.size = n) (hl : M.length = n) (h0 : 0 < n) (hn : n ≤ 1000) (hx : a.eval x = .agg M.toArray)
    (hk : ∀ g w', Row w' e g M → w.heap.size ≤ g → g < w'.heap.size → Below w.heap.size w w' → K (a.put o.dst (.slice (some ⟨g, 0, none⟩) 1 1)) w') : o.wp P a w K Q := by
  have hzz : ∀ w, (zeroValue e).run P w = .ok z w := fun w => by simp [zeroValue, typeInfo, hi, hz]
  have hss : ∀ w, (sizeOf e).run P w = .ok n w := fun w => by simp [sizeOf, typeInfo, hi, hsz]
  have hM : M.toArray.size = n := by simpa using hl
  have hf := fill_oneB z.cells M.toArray (by rw [hzs, hM]) (by omega)
  rw [hM] at hf
  have hrun : (Instr.buildSlice t 1 #[(0, .agg M.toArray)]).run P w = .ok (.slice (some ⟨w.heap.size, 0, none⟩) 1 1) (w.alloc (.cells M.toArray e)) := by
    have h1 : ¬ (2 ^ 24 < 1 * n) := by omega
    have h2 : ¬ (1 * n = 0) := by omega
    simp only [Instr.buildSlice, run_underlying ht, Sem.run_bind, Sem.run_pure, Result.andThen_ok, hss, gt_iff_lt, h1, if_false, h2, hzz, hf, newRow]
    simp
  unfold Oper.wp execOp
  simp only [ho, List.map_toArray, List.map_cons, List.map_nil, hx, hrun, Sem.run_bind, Result.andThen_ok, Sem.run_pure]
  exact hk _ _ (by unfold Row; exact heap_alloc_new _ _) (Nat.le_refl _) (by simp) ((Below.refl _ _).alloc (Nat.le_refl _) _)
end Go.Proofs.YthjcmgjmdjihnaaDoor

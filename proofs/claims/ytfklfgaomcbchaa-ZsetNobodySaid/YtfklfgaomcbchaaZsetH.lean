/-
  A set's insert: contract. Own work.
-/
import Derived.Test.YtfklfgaomcbchaaZsetG
namespace Go.Proofs.Ytfklfgaomcbchaa
open Go.RowKit Go.Shelf
set_option linter.unusedVariables false
set_option linter.unusedSimpArgs false
/-- Nothing that was there turned, but these blocks. -/
structure ButZ (S : List Nat) (w w' : World) : Prop where
  os : w'.os = w.os
  tape : w'.tape = w.tape
  output : w'.output = w.output
  size : w.heap.size ≤ w'.heap.size
  block : ∀ k, k < w.heap.size → k ∉ S → w'.heap[k]? = w.heap[k]?
theorem ButZ.trans {S : List Nat} {a b c : World} (h : ButZ S a b) (k : ButZ S b c) : ButZ S a c :=
  ⟨k.os.trans h.os, k.tape.trans h.tape, k.output.trans h.output, Nat.le_trans h.size k.size, fun i hi hn => (k.block i (Nat.lt_of_lt_of_le hi h.size) hn).trans (h.block i hi hn)⟩
theorem ButZ.of {S : List Nat} {a b : World} (h : Below a.heap.size a b) : ButZ S a b := ⟨h.os, h.tape, h.output, h.size, fun k hk _ => h.block k hk⟩
/-- Behind some turns: a block that is new, or one of these, turns. -/
theorem ButZ.only {S : List Nat} {a b c : World} {g : Nat} (h : ButZ S a b) (o : Only g b c) (hg : a.heap.size ≤ g ∨ g ∈ S) : ButZ S a c :=
  ⟨o.os.trans h.os, o.tape.trans h.tape, o.output.trans h.output, by rw [o.size]; exact h.size, fun k hk hn => by
    have hne : k ≠ g := fun e => by subst e; rcases hg with e | e; exact absurd hk (by omega); exact hn e
    exact (o.block k hne).trans (h.block k hk hn)⟩
theorem run_indexStop {w : World} {a : Act} {o : Oper} (x y : Operand) (ps : List Lk) (lv : Nat) (l : Lk) (ho : o.op = .index 61 x y) (hx : a.eval x = .agg (lksC ps).toArray) (hy : a.eval y = .int .i64 (lv : Int)) (hlen : ps.length = 16) (hl : ps[lv]? = some l) :
    (execOp a.eval o).run Try.prog w = .ok (.value (.agg l.cells.toArray)) w := by
  have hlt : lv < 16 := by have := (List.getElem?_eq_some_iff.1 hl).1; omega
  have h := run_index_part (P := Try.prog) w 61 60 16 2 (lksC ps) lv Try.underlying61 Try.isAgg60 Try.sizeOf60 hlt
  have e : ((lksC ps).drop (lv * 2)).take 2 = l.cells := by
    have hA := lksL_ahead ps lv (by omega)
    rw [lksL_part ps lv l hl]
    rw [List.drop_left' (by rw [hA]; omega)]
    rfl
  rw [e] at h
  unfold execOp
  simp only [ho, hx, hy, h, Sem.run_bind, Result.andThen_ok, Sem.run_pure]
/-- The new list's link of the c-th on a level, as far as the levels below d are done. -/
def midLk (Ls : List Nd) (k : Nat) (nd : Nd) (d c lv : Nat) : Lk := if lv < d then (if c ≤ k then nxt lv ((Ls.take k ++ nd :: Ls.drop k).drop c) else nxt lv (Ls.drop c)) else nxt lv (Ls.drop c)
theorem nxt_n (lv : Nat) (R : List Nd) : 0 ≤ (nxt lv R).n ∧ (nxt lv R).n ≤ R.length := by
  rcases nxt_cases lv R with ⟨h, _⟩ | ⟨A, x, B, h1, h2, _⟩
  · rw [h]; simp
  · rw [h2, h1, List.length_append, List.length_cons]
    show 0 ≤ (A.length : Int) + 1 ∧ (A.length : Int) + 1 ≤ ((A.length + (B.length + 1) : Nat) : Int)
    omega
/-- The list behind the c-th, parted where the new one goes. -/
theorem drop_part {Ls : List Nd} {k c : Nat} (hc : c ≤ k) (hk : k ≤ Ls.length) : Ls.drop c = (Ls.take k).drop c ++ Ls.drop k ∧ ((Ls.take k).drop c).length = k - c := by
  constructor
  · conv => lhs; rw [← List.take_append_drop k Ls]
    rw [List.drop_append_of_le_length (by rw [List.length_take]; omega)]
  · rw [List.length_drop, List.length_take]; omega
theorem put_part {Ls : List Nd} {k c : Nat} (nd : Nd) (hc : c ≤ k) (hk : k ≤ Ls.length) : (Ls.take k ++ nd :: Ls.drop k).drop c = (Ls.take k).drop c ++ nd :: Ls.drop k := by
  rw [List.drop_append_of_le_length (by rw [List.length_take]; omega)]
theorem stop_low {hd : Nd} {Ls : List Nd} {k lv c : Nat} (h : IsStop (hd :: Ls) k lv c) : ∀ y ∈ (Ls.take k).drop c, y.h ≤ lv := by
  intro y hy
  obtain ⟨j, hj⟩ := List.getElem?_of_mem hy
  rw [List.getElem?_drop, List.getElem?_take] at hj
  by_cases hlt : c + j < k
  · rw [if_pos hlt] at hj
    exact h.2.2 (c + j + 1) y (by omega) (by omega) (by rw [List.getElem?_cons_succ]; exact hj)
  · rw [if_neg hlt] at hj; exact absurd hj (by simp)
/-- At the stop: the old link, and the new one. -/
theorem stop_old {hd : Nd} {Ls : List Nd} {k lv c : Nat} (h : IsStop (hd :: Ls) k lv c) (hk : k ≤ Ls.length) : nxt lv (Ls.drop c) = ⟨(nxt lv (Ls.drop k)).to, (nxt lv (Ls.drop k)).n + ((k - c : Nat) : Int)⟩ := by
  obtain ⟨e1, e2⟩ := drop_part h.1 hk
  rw [e1, nxt_low _ (stop_low h), e2]
theorem stop_new {hd : Nd} {Ls : List Nd} {k lv c : Nat} (nd : Nd) (h : IsStop (hd :: Ls) k lv c) (hk : k ≤ Ls.length) : nxt lv ((Ls.take k ++ nd :: Ls.drop k).drop c) =
    if lv < nd.h then ⟨some nd.g, ((k - c : Nat) : Int) + 1⟩ else ⟨(nxt lv (Ls.drop k)).to, (nxt lv (Ls.drop k)).n + ((k - c : Nat) : Int) + 1⟩ := by
  rw [put_part nd h.1 hk, nxt_low _ (stop_low h), (drop_part h.1 hk).2]
  by_cases hm : lv < nd.h
  · rw [if_pos hm, show nxt lv (nd :: Ls.drop k) = ⟨some nd.g, 1⟩ by show (if lv < nd.h then _ else _) = _; rw [if_pos hm]]
    simp only [Lk.mk.injEq, true_and]; omega
  · rw [if_neg hm, show nxt lv (nd :: Ls.drop k) = ⟨(nxt lv (Ls.drop k)).to, (nxt lv (Ls.drop k)).n + 1⟩ by show (if lv < nd.h then _ else _) = _; rw [if_neg hm]]
    simp only [Lk.mk.injEq, true_and]; omega
/-- A node with links on the level that is no stop keeps its link. -/
theorem other_same {hd : Nd} {Ls : List Nd} {k lv c d : Nat} {n : Nd} (nd : Nd) (h : IsStop (hd :: Ls) k lv c) (hk : k ≤ Ls.length) (hn : (hd :: Ls)[d]? = some n) (hl : lv < n.h) (hne : d ≠ c) (hd2 : d ≤ k) : nxt lv ((Ls.take k ++ nd :: Ls.drop k).drop d) = nxt lv (Ls.drop d) := by
  have hdc : d < c := by
    refine Nat.lt_of_le_of_ne (Nat.le_of_not_lt fun hlt => ?_) hne
    have := h.2.2 d n hlt hd2 hn
    omega
  obtain ⟨m, hm, hml⟩ := h.2.1
  rw [put_part nd hd2 hk, (drop_part hd2 hk).1]
  refine nxt_hit _ _ ⟨m, ?_, hml⟩
  obtain ⟨j, rfl⟩ : ∃ j, c = j + 1 := ⟨c - 1, by omega⟩
  rw [List.getElem?_cons_succ] at hm
  refine List.mem_of_getElem? (i := j - d) ?_
  have := h.1
  rw [List.getElem?_drop, List.getElem?_take, if_pos (by omega), show d + (j - d) = j by omega]
  exact hm
/-- The list's links, the level d done too. -/
theorem mid_next {hd : Nd} {Ls : List Nd} {k d c : Nat} (nd : Nd) (h : IsStop (hd :: Ls) k d c) (hk : k ≤ Ls.length) (e : Nat) (n : Nd) (lv : Nat) (hn : (hd :: Ls)[e]? = some n) (hl : lv < n.h) :
    (if e = c then (fun l => if l = d then nxt d ((Ls.take k ++ nd :: Ls.drop k).drop c) else midLk Ls k nd d c l) else midLk Ls k nd d e) lv = midLk Ls k nd (d + 1) e lv := by
  by_cases hec : e = c
  · subst hec
    rw [if_pos rfl]
    by_cases hld : lv = d
    · subst hld
      simp only [if_true, midLk, show lv < lv + 1 by omega, h.1]
    · simp only [if_neg hld, midLk]
      by_cases h1 : lv < d
      · rw [if_pos h1, if_pos (show lv < d + 1 by omega)]
      · rw [if_neg h1, if_neg (show ¬ lv < d + 1 by omega)]
  · rw [if_neg hec]
    by_cases hld : lv = d
    · subst hld
      simp only [midLk, show lv < lv + 1 by omega, if_true, Nat.lt_irrefl, if_false]
      by_cases h2 : e ≤ k
      · rw [if_pos h2, other_same nd h hk hn hl hec h2]
      · rw [if_neg h2]
    · simp only [midLk]
      by_cases h1 : lv < d
      · rw [if_pos h1, if_pos (show lv < d + 1 by omega)]
      · rw [if_neg h1, if_neg (show ¬ lv < d + 1 by omega)]
end Go.Proofs.Ytfklfgaomcbchaa

/-
  A skip list: its links as lists, and how it lies in memory. Own work.
-/
import Derived.Test.YtfklfgaomcbchaaZsetB
namespace Go.Proofs.Ytfklfgaomcbchaa
open Go.RowKit Go.Shelf
set_option linter.unusedVariables false
set_option linter.unusedSimpArgs false
/-- A node: its member, its block, its links' block, on how many levels it has links. -/
structure Nd where
  a : Sc
  g : Nat
  b : Nat
  h : Nat
/-- The link on a level, of a node ahead of these. -/
def nxt (lv : Nat) : List Nd → Lk
  | [] => ⟨none, 0⟩
  | n :: r => if lv < n.h then ⟨some n.g, 1⟩ else ⟨(nxt lv r).to, (nxt lv r).n + 1⟩
/-- No node of these has links on the level: the link goes on behind them. -/
theorem nxt_low {lv : Nat} : ∀ {A : List Nd} (B : List Nd), (∀ y ∈ A, y.h ≤ lv) → nxt lv (A ++ B) = ⟨(nxt lv B).to, (nxt lv B).n + A.length⟩
  | [], B, _ => by simp
  | y :: r, B, h => by
    have h1 : ¬ lv < y.h := by have := h y (by simp); omega
    have ih := nxt_low (A := r) B fun z hz => h z (by simp [hz])
    show (if lv < y.h then _ else _) = _
    rw [if_neg h1, show nxt lv (List.append r B) = _ from ih, List.length_cons]
    simp only [Lk.mk.injEq, true_and]
    omega
/-- One of these has links on the level: what stands behind them is nothing to the link. -/
theorem nxt_hit {lv : Nat} : ∀ {A : List Nd} (B C : List Nd), (∃ y ∈ A, lv < y.h) → nxt lv (A ++ B) = nxt lv (A ++ C)
  | [], _, _, h => by simp at h
  | y :: r, B, C, h => by
    show (if lv < y.h then _ else _) = (if lv < y.h then _ else _)
    by_cases hy : lv < y.h
    · rw [if_pos hy, if_pos hy]
    · have h2 : ∃ z ∈ r, lv < z.h := by
        obtain ⟨z, hz, hlt⟩ := h
        rcases List.mem_cons.1 hz with e | e
        · subst e; exact absurd hlt hy
        · exact ⟨z, e, hlt⟩
      rw [if_neg hy, if_neg hy, show nxt lv (List.append r B) = nxt lv (List.append r C) from nxt_hit B C h2]
/-- A link goes to none, or to the first node that has links on the level. -/
theorem nxt_cases (lv : Nat) : ∀ R : List Nd, (nxt lv R = ⟨none, (R.length : Int)⟩ ∧ ∀ y ∈ R, y.h ≤ lv) ∨ ∃ A x B, R = A ++ x :: B ∧ nxt lv R = ⟨some x.g, (A.length : Int) + 1⟩ ∧ lv < x.h ∧ ∀ y ∈ A, y.h ≤ lv
  | [] => .inl ⟨rfl, by simp⟩
  | n :: r => by
    by_cases hn : lv < n.h
    · exact .inr ⟨[], n, r, rfl, by show (if lv < n.h then _ else _) = _; rw [if_pos hn]; rfl, hn, by simp⟩
    · have e : nxt lv (n :: r) = ⟨(nxt lv r).to, (nxt lv r).n + 1⟩ := by show (if lv < n.h then _ else _) = _; rw [if_neg hn]
      rcases nxt_cases lv r with ⟨h1, h2⟩ | ⟨A, x, B, h1, h2, h3, h4⟩
      · refine .inl ⟨by rw [e, h1, List.length_cons]; simp, ?_⟩
        intro y hy
        rcases List.mem_cons.1 hy with e | e
        · subst e; omega
        · exact h2 y e
      · refine .inr ⟨n :: A, x, B, by rw [h1]; rfl, by rw [e, h2, List.length_cons]; simp, h3, ?_⟩
        intro y hy
        rcases List.mem_cons.1 hy with e | e
        · subst e; omega
        · exact h4 y e
/-- A node is put in behind A: the links of those ahead of A. -/
theorem nxt_put (lv : Nat) (A B : List Nd) (m : Nd) : nxt lv (A ++ m :: B) =
    if ∃ y ∈ A, lv < y.h then nxt lv (A ++ B) else if lv < m.h then ⟨some m.g, (A.length : Int) + 1⟩ else ⟨(nxt lv (A ++ B)).to, (nxt lv (A ++ B)).n + 1⟩ := by
  by_cases h : ∃ y ∈ A, lv < y.h
  · rw [if_pos h]; exact nxt_hit _ _ h
  · have hl : ∀ y ∈ A, y.h ≤ lv := fun y hy => Nat.le_of_not_lt fun hlt => h ⟨y, hy, hlt⟩
    rw [if_neg h, nxt_low _ hl, nxt_low _ hl]
    by_cases hm : lv < m.h
    · rw [if_pos hm, show nxt lv (m :: B) = ⟨some m.g, 1⟩ by show (if lv < m.h then _ else _) = _; rw [if_pos hm]]
      simp only [Lk.mk.injEq, true_and]; omega
    · rw [if_neg hm, show nxt lv (m :: B) = ⟨(nxt lv B).to, (nxt lv B).n + 1⟩ by show (if lv < m.h then _ else _) = _; rw [if_neg hm]]
      simp only [Lk.mk.injEq, true_and]; omega
/-- The list in memory: the head and the nodes, each with its links; f: of the c-th the link on a level. -/
structure ZAt (w : World) (B : Nat) (N : List Nd) (f : Nat → Nat → Lk) : Prop where
  node : ∀ (c : Nat) (n : Nd), N[c]? = some n → Row w 67 n.g (nodeC n.a n.b n.h)
  link : ∀ (c : Nat) (n : Nd), N[c]? = some n → Row w 70 n.b (lksC ((List.range n.h).map (f c)))
  lo : ∀ (c : Nat) (n : Nd), N[c]? = some n → B ≤ n.g ∧ B ≤ n.b ∧ 1 ≤ n.h ∧ n.h ≤ 16
  gb : ∀ (c d : Nat) (n m : Nd), N[c]? = some n → N[d]? = some m → n.g ≠ m.b
  gg : ∀ (c d : Nat) (n m : Nd), N[c]? = some n → N[d]? = some m → c ≠ d → n.g ≠ m.g ∧ n.b ≠ m.b
theorem ZAt.later {w w' : World} {B : Nat} {N : List Nd} {f : Nat → Nat → Lk} (h : ZAt w B N f) (hb : Below w.heap.size w w') : ZAt w' B N f :=
  ⟨fun c n e => (h.node c n e).later hb, fun c n e => (h.link c n e).later hb, h.lo, h.gb, h.gg⟩
theorem ZAt.only {w w' : World} {B : Nat} {N : List Nd} {f : Nat → Nat → Lk} {x : Nat} (h : ZAt w B N f) (ho : Only x w w') (hx : ∀ (c : Nat) (n : Nd), N[c]? = some n → n.g ≠ x ∧ n.b ≠ x) : ZAt w' B N f :=
  ⟨fun c n e => (h.node c n e).only ho (hx c n e).1, fun c n e => (h.link c n e).only ho (hx c n e).2, h.lo, h.gb, h.gg⟩
/-- A node's links turned. -/
theorem ZAt.turn {w w' : World} {B : Nat} {N : List Nd} {f : Nat → Nat → Lk} {c : Nat} {n : Nd} (h : ZAt w B N f) (hc : N[c]? = some n) (ho : Only n.b w w') (k : Nat → Lk) (hr : Row w' 70 n.b (lksC ((List.range n.h).map k))) : ZAt w' B N fun d => if d = c then k else f d := by
  refine ⟨fun d m e => (h.node d m e).only ho (h.gb d c m n e hc), fun d m e => ?_, h.lo, h.gb, h.gg⟩
  by_cases hd : d = c
  · subst hd
    have e2 : n = m := Option.some.inj (hc.symm.trans e)
    subst e2
    simpa using hr
  · rw [if_neg hd]
    exact (h.link d m e).only ho (h.gg d c m n e hc hd).2
theorem ZAt.congr {w : World} {B : Nat} {N : List Nd} {f k : Nat → Nat → Lk} (h : ZAt w B N f) (e : ∀ (c : Nat) (n : Nd) (lv : Nat), N[c]? = some n → lv < n.h → f c lv = k c lv) : ZAt w B N k := by
  refine ⟨h.node, fun c n hc => ?_, h.lo, h.gb, h.gg⟩
  have e2 : (List.range n.h).map (k c) = (List.range n.h).map (f c) := List.map_congr_left fun lv hlv => (e c n lv hc (List.mem_range.1 hlv)).symm
  rw [e2]
  exact h.link c n hc
/-- The list whole. -/
abbrev full (L : List Nd) (c lv : Nat) : Lk := nxt lv (L.drop c)
/-- The cells of a row of links, parted at a level. -/
theorem lks_part : ∀ (k : Nat → Lk) (h lv : Nat), lv < h → lksC ((List.range h).map k) = lksC ((List.range lv).map k) ++ ((k lv).cells ++ lksC (((List.range h).drop (lv + 1)).map k)) := by
  intro k h lv hl
  have e : (List.range h) = List.range lv ++ lv :: (List.range h).drop (lv + 1) := by
    have h1 : (List.range h).take lv = List.range lv := by rw [List.take_range, Nat.min_eq_left (by omega)]
    have h2 : (List.range h).drop lv = lv :: (List.range h).drop (lv + 1) := by rw [List.drop_eq_getElem_cons (by simpa using hl)]; simp
    rw [← h1, ← h2, List.take_append_drop]
  have e2 : (List.range h).map k = (List.range lv).map k ++ k lv :: ((List.range h).drop (lv + 1)).map k := by
    conv => lhs; rw [e]
    rw [List.map_append, List.map_cons]
  rw [e2]
  simp only [lksC, List.flatMap_append, List.flatMap_cons]
theorem lks_ahead (k : Nat → Lk) (lv : Nat) : (lksC ((List.range lv).map k)).length = 2 * lv := by rw [lksC_length, List.length_map, List.length_range]
/-- One link of the row turned. -/
theorem lks_turn (k : Nat → Lk) (h lv : Nat) (x : Lk) (hl : lv < h) : lksC ((List.range lv).map k) ++ (x.cells ++ lksC (((List.range h).drop (lv + 1)).map k)) = lksC ((List.range h).map fun l => if l = lv then x else k l) := by
  rw [lks_part _ h lv hl, if_pos rfl]
  have e1 : (List.range lv).map (fun l => if l = lv then x else k l) = (List.range lv).map k := List.map_congr_left fun l hl => if_neg (by have := List.mem_range.1 hl; omega)
  have e2 : ((List.range h).drop (lv + 1)).map (fun l => if l = lv then x else k l) = ((List.range h).drop (lv + 1)).map k := by
    refine List.map_congr_left fun l hm => if_neg ?_
    intro e
    subst e
    obtain ⟨j, hj⟩ := List.getElem?_of_mem hm
    rw [List.getElem?_drop] at hj
    have h3 := List.getElem?_eq_some_iff.1 hj
    obtain ⟨h4, h5⟩ := h3
    simp at h5
    omega
  rw [e1, e2]
end Go.Proofs.Ytfklfgaomcbchaa

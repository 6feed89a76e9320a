/-
  A node is put in, or taken out: the list in memory behind it. Own work.
-/
import Derived.Test.YtfklfgaomcbchaaZsetH
namespace Go.Proofs.Ytfklfgaomcbchaa
open Go.RowKit Go.Shelf
set_option linter.unusedVariables false
set_option linter.unusedSimpArgs false
theorem ZAt.but {w w' : World} {B : Nat} {N : List Nd} {f : Nat → Nat → Lk} {x : Nat} (h : ZAt w B N f) (ho : But x w w') (hx : ∀ (c : Nat) (n : Nd), N[c]? = some n → n.g ≠ x ∧ n.b ≠ x) : ZAt w' B N f :=
  ⟨fun c n e => (h.node c n e).but ho (hx c n e).1, fun c n e => (h.link c n e).but ho (hx c n e).2, h.lo, h.gb, h.gg⟩
theorem ButZ.but {S : List Nat} {a b c : World} {g : Nat} (h : ButZ S a b) (o : But g b c) (hg : a.heap.size ≤ g ∨ g ∈ S) : ButZ S a c :=
  ⟨o.os.trans h.os, o.tape.trans h.tape, o.output.trans h.output, Nat.le_trans h.size o.size, fun k hk hn => by
    have hne : k ≠ g := fun e => by subst e; rcases hg with e | e; exact absurd hk (by omega); exact hn e
    exact (o.block k (Nat.lt_of_lt_of_le hk h.size) hne).trans (h.block k hk hn)⟩
/-- The new node's links while the levels below d are done. -/
def newLk (Ls : List Nd) (k d lv : Nat) : Lk := if lv < d then nxt lv (Ls.drop k) else noLk
abbrev putL (Ls : List Nd) (k : Nat) (nd : Nd) : List Nd := Ls.take k ++ nd :: Ls.drop k
theorem put_low {hd nd : Nd} {Ls : List Nd} {k i : Nat} (hk : k ≤ Ls.length) (hi : i ≤ k) : (hd :: putL Ls k nd)[i]? = (hd :: Ls)[i]? := by
  match i with
  | 0 => rfl
  | i + 1 =>
    rw [List.getElem?_cons_succ, List.getElem?_cons_succ, List.getElem?_append_left (by rw [List.length_take]; omega), List.getElem?_take, if_pos (by omega)]
theorem put_mid {hd nd : Nd} {Ls : List Nd} {k : Nat} (hk : k ≤ Ls.length) : (hd :: putL Ls k nd)[k + 1]? = some nd := by
  rw [List.getElem?_cons_succ, List.getElem?_append_right (by rw [List.length_take]; omega), List.length_take, Nat.min_eq_left hk, Nat.sub_self]
  rfl
theorem put_high {hd nd : Nd} {Ls : List Nd} {k i : Nat} (hk : k ≤ Ls.length) (hi : k < i) : (hd :: putL Ls k nd)[i + 1]? = (hd :: Ls)[i]? := by
  obtain ⟨j, rfl⟩ : ∃ j, i = k + j + 1 := ⟨i - k - 1, by omega⟩
  rw [List.getElem?_cons_succ, List.getElem?_cons_succ, List.getElem?_append_right (by rw [List.length_take]; omega), List.length_take, Nat.min_eq_left hk, show k + j + 1 - k = j + 1 by omega, List.getElem?_cons_succ, List.getElem?_drop]
theorem put_at (hd nd : Nd) (Ls : List Nd) (k : Nat) (hk : k ≤ Ls.length) (c : Nat) (n : Nd) (h : (hd :: putL Ls k nd)[c]? = some n) : (c ≤ k ∧ (hd :: Ls)[c]? = some n) ∨ (c = k + 1 ∧ n = nd) ∨ (k + 1 < c ∧ (hd :: Ls)[c - 1]? = some n) := by
  by_cases h1 : c ≤ k
  · exact .inl ⟨h1, by rw [← put_low hk h1]; exact h⟩
  · by_cases h2 : c = k + 1
    · subst h2
      rw [put_mid hk] at h
      exact .inr (.inl ⟨rfl, (Option.some.inj h).symm⟩)
    · refine .inr (.inr ⟨by omega, ?_⟩)
      rw [show c = (c - 1) + 1 by omega, put_high hk (by omega)] at h
      exact h
theorem put_drop {nd : Nd} {Ls : List Nd} {k c : Nat} (hk : k ≤ Ls.length) (hc : k + 1 ≤ c) : (putL Ls k nd).drop c = Ls.drop (c - 1) := by
  obtain ⟨j, rfl⟩ : ∃ j, c = k + 1 + j := ⟨c - (k + 1), by omega⟩
  have h1 : (Ls.take k).length = k := by rw [List.length_take]; omega
  show (Ls.take k ++ nd :: Ls.drop k).drop (k + 1 + j) = _
  rw [show k + 1 + j = (Ls.take k).length + (j + 1) by omega, List.drop_append, List.drop_of_length_le (by omega), List.nil_append, show (Ls.take k).length + (j + 1) - (Ls.take k).length = j + 1 by omega, List.drop_succ_cons, List.drop_drop]
  congr 1
  omega
/-- All levels are done: the list has the new node. -/
theorem ZAt.put {w : World} {B k : Nat} {hd nd : Nd} {Ls : List Nd} (hk : k ≤ Ls.length) (h : ZAt w B (hd :: Ls) (midLk Ls k nd 16)) (rn : Row w 67 nd.g (nodeC nd.a nd.b nd.h)) (rl : Row w 70 nd.b (lksC ((List.range nd.h).map (newLk Ls k 16)))) (hn : 1 ≤ nd.h ∧ nd.h ≤ 16) (hB : B ≤ nd.g ∧ B ≤ nd.b) (hgb : nd.g ≠ nd.b)
    (hfar : ∀ (c : Nat) (n : Nd), (hd :: Ls)[c]? = some n → n.g ≠ nd.g ∧ n.b ≠ nd.b ∧ n.g ≠ nd.b ∧ n.b ≠ nd.g) : ZAt w B (hd :: putL Ls k nd) (full (putL Ls k nd)) := by
  have P := fun c n e => put_at hd nd Ls k hk c n e
  refine ⟨fun c n e => ?_, fun c n e => ?_, fun c n e => ?_, fun c d n m e1 e2 => ?_, fun c d n m e1 e2 hne => ?_⟩
  · rcases P c n e with ⟨_, h1⟩ | ⟨_, rfl⟩ | ⟨_, h1⟩
    · exact h.node _ _ h1
    · exact rn
    · exact h.node _ _ h1
  · rcases P c n e with ⟨hc, h1⟩ | ⟨hc, rfl⟩ | ⟨hc, h1⟩
    · have e2 : (List.range n.h).map (full (putL Ls k nd) c) = (List.range n.h).map (midLk Ls k nd 16 c) := List.map_congr_left fun lv hlv => by
        have h2 := List.mem_range.1 hlv
        have h3 := (h.lo _ _ h1).2.2.2
        unfold midLk
        rw [if_pos (show lv < 16 by omega), if_pos hc]
      rw [e2]; exact h.link _ _ h1
    · have e2 : (List.range n.h).map (full (putL Ls k n) c) = (List.range n.h).map (newLk Ls k 16) := List.map_congr_left fun lv hlv => by
        have h2 := List.mem_range.1 hlv
        unfold newLk
        rw [if_pos (show lv < 16 by omega), full, put_drop hk (by omega), hc, Nat.add_sub_cancel]
      rw [e2]; exact rl
    · have e2 : (List.range n.h).map (full (putL Ls k nd) c) = (List.range n.h).map (midLk Ls k nd 16 (c - 1)) := List.map_congr_left fun lv hlv => by
        have h2 := List.mem_range.1 hlv
        have h3 := (h.lo _ _ h1).2.2.2
        unfold midLk
        rw [if_pos (show lv < 16 by omega), if_neg (show ¬ c - 1 ≤ k by omega), full, put_drop hk (by omega)]
      rw [e2]; exact h.link _ _ h1
  · rcases P c n e with ⟨_, h1⟩ | ⟨_, rfl⟩ | ⟨_, h1⟩
    · exact h.lo _ _ h1
    · exact ⟨hB.1, hB.2, hn⟩
    · exact h.lo _ _ h1
  · rcases P c n e1 with ⟨_, h1⟩ | ⟨_, rfl⟩ | ⟨_, h1⟩ <;> rcases P d m e2 with ⟨_, k1⟩ | ⟨_, rfl⟩ | ⟨_, k1⟩
    · exact h.gb _ _ _ _ h1 k1
    · exact (hfar _ _ h1).2.2.1
    · exact h.gb _ _ _ _ h1 k1
    · exact Ne.symm (hfar _ _ k1).2.2.2
    · exact hgb
    · exact Ne.symm (hfar _ _ k1).2.2.2
    · exact h.gb _ _ _ _ h1 k1
    · exact (hfar _ _ h1).2.2.1
    · exact h.gb _ _ _ _ h1 k1
  · rcases P c n e1 with ⟨_, h1⟩ | ⟨_, rfl⟩ | ⟨_, h1⟩ <;> rcases P d m e2 with ⟨_, k1⟩ | ⟨_, rfl⟩ | ⟨_, k1⟩
    · exact h.gg _ _ _ _ h1 k1 hne
    · exact ⟨(hfar _ _ h1).1, (hfar _ _ h1).2.1⟩
    · exact h.gg _ _ _ _ h1 k1 (by omega)
    · exact ⟨Ne.symm (hfar _ _ k1).1, Ne.symm (hfar _ _ k1).2.1⟩
    · omega
    · exact ⟨Ne.symm (hfar _ _ k1).1, Ne.symm (hfar _ _ k1).2.1⟩
    · exact h.gg _ _ _ _ h1 k1 (by omega)
    · exact ⟨(hfar _ _ h1).1, (hfar _ _ h1).2.1⟩
    · exact h.gg _ _ _ _ h1 k1 (by omega)
/-- The links while a node is taken out, as far as the levels below d are done. -/
def midRm (Ls : List Nd) (k : Nat) (nd : Nd) (d c lv : Nat) : Lk := if lv < d then (if c ≤ k then nxt lv (Ls.drop c) else nxt lv ((putL Ls k nd).drop c)) else nxt lv ((putL Ls k nd).drop c)
theorem IsStop.cut {hd nd : Nd} {Ls : List Nd} {k lv c : Nat} (hk : k ≤ Ls.length) (h : IsStop (hd :: putL Ls k nd) k lv c) : IsStop (hd :: Ls) k lv c := by
  obtain ⟨h1, ⟨n, h2, h3⟩, h4⟩ := h
  exact ⟨h1, ⟨n, by rw [← put_low hk h1]; exact h2, h3⟩, fun i n hi hi2 hn => h4 i n hi hi2 (by rw [put_low hk hi2]; exact hn)⟩
theorem rm_next {hd nd : Nd} {Ls : List Nd} {k d c : Nat} (hk : k ≤ Ls.length) (h : IsStop (hd :: Ls) k d c) (e : Nat) (n : Nd) (lv : Nat) (hn : (hd :: putL Ls k nd)[e]? = some n) (hl : lv < n.h) :
    (if e = c then (fun l => if l = d then nxt d (Ls.drop c) else midRm Ls k nd d c l) else midRm Ls k nd d e) lv = midRm Ls k nd (d + 1) e lv := by
  by_cases hec : e = c
  · subst hec
    rw [if_pos rfl]
    by_cases hld : lv = d
    · subst hld
      simp only [if_true, midRm, show lv < lv + 1 by omega, h.1]
    · simp only [if_neg hld, midRm]
      by_cases h1 : lv < d
      · rw [if_pos h1, if_pos (show lv < d + 1 by omega)]
      · rw [if_neg h1, if_neg (show ¬ lv < d + 1 by omega)]
  · rw [if_neg hec]
    by_cases hld : lv = d
    · subst hld
      simp only [midRm, show lv < lv + 1 by omega, if_true, Nat.lt_irrefl, if_false]
      by_cases h2 : e ≤ k
      · rw [if_pos h2, other_same nd h hk (by rw [← put_low hk h2]; exact hn) hl hec h2]
      · rw [if_neg h2]
    · simp only [midRm]
      by_cases h1 : lv < d
      · rw [if_pos h1, if_pos (show lv < d + 1 by omega)]
      · rw [if_neg h1, if_neg (show ¬ lv < d + 1 by omega)]
/-- All levels are done: the list has the node no more. -/
theorem ZAt.cut {w : World} {B k : Nat} {hd nd : Nd} {Ls : List Nd} (hk : k ≤ Ls.length) (h : ZAt w B (hd :: putL Ls k nd) (midRm Ls k nd 16)) : ZAt w B (hd :: Ls) (full Ls) := by
  have P : ∀ (c : Nat) (n : Nd), (hd :: Ls)[c]? = some n → (c ≤ k ∧ (hd :: putL Ls k nd)[c]? = some n) ∨ (k < c ∧ (hd :: putL Ls k nd)[c + 1]? = some n) := by
    intro c n e
    by_cases h1 : c ≤ k
    · exact .inl ⟨h1, by rw [put_low hk h1]; exact e⟩
    · exact .inr ⟨by omega, by rw [put_high hk (by omega)]; exact e⟩
  refine ⟨fun c n e => ?_, fun c n e => ?_, fun c n e => ?_, fun c d n m e1 e2 => ?_, fun c d n m e1 e2 hne => ?_⟩
  · rcases P c n e with ⟨_, h1⟩ | ⟨_, h1⟩ <;> exact h.node _ _ h1
  · rcases P c n e with ⟨hc, h1⟩ | ⟨hc, h1⟩
    · have e2 : (List.range n.h).map (full Ls c) = (List.range n.h).map (midRm Ls k nd 16 c) := List.map_congr_left fun lv hlv => by
        have h2 := List.mem_range.1 hlv
        have h3 := (h.lo _ _ h1).2.2.2
        unfold midRm
        rw [if_pos (show lv < 16 by omega), if_pos hc]
      rw [e2]; exact h.link _ _ h1
    · have e2 : (List.range n.h).map (full Ls c) = (List.range n.h).map (midRm Ls k nd 16 (c + 1)) := List.map_congr_left fun lv hlv => by
        have h2 := List.mem_range.1 hlv
        have h3 := (h.lo _ _ h1).2.2.2
        unfold midRm
        rw [if_pos (show lv < 16 by omega), if_neg (show ¬ c + 1 ≤ k by omega), full, put_drop hk (by omega), Nat.add_sub_cancel]
      rw [e2]; exact h.link _ _ h1
  · rcases P c n e with ⟨_, h1⟩ | ⟨_, h1⟩ <;> exact h.lo _ _ h1
  · rcases P c n e1 with ⟨_, h1⟩ | ⟨_, h1⟩ <;> rcases P d m e2 with ⟨_, k1⟩ | ⟨_, k1⟩ <;> exact h.gb _ _ _ _ h1 k1
  · rcases P c n e1 with ⟨_, h1⟩ | ⟨_, h1⟩ <;> rcases P d m e2 with ⟨_, k1⟩ | ⟨_, k1⟩ <;> exact h.gg _ _ _ _ h1 k1 (by omega)
end Go.Proofs.Ytfklfgaomcbchaa

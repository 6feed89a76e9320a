/-
  A set as a list of members: what is found, dropped, put in. Own work.
-/
import Derived.Test.YtfklfgaomcbchaaZsetL
import Derived.Test.YtfklfgaomcbchaaZMap
namespace Go.Proofs.Ytfklfgaomcbchaa
open Go.RowKit Go.Shelf
set_option linter.unusedVariables false
set_option linter.unusedSimpArgs false
/-- A member's score. -/
def scoreOf (L : List Sc) (m : Nm) : Option Int := (L.find? fun a => a.m == m).map Sc.s
def dropS (L : List Sc) (m : Nm) : List Sc := L.filter fun a => !(a.m == m)
def putAt (L : List Sc) (k : Nat) (x : Sc) : List Sc := L.take k ++ x :: L.drop k
def putS (L : List Sc) (x : Sc) : List Sc := putAt (dropS L x.m) (nAhead x (dropS L x.m)) x
/-- No member twice. -/
def Uniq (L : List Sc) : Prop := L.Pairwise fun a b => a.m ≠ b.m
theorem scoreOf_none {L : List Sc} {m : Nm} : scoreOf L m = none ↔ ∀ a ∈ L, a.m ≠ m := by
  unfold scoreOf
  rw [Option.map_eq_none_iff, List.find?_eq_none]
  constructor
  · intro h a ha e; exact h a ha (by simp [e])
  · intro h a ha e; exact h a ha (by simpa using e)
theorem scoreOf_some {L : List Sc} {m : Nm} {s : Int} (h : scoreOf L m = some s) : ∃ A C, L = A ++ ⟨m, s⟩ :: C ∧ ∀ a ∈ A, a.m ≠ m := by
  unfold scoreOf at h
  rw [Option.map_eq_some_iff] at h
  obtain ⟨a, h1, h2⟩ := h
  rw [List.find?_eq_some_iff_append] at h1
  obtain ⟨h3, A, C, h4, h5⟩ := h1
  obtain ⟨am, as'⟩ := a
  have h6 : am = m := by simpa using h3
  have h7 : as' = s := h2
  subst h6; subst h7
  exact ⟨A, C, h4, fun b hb => by have := h5 b hb; simpa using this⟩
theorem dropS_none {L : List Sc} {m : Nm} (h : ∀ a ∈ L, a.m ≠ m) : dropS L m = L := by
  unfold dropS
  rw [List.filter_eq_self]
  intro a ha
  simpa using h a ha
theorem dropS_mid {A C : List Sc} {m : Nm} {s : Int} (hu : Uniq (A ++ ⟨m, s⟩ :: C)) : dropS (A ++ ⟨m, s⟩ :: C) m = A ++ C := by
  obtain ⟨h1, h2, h3⟩ := List.pairwise_append.1 hu
  have h4 := (List.pairwise_cons.1 h2).1
  have hA : dropS A m = A := dropS_none fun a ha => h3 a ha ⟨m, s⟩ (by simp)
  have hC : dropS C m = C := dropS_none fun a ha => Ne.symm (h4 a ha)
  unfold dropS at hA hC ⊢
  rw [List.filter_append, List.filter_cons, if_neg (by simp), hA, hC]
theorem dropS_mem {L : List Sc} {m : Nm} {a : Sc} (h : a ∈ dropS L m) : a ∈ L ∧ a.m ≠ m := by
  obtain ⟨h1, h2⟩ := List.mem_filter.1 h
  exact ⟨h1, by simpa using h2⟩
theorem dropS_rise {L : List Sc} {m : Nm} (h : Rising L) : Rising (dropS L m) := List.Pairwise.filter _ h
theorem dropS_uniq {L : List Sc} {m : Nm} (h : Uniq L) : Uniq (dropS L m) := List.Pairwise.filter _ h
theorem scoreOf_drop (L : List Sc) (m n : Nm) : scoreOf (dropS L m) n = if n = m then none else scoreOf L n := by
  by_cases h : n = m
  · rw [if_pos h, scoreOf_none]
    intro a ha
    rw [h]; exact (dropS_mem ha).2
  · rw [if_neg h]
    unfold scoreOf dropS
    congr 1
    induction L with
    | nil => rfl
    | cons y r ih =>
      rw [List.filter_cons]
      by_cases hy : y.m = m
      · have e1 : (!(y.m == m)) = false := by simp [hy]
        have e2 : (y.m == n) = false := by simp [hy, Ne.symm h]
        rw [e1, if_neg (by decide), ih, List.find?_cons, e2]
      · have e1 : (!(y.m == m)) = true := by simp [hy]
        rw [e1, if_pos rfl, List.find?_cons, List.find?_cons, ih]
theorem scoreOf_putAt {L : List Sc} {k : Nat} {x : Sc} (h : ∀ a ∈ L, a.m ≠ x.m) (n : Nm) : scoreOf (putAt L k x) n = if n = x.m then some x.s else scoreOf L n := by
  unfold scoreOf putAt
  have e : L = L.take k ++ L.drop k := (List.take_append_drop k L).symm
  by_cases hn : n = x.m
  · rw [if_pos hn, List.find?_append, List.find?_eq_none.2, List.find?_cons]
    · subst hn; simp
    · intro a ha hc
      exact h a (List.take_subset _ _ ha) (by rw [← hn]; simpa using hc)
  · rw [if_neg hn]
    conv => rhs; rw [e]
    rw [List.find?_append, List.find?_append, List.find?_cons, beq_eq_false_iff_ne.2 (Ne.symm hn)]
theorem Rising.putAt {L : List Sc} {x : Sc} (hr : Rising L) (h : ∀ a ∈ L, a ≠ x) : Rising (putAt L (nAhead x L) x) := by
  have hA : ∀ a ∈ L.take (nAhead x L), a.less x = true := by
    intro a ha
    obtain ⟨i, hi⟩ := List.getElem?_of_mem ha
    rw [List.getElem?_take] at hi
    by_cases hlt : i < nAhead x L
    · rw [if_pos hlt] at hi
      rw [ahead_iff hr i a hi, decide_eq_true hlt]
    · rw [if_neg hlt] at hi; cases hi
  have hC : ∀ a ∈ L.drop (nAhead x L), x.less a = true := by
    intro a ha
    obtain ⟨i, hi⟩ := List.getElem?_of_mem ha
    rw [List.getElem?_drop] at hi
    have h1 := ahead_iff (x := x) hr _ a hi
    rw [decide_eq_false (by omega)] at h1
    exact Sc.less_total h1 (h a (List.mem_of_getElem? hi))
  have hr2 : Rising (L.take (nAhead x L) ++ L.drop (nAhead x L)) := by rw [List.take_append_drop]; exact hr
  obtain ⟨p1, p2, p3⟩ := List.pairwise_append.1 hr2
  refine List.pairwise_append.2 ⟨p1, List.pairwise_cons.2 ⟨hC, p2⟩, fun a ha b hb => ?_⟩
  rcases List.mem_cons.1 hb with e | e
  · subst e; exact hA a ha
  · exact p3 a ha b e
theorem Uniq.putAt {L : List Sc} {k : Nat} {x : Sc} (hu : Uniq L) (h : ∀ a ∈ L, a.m ≠ x.m) : Uniq (putAt L k x) := by
  have hr2 : Uniq (L.take k ++ L.drop k) := by rw [List.take_append_drop]; exact hu
  obtain ⟨p1, p2, p3⟩ := List.pairwise_append.1 hr2
  refine List.pairwise_append.2 ⟨p1, List.pairwise_cons.2 ⟨fun a ha => Ne.symm (h a (List.drop_subset _ _ ha)), p2⟩, fun a ha b hb => ?_⟩
  rcases List.mem_cons.1 hb with e | e
  · subst e; exact h a (List.take_subset _ _ ha)
  · exact p3 a ha b e
theorem putL_mid (A C : List Nd) (nd : Nd) : putL (A ++ C) A.length nd = A ++ nd :: C := by
  show (A ++ C).take A.length ++ nd :: (A ++ C).drop A.length = _
  rw [List.take_left' rfl, List.drop_left' rfl]
theorem scs_app (A C : List Nd) : scs (A ++ C) = scs A ++ scs C := List.map_append
theorem scs_put (Ls : List Nd) (k : Nat) (nd : Nd) : scs (putL Ls k nd) = putAt (scs Ls) k nd.a := by
  show (Ls.take k ++ nd :: Ls.drop k).map Nd.a = (Ls.map Nd.a).take k ++ nd.a :: (Ls.map Nd.a).drop k
  rw [List.map_append, List.map_cons, List.map_take, List.map_drop]
theorem putAt_len {L : List Sc} {k : Nat} {x : Sc} : (putAt L k x).length = L.length + 1 := by
  unfold putAt
  rw [List.length_append, List.length_cons, List.length_take, List.length_drop]; omega
/-- Nodes whose members are parted so. -/
theorem scs_split {Ls : List Nd} {A C : List Sc} {x : Sc} (h : scs Ls = A ++ x :: C) : ∃ A' nd C', Ls = A' ++ nd :: C' ∧ scs A' = A ∧ nd.a = x ∧ scs C' = C := by
  obtain ⟨A', R, h1, h2, h3⟩ := List.map_eq_append_iff.1 h
  obtain ⟨nd, C', h4, h5, h6⟩ := List.map_eq_cons_iff.1 h3
  exact ⟨A', nd, C', by rw [h1, h4], h2, h5, h6⟩
/-- A set in memory. -/
structure ZSet (w : World) (B gz mb : Nat) (hd : Nd) (Ls : List Nd) : Prop where
  row : Row w 52 gz [.map (some mb), ptr hd.g]
  map : ∃ es, MapAt w mb es ∧ es.length = Ls.length ∧ ∀ m, atE es m = (scoreOf (scs Ls) m).map (Value.int .i64)
  z : ZAt w B (hd :: Ls) (full Ls)
  h16 : hd.h = 16
  rise : Rising (scs Ls)
  uniq : Uniq (scs Ls)
  lo : B ≤ gz ∧ B ≤ mb
/-- The blocks of a set that turn. -/
abbrev zB (mb : Nat) (hd : Nd) (Ls : List Nd) : List Nat := mb :: (hd :: Ls).map Nd.b
theorem ZSet.later {w w' : World} {B gz mb : Nat} {hd : Nd} {Ls : List Nd} (h : ZSet w B gz mb hd Ls) (hb : Below w.heap.size w w') : ZSet w' B gz mb hd Ls :=
  ⟨h.row.later hb, by obtain ⟨es, h1, h2, h3⟩ := h.map; exact ⟨es, h1.later hb, h2, h3⟩, h.z.later hb, h.h16, h.rise, h.uniq, h.lo⟩
theorem ZSet.lo_zB {w : World} {B gz mb : Nat} {hd : Nd} {Ls : List Nd} (h : ZSet w B gz mb hd Ls) : ∀ k ∈ zB mb hd Ls, B ≤ k := by
  intro k hk
  rcases List.mem_cons.1 hk with e | e
  · rw [e]; exact h.lo.2
  · obtain ⟨n, hn, rfl⟩ := List.mem_map.1 e
    obtain ⟨c, hc⟩ := List.getElem?_of_mem hn
    exact (h.z.lo c n hc).2.1
theorem ButZ.below {S : List Nat} {B : Nat} {a b : World} (h : ButZ S a b) (hS : ∀ k ∈ S, B ≤ k) (hB : B ≤ a.heap.size) : Below B a b :=
  ⟨h.os, h.tape, h.output, h.size, fun k hk => h.block k (by omega) fun hm => absurd (hS k hm) (by omega)⟩
theorem ButZ.sub {S T : List Nat} {a b : World} (h : ButZ S a b) (hS : ∀ k ∈ S, k ∈ T) : ButZ T a b :=
  ⟨h.os, h.tape, h.output, h.size, fun k hk hn => h.block k hk fun hm => hn (hS k hm)⟩
end Go.Proofs.Ytfklfgaomcbchaa

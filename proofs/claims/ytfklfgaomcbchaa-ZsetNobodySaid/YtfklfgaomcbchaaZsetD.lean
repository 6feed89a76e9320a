/-
  A set's closures: how one is called, what they answer; stops of a walk. Own work.
-/
import Derived.Test.YtfklfgaomcbchaaZsetC
namespace Go.Proofs.Ytfklfgaomcbchaa
open Go.RowKit Go.Shelf
set_option linter.unusedVariables false
set_option linter.unusedSimpArgs false
/-- A closure of two arguments is called. -/
theorem st_callF2 {o : Oper} {a : Act} {w : World} {K : Act → World → Prop} {Q : Exit → Act → World → Prop} (f : FuncId) (x y z : Operand) (t u : TypeId) (v1 v2 : Value) (caps : Array Value) (ho : o.op = .call { callee := .value x, args := #[y, z], argTypes := #[t, u] }) (hx : a.eval x = .func (.func f) #[] caps) (hy : a.eval y = v1) (hz : a.eval z = v2)
    (hf : ∀ (xs : Array Value) (w : World), (callFunc f xs).run Try.prog w = .ok (.enter f xs) w)
    {R : Ending → World → Prop} (hc : Calls Try.prog f (#[v1, v2] ++ caps) w R) (hk : ∀ e w', R e w' → ∃ v, e = .returned v ∧ K (a.put o.dst v) w') : o.wp Try.prog a w K Q := by
  unfold Oper.wp execOp
  simp only [ho, resolve, hx, Deferred.ofValue, List.map_toArray, List.map_cons, List.map_nil, hy, hz]
  go_simp
  refine hc.mono fun e w' h => ?_
  obtain ⟨v, rfl, h2⟩ := hk e w' h
  exact h2
theorem callAhead : ∀ (xs : Array Value) (w : World), (callFunc 40 xs).run Try.prog w = .ok (.enter 40 xs) w := fun xs w => by kernel_rfl
set_option maxRecDepth 100000 in
/-- ahead: a closure over the member. -/
theorem ahead_any (w : World) (a : Sc) : Calls Try.prog 34 #[a.val] w fun e w' => ∃ g, e = .returned (.func (.func 40) #[] #[ptr g]) ∧ Row w' 35 g a.cells ∧ w.heap.size ≤ g ∧ Below w.heap.size w w' := by
  obtain ⟨am, sa⟩ := a
  go_enter Try.func34, Try.ntmps34
  go_wp2_with (first
    | (with_reducible refine wl_box (o := ⟨some 1, _, _, _, _, _⟩) rfl 35 (.tmp 0) _ [encStr am, .int .i64 sa] rfl rfl rfl ?_; intro g1 w1 r1 p1 l1 b1))
  go_ret
  exact ⟨g1, rfl, r1, p1, b1⟩
set_option maxRecDepth 100000 in
theorem ahead1_any (w : World) (a x : Sc) (i : Int) (g : Nat) (h : Row w 35 g a.cells) : Calls Try.prog 40 (#[x.val, .int .i64 i] ++ #[ptr g]) w fun e w' => e = .returned (.bool (x.less a)) ∧ Below w.heap.size w w' := by
  have HL := fun w => less_any w x a
  have hS := szSc x
  have hT := szSc a
  obtain ⟨r, hr⟩ : ∃ r, r = x.less a := ⟨_, rfl⟩
  rw [← hr] at HL ⊢
  clear hr
  obtain ⟨am, sa⟩ := a
  obtain ⟨xm, sx⟩ := x
  show Calls _ _ #[_, _, _] _ _
  go_enter Try.func40, Try.ntmps40
  go_wp2_with (first
    | (with_reducible refine wl_box (o := ⟨some 3, _, _, _, _, _⟩) rfl 35 (.tmp 0) _ [encStr xm, .int .i64 sx] rfl rfl rfl ?_; intro g1 w1 r1 p1 l1 b1; have h1 := h.later b1)
    | (with_reducible refine wl_load_row rfl 35 (.tmp 3) g1 35 [encStr xm, .int .i64 sx] _ rfl rfl r1 Try.underlying35 rfl hS ?_)
    | (with_reducible refine wl_load_row rfl 35 (.tmp 2) g 35 [encStr am, .int .i64 sa] _ rfl rfl h1 Try.underlying35 rfl hT ?_))
  refine (HL _).mono ?_
  rintro e w' ⟨rfl, b2⟩
  go_wp2_with fail
  go_ret
  exact ⟨rfl, b1.trans (b2.mono b1.size)⟩
/-- The node where a walk stops on a level: the last one of the first k that has links there. -/
def IsStop (N : List Nd) (k lv c : Nat) : Prop := c ≤ k ∧ (∃ n, N[c]? = some n ∧ lv < n.h) ∧ ∀ (i : Nat) (n : Nd), c < i → i ≤ k → N[i]? = some n → n.h ≤ lv
theorem IsStop.uniq {N : List Nd} {k lv c d : Nat} (h : IsStop N k lv c) (h2 : IsStop N k lv d) : c = d := by
  obtain ⟨h1, ⟨n, hn, hl⟩, h3⟩ := h
  obtain ⟨k1, ⟨m, hm, km⟩, k3⟩ := h2
  rcases Nat.lt_trichotomy c d with e | e | e
  · have := h3 d m e k1 hm; omega
  · exact e
  · have := k3 c n e h1 hn; omega
/-- On the lowest level a walk stops at the k-th. -/
theorem IsStop.low {N : List Nd} {k c : Nat} (h : IsStop N k 0 c) (hk : k < N.length) (h1 : ∀ (i : Nat) (n : Nd), N[i]? = some n → 1 ≤ n.h) : c = k := by
  refine Nat.le_antisymm h.1 (Nat.le_of_not_lt fun hlt => ?_)
  have e : N[k]? = some N[k] := List.getElem?_eq_getElem hk
  have := h.2.2 k _ hlt (Nat.le_refl _) e
  have := h1 k _ e
  omega
/-- From a node on a level: the walk stops there, or goes on to a node that has links there too. -/
theorem walk_step {hd : Nd} {L : List Nd} {k lv c : Nat} (hc : c ≤ k) (hk : k ≤ L.length) {n : Nd} (hn : (hd :: L)[c]? = some n) (hl : lv < n.h) :
    ((nxt lv (L.drop c)).to = none ∧ IsStop (hd :: L) k lv c) ∨ ∃ (q : Nat) (m : Nd), nxt lv (L.drop c) = ⟨some m.g, (q : Int) + 1⟩ ∧ L[c + q]? = some m ∧ (hd :: L)[c + q + 1]? = some m ∧ lv < m.h ∧ (¬ c + q < k → IsStop (hd :: L) k lv c) := by
  have low : ∀ (A : List Nd) (R : List Nd), L.drop c = A ++ R → (∀ y ∈ A, y.h ≤ lv) → ∀ (i : Nat) (y : Nd), c < i → i ≤ c + A.length → (hd :: L)[i]? = some y → y.h ≤ lv := by
    intro A R hA hy i y h1 h2 h3
    obtain ⟨j, rfl⟩ : ∃ j, i = c + j + 1 := ⟨i - c - 1, by omega⟩
    rw [List.getElem?_cons_succ] at h3
    have h4 : (L.drop c)[j]? = some y := by rw [List.getElem?_drop]; exact h3
    rw [hA, List.getElem?_append_left (by omega)] at h4
    exact hy y (List.mem_of_getElem? h4)
  rcases nxt_cases lv (L.drop c) with ⟨h1, h2⟩ | ⟨A, m, R, h1, h2, h3, h4⟩
  · refine .inl ⟨by rw [h1], hc, ⟨n, hn, hl⟩, fun i y h5 h6 h7 => ?_⟩
    refine low (L.drop c) [] (by simp) h2 i y h5 ?_ h7
    rw [List.length_drop]; omega
  · have e1 : L[c + A.length]? = some m := by
      have : (L.drop c)[A.length]? = some m := by rw [h1]; simp
      rwa [List.getElem?_drop] at this
    refine .inr ⟨A.length, m, h2, e1, by rw [List.getElem?_cons_succ]; exact e1, h3, fun hq => ⟨hc, ⟨n, hn, hl⟩, fun i y h5 h6 h7 => ?_⟩⟩
    exact low A (m :: R) h1 h4 i y h5 (by omega) h7
end Go.Proofs.Ytfklfgaomcbchaa

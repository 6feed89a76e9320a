/-
  A set's closures: Range, Between; a walk to a member. Own work.
-/
import Derived.Test.YtfklfgaomcbchaaZsetF
import Derived.Test.YtfklfgaomcbchaaZsetE
namespace Go.Proofs.Ytfklfgaomcbchaa
open Go.RowKit Go.Shelf
set_option linter.unusedVariables false
set_option linter.unusedSimpArgs false
theorem callrange1 : ∀ (xs : Array Value) (w : World), (callFunc 31 xs).run Try.prog w = .ok (.enter 31 xs) w := fun xs w => by kernel_rfl
set_option maxRecDepth 100000 in
theorem range1_any (w : World) (x : Sc) (i y : Int) (g : Nat) (h : Row w 3 g [.int .i64 y]) : Calls Try.prog 31 (#[x.val, .int .i64 i] ++ #[ptr g]) w fun e w' => e = .returned (.bool (decide (i < y))) ∧ Below w.heap.size w w' := by
  obtain ⟨xm, sx⟩ := x
  show Calls _ _ #[_, _, _] _ _
  go_enter Try.func31, Try.ntmps31
  go_wp2_with (first
    | (with_reducible refine wl_box (o := ⟨some 3, _, _, _, _, _⟩) rfl 35 (.tmp 0) _ [encStr xm, .int .i64 sx] rfl rfl rfl ?_; intro g1 w1 r1 p1 l1 b1; have h1 := (h.later b1).cell (j := 0) rfl; have c0 := r1.cell (j := 1) rfl))
  go_ret
  exact ⟨rfl, b1⟩
theorem callrange2 : ∀ (xs : Array Value) (w : World), (callFunc 32 xs).run Try.prog w = .ok (.enter 32 xs) w := fun xs w => by kernel_rfl
set_option maxRecDepth 100000 in
theorem range2_any (w : World) (x : Sc) (i y : Int) (g : Nat) (h : Row w 3 g [.int .i64 y]) : Calls Try.prog 32 (#[x.val, .int .i64 i] ++ #[ptr g]) w fun e w' => e = .returned (.bool (decide (i < y))) ∧ Below w.heap.size w w' := by
  obtain ⟨xm, sx⟩ := x
  show Calls _ _ #[_, _, _] _ _
  go_enter Try.func32, Try.ntmps32
  go_wp2_with (first
    | (with_reducible refine wl_box (o := ⟨some 3, _, _, _, _, _⟩) rfl 35 (.tmp 0) _ [encStr xm, .int .i64 sx] rfl rfl rfl ?_; intro g1 w1 r1 p1 l1 b1; have h1 := (h.later b1).cell (j := 0) rfl; have c0 := r1.cell (j := 1) rfl))
  go_ret
  exact ⟨rfl, b1⟩
theorem callbetween1 : ∀ (xs : Array Value) (w : World), (callFunc 35 xs).run Try.prog w = .ok (.enter 35 xs) w := fun xs w => by kernel_rfl
set_option maxRecDepth 100000 in
theorem between1_any (w : World) (x : Sc) (i y : Int) (g : Nat) (h : Row w 3 g [.int .i64 y]) : Calls Try.prog 35 (#[x.val, .int .i64 i] ++ #[ptr g]) w fun e w' => e = .returned (.bool (decide (x.s < y))) ∧ Below w.heap.size w w' := by
  obtain ⟨xm, sx⟩ := x
  show Calls _ _ #[_, _, _] _ _
  go_enter Try.func35, Try.ntmps35
  go_wp2_with (first
    | (with_reducible refine wl_box (o := ⟨some 3, _, _, _, _, _⟩) rfl 35 (.tmp 0) _ [encStr xm, .int .i64 sx] rfl rfl rfl ?_; intro g1 w1 r1 p1 l1 b1; have h1 := (h.later b1).cell (j := 0) rfl; have c0 := r1.cell (j := 1) rfl))
  go_ret
  exact ⟨rfl, b1⟩
theorem callbetween2 : ∀ (xs : Array Value) (w : World), (callFunc 36 xs).run Try.prog w = .ok (.enter 36 xs) w := fun xs w => by kernel_rfl
set_option maxRecDepth 100000 in
theorem between2_any (w : World) (x : Sc) (i y : Int) (g : Nat) (h : Row w 3 g [.int .i64 y]) : Calls Try.prog 36 (#[x.val, .int .i64 i] ++ #[ptr g]) w fun e w' => e = .returned (.bool (decide (x.s ≤ y))) ∧ Below w.heap.size w w' := by
  obtain ⟨xm, sx⟩ := x
  show Calls _ _ #[_, _, _] _ _
  go_enter Try.func36, Try.ntmps36
  go_wp2_with (first
    | (with_reducible refine wl_box (o := ⟨some 3, _, _, _, _, _⟩) rfl 35 (.tmp 0) _ [encStr xm, .int .i64 sx] rfl rfl rfl ?_; intro g1 w1 r1 p1 l1 b1; have h1 := (h.later b1).cell (j := 0) rfl; have c0 := r1.cell (j := 1) rfl))
  go_ret
  exact ⟨rfl, b1⟩
abbrev scs (Ls : List Nd) : List Sc := Ls.map Nd.a
set_option maxRecDepth 100000 in
/-- A walk to where a member stands, or would stand. -/
theorem walkTo_any (w : World) (B : Nat) (hd : Nd) (Ls : List Nd) (x : Sc) (g : Nat) (hZ : ZAt w B (hd :: Ls) (full Ls)) (hh : hd.h = 16) (hl : Ls.length ≤ 1000000) (hr : Rising (scs Ls)) (hx : Row w 35 g x.cells) :
    Calls Try.prog 33 #[ptr hd.g, .func (.func 40) #[] #[ptr g]] w fun e w' => ∃ ps : List Lk, e = .returned (.agg (lksC ps).toArray) ∧ ps.length = 16 ∧ (∀ lv, lv < 16 → ∃ c n, ps[lv]? = some ⟨some n.g, (c : Int)⟩ ∧ (hd :: Ls)[c]? = some n ∧ IsStop (hd :: Ls) (nAhead x (scs Ls)) lv c) ∧ Below w.heap.size w w' := by
  refine walk_any w B (nAhead x (scs Ls)) hd Ls 40 #[ptr g] hZ hh (by have := nAhead_le x (scs Ls); simpa using this) hl callAhead ?_
  intro w1 hb i m hm
  have e := ahead_iff (x := x) hr i m.a (by simp [scs, hm])
  have H := ahead1_any w1 x m.a (i : Int) g (hx.later hb)
  rw [e] at H
  exact H
end Go.Proofs.Ytfklfgaomcbchaa

/-
  Calls of a set that no call made. Own work.
-/
import Derived.Test.YtfklfgaomcbchaaZsetY
namespace Go.Proofs.Ytfklfgaomcbchaa
open Go.RowKit Go.Shelf
set_option linter.unusedVariables false
set_option linter.unusedSimpArgs false
/-- A set that no call made. -/
def NoSet (w : World) (v : Value) : Prop := v = .pointer none ∨ ∃ g, v = ptr g ∧ Row w 52 g [.map none, .pointer none]
theorem NoSet.later {w w' : World} {v : Value} (h : NoSet w v) (hb : Below w.heap.size w w') : NoSet w' v :=
  h.imp id fun ⟨g, e, r⟩ => ⟨g, e, r.later hb⟩
theorem look_nil (w : World) (m : Nm) (hm : m.length ≤ maxLen) (a : Act) (o : Oper) (x y : Operand) (ho : o.op = .lookup 49 x y true) (hx : a.eval x = .map none) (hy : a.eval y = encStr m) : (execOp a.eval o).run Try.prog w = .ok (.value (.tuple #[.int .i64 0, .bool false])) w := by
  unfold execOp
  simp only [ho, hx, hy]
  go_simp
  rw [Go.Maps.look_nil true keyS Try.underlying49 (zeroF w) (keyOf_enc m hm)]
  rfl
set_option maxRecDepth 100000 in
theorem made_no (w : World) (v : Value) (h : NoSet w v) : Calls Try.prog 38 #[v] w fun e w' => e = .returned (.bool false) ∧ w = w' := by
  have hn : ∀ w, (binOp .neq 49 (.map none) (.map none)).run Try.prog w = .ok (.bool false) w := fun w => by kernel_rfl
  rcases h with rfl | ⟨g, rfl, r⟩
  · go_enter Try.func38, Try.ntmps38
    go_wp2_with fail
    go_ret
    exact ⟨rfl, rfl⟩
  · have c0 := r.cell (j := 0) rfl
    go_enter Try.func38, Try.ntmps38
    go_wp2_with fail
    go_ret
    exact ⟨rfl, rfl⟩
set_option maxRecDepth 100000 in
theorem len_no (w : World) (v : Value) (h : NoSet w v) : Calls Try.prog 24 #[v] w fun e w' => e = .returned (.int .i64 0) ∧ w = w' := by
  rcases h with rfl | ⟨g, rfl, r⟩
  · go_enter Try.func24, Try.ntmps24
    go_wp2_with fail
    go_ret
    exact ⟨rfl, rfl⟩
  · have c0 := r.cell (j := 0) rfl
    go_enter Try.func24, Try.ntmps24
    go_wp2_with fail
    go_ret
    exact ⟨rfl, rfl⟩
set_option maxRecDepth 100000 in
theorem score_no (w : World) (v : Value) (m : Nm) (hm : m.length ≤ maxLen) (h : NoSet w v) : Calls Try.prog 14 #[v, encStr m] w fun e w' => e = .returned (.tuple #[.int .i64 0, .bool false]) ∧ w = w' := by
  rcases h with rfl | ⟨g, rfl, r⟩
  · go_enter Try.func14, Try.ntmps14
    go_wp2_with fail
    go_ret2
    exact ⟨rfl, rfl⟩
  · have c0 := r.cell (j := 0) rfl
    go_enter Try.func14, Try.ntmps14
    go_wp2_with (first
      | (with_reducible refine wl_run (o := ⟨some 16, _, _, _, _, _⟩) rfl (.tuple #[.int .i64 0, .bool false]) (look_nil _ m hm _ _ (.tmp 14) (.tmp 15) rfl rfl rfl) ?_))
    go_ret2
    exact ⟨rfl, rfl⟩

set_option maxRecDepth 100000 in
theorem drop_nos (w : World) (v : Value) (m : Nm) (hm : m.length ≤ maxLen) (h : NoSet w v) : Calls Try.prog 22 #[v, encStr m] w fun e w' => e = .returned (.bool false) ∧ Below w.heap.size w w' := by
  have HC := fun w1 (hb : Below w.heap.size w w1) => score_no w1 v m hm (h.later hb)
  clear h
  go_enter Try.func22, Try.ntmps22
  go_wp2_with fail
  refine (HC _ (Below.refl _ _)).mono ?_
  rintro e w2 ⟨rfl, rfl⟩
  go_wp2_with fail
  go_ret
  exact ⟨rfl, Below.refl _ _⟩

set_option maxRecDepth 100000 in
theorem rank_nos (w : World) (v : Value) (m : Nm) (hm : m.length ≤ maxLen) (h : NoSet w v) : Calls Try.prog 15 #[v, encStr m] w fun e w' => e = .returned (.tuple #[.int .i64 0, .bool false]) ∧ Below w.heap.size w w' := by
  have HC := fun w1 (hb : Below w.heap.size w w1) => score_no w1 v m hm (h.later hb)
  clear h
  go_enter Try.func15, Try.ntmps15
  go_wp2_with fail
  refine (HC _ (Below.refl _ _)).mono ?_
  rintro e w2 ⟨rfl, rfl⟩
  go_wp2_with fail
  go_ret2
  exact ⟨rfl, Below.refl _ _⟩

set_option maxRecDepth 100000 in
theorem put_nos (w : World) (v : Value) (m : Nm) (s : Int) (h : NoSet w v) : Calls Try.prog 23 #[v, encStr m, .int .i64 s] w fun e w' => e = .returned (.bool false) ∧ Below w.heap.size w w' := by
  have HC := fun w1 (hb : Below w.heap.size w w1) => made_no w1 v (h.later hb)
  clear h
  go_enter Try.func23, Try.ntmps23
  go_wp2_with fail
  refine (HC _ (Below.refl _ _)).mono ?_
  rintro e w2 ⟨rfl, rfl⟩
  go_wp2_with fail
  go_ret
  exact ⟨rfl, Below.refl _ _⟩

set_option maxRecDepth 100000 in
theorem clone_nos (w : World) (v : Value)  (h : NoSet w v) : Calls Try.prog 26 #[v] w fun e w' => e = .returned (.pointer none) ∧ Below w.heap.size w w' := by
  have HC := fun w1 (hb : Below w.heap.size w w1) => made_no w1 v (h.later hb)
  clear h
  go_enter Try.func26, Try.ntmps26
  go_wp2_with fail
  refine (HC _ (Below.refl _ _)).mono ?_
  rintro e w2 ⟨rfl, rfl⟩
  go_wp2_with fail
  go_ret
  exact ⟨rfl, Below.refl _ _⟩

set_option maxRecDepth 100000 in
theorem behind_nos (w : World) (v : Value) (f1 f2 : Value) (h : NoSet w v) : Calls Try.prog 30 #[v, f1, f2] w fun e w' => e = .returned (.slice none 0 0) ∧ Below w.heap.size w w' := by
  have HC := fun w1 (hb : Below w.heap.size w w1) => made_no w1 v (h.later hb)
  clear h
  go_enter Try.func30, Try.ntmps30
  go_wp2_with fail
  refine (HC _ (Below.refl _ _)).mono ?_
  rintro e w2 ⟨rfl, rfl⟩
  go_wp2_with fail
  go_ret
  exact ⟨rfl, Below.refl _ _⟩

set_option maxRecDepth 100000 in
theorem range_nos (w : World) (v : Value) (x y : Int) (h : NoSet w v) : Calls Try.prog 13 #[v, .int .i64 x, .int .i64 y] w fun e w' => e = .returned (.slice none 0 0) ∧ Below w.heap.size w w' := by
  have HC := fun w1 (hb : Below w.heap.size w w1) => fun f1 f2 => behind_nos w1 v f1 f2 (h.later hb)
  clear h
  go_enter Try.func13, Try.ntmps13
  go_wp2_with (first
    | (with_reducible refine wl_box (o := ⟨some 4, _, _, _, _, _⟩) rfl 3 (.tmp 1) _ [.int .i64 x] rfl rfl rfl ?_; intro g4 w4 r4 p4 l4 b4)
    | (with_reducible refine wl_box (o := ⟨some 5, _, _, _, _, _⟩) rfl 3 (.tmp 2) _ [.int .i64 y] rfl rfl rfl ?_; intro g5 w5 r5 p5 l5 b5))
  refine (HC _ (b4.trans (b5.mono b4.size)) _ _).mono ?_
  rintro e w2 ⟨rfl, b6⟩
  go_wp2_with fail
  go_ret
  exact ⟨rfl, (b4.trans (b5.mono b4.size)).trans (b6.mono (b4.trans (b5.mono b4.size)).size)⟩

set_option maxRecDepth 100000 in
theorem between_nos (w : World) (v : Value) (x y : Int) (h : NoSet w v) : Calls Try.prog 19 #[v, .int .i64 x, .int .i64 y] w fun e w' => e = .returned (.slice none 0 0) ∧ Below w.heap.size w w' := by
  have HC := fun w1 (hb : Below w.heap.size w w1) => fun f1 f2 => behind_nos w1 v f1 f2 (h.later hb)
  clear h
  go_enter Try.func19, Try.ntmps19
  go_wp2_with (first
    | (with_reducible refine wl_box (o := ⟨some 4, _, _, _, _, _⟩) rfl 3 (.tmp 1) _ [.int .i64 x] rfl rfl rfl ?_; intro g4 w4 r4 p4 l4 b4)
    | (with_reducible refine wl_box (o := ⟨some 5, _, _, _, _, _⟩) rfl 3 (.tmp 2) _ [.int .i64 y] rfl rfl rfl ?_; intro g5 w5 r5 p5 l5 b5))
  refine (HC _ (b4.trans (b5.mono b4.size)) _ _).mono ?_
  rintro e w2 ⟨rfl, b6⟩
  go_wp2_with fail
  go_ret
  exact ⟨rfl, (b4.trans (b5.mono b4.size)).trans (b6.mono (b4.trans (b5.mono b4.size)).size)⟩

set_option maxRecDepth 100000 in
theorem at_nos (w : World) (v : Value) (x : Int) (h : NoSet w v) : Calls Try.prog 17 #[v, .int .i64 x] w fun e w' => e = .returned (.tuple #[.agg [encStr [], .int .i64 0].toArray, .bool false]) ∧ Below w.heap.size w w' := by
  have HL := fun w1 (hb : Below w.heap.size w w1) => len_no w1 v (h.later hb)
  have hbu := builtSc0
  clear h
  by_cases h0 : x < 0
  · go_enter Try.func17, Try.ntmps17
    go_wp2_with (first
      | (with_reducible refine wl_alloc (o := ⟨some 4, _, _, _, _, _⟩) rfl 35 _ [encStr [], .int .i64 0] rfl rfl rfl ?_; intro g4 w4 r4 p4 l4 b4)
      | (with_reducible refine wl_build (o := ⟨some 14, _, _, _, _, _⟩) rfl 35 [] rfl [] rfl [encStr [], .int .i64 0] hbu ?_)
      | (with_reducible refine wl_store_row rfl 35 (.tmp 4) (.tmp 14) g4 35 _ [encStr [], .int .i64 0] rfl rfl rfl r4 szSc0 rfl (by simp [Value.oneCell', encStr]) ?_; intro w5 r5 o5))
    refine bodyPost_ret (v := .tuple #[.agg [encStr [], .int .i64 0].toArray, .bool false]) ?_ rfl ⟨rfl, b4.trans (o5.below p4)⟩
    exact results_rt2 Try.results17 _ _ g4 35 _ _ _ rfl r5 Try.underlying35 rfl szSc0 rfl
  · have h1 : 0 ≤ x := by omega
    go_enter Try.func17, Try.ntmps17
    go_wp2_with (first
      | (with_reducible refine wl_alloc (o := ⟨some 4, _, _, _, _, _⟩) rfl 35 _ [encStr [], .int .i64 0] rfl rfl rfl ?_; intro g4 w4 r4 p4 l4 b4))
    refine (HL _ b4).mono ?_
    rintro e w5 ⟨rfl, rfl⟩
    go_wp2_with (first
      | (with_reducible refine wl_build (o := ⟨some 14, _, _, _, _, _⟩) rfl 35 [] rfl [] rfl [encStr [], .int .i64 0] hbu ?_)
      | (with_reducible refine wl_store_row rfl 35 (.tmp 4) (.tmp 14) g4 35 _ [encStr [], .int .i64 0] rfl rfl rfl r4 szSc0 rfl (by simp [Value.oneCell', encStr]) ?_; intro w6 r6 o6))
    refine bodyPost_ret (v := .tuple #[.agg [encStr [], .int .i64 0].toArray, .bool false]) ?_ rfl ⟨rfl, b4.trans (o6.below p4)⟩
    exact results_rt2 Try.results17 _ _ g4 35 _ _ _ rfl r6 Try.underlying35 rfl szSc0 rfl
end Go.Proofs.Ytfklfgaomcbchaa

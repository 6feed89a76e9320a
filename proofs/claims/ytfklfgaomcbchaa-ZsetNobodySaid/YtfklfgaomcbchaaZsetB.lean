/-
  A sorted set: a node whose links go nowhere yet: contract. Own work.
-/
import Derived.Test.YtfklfgaomcbchaaZsetA
import Derived.Laws.MakeOwn
namespace Go.Proofs.Ytfklfgaomcbchaa
open Go.RowKit Go.Shelf
set_option linter.unusedVariables false
set_option linter.unusedSimpArgs false
theorem wl_makeN {P : Program} {ops : Array Oper} {rest : List Oper} {o : Oper} {a : Act} {w : World} {Q : Exit → Act → World → Prop} (hgd : o.guard = none) (t : TypeId) (x y : Operand) (ho : o.op = .makeSlice t x y) (e : TypeId) (i : TypeInfo) (z : Value) (size : Nat) (ht : P.underlying t = some (.slice e)) (hi : P.info? e = some i) (hz : i.zero = some z) (hsz : i.size = size)
    (l : Nat) (hx : a.eval x = .int .i64 l) (hy : a.eval y = .int .i64 l) (hlen : i.bytes * l ≤ 281474976710656) (hc : l ≤ 9223372036854775807)
    (hk : ∀ g w', Row w' e g (madeCells z.cells (l * size)).toList → w.heap.size ≤ g → g < w'.heap.size → Below w.heap.size w w' → wpList P ops Q rest (a.put o.dst (.slice (some ⟨g, 0, none⟩) l l)) w') : wpList P ops Q (o :: rest) a w := by
  refine wpList_plain hgd fun K hK => ?_
  have hb' : (i.bytes : Int) * (l : Int) ≤ 281474976710656 := by
    have h : ((i.bytes * l : Nat) : Int) ≤ 281474976710656 := by omega
    rwa [Int.natCast_mul] at h
  have hrun := run_make (P := P) w t e i z ht hi hz .i64 .i64 l l (by omega) (by omega) hb' (by omega)
  unfold Oper.wp execOp
  simp only [ho, hx, hy, hrun, Sem.run_bind, Result.andThen_ok, Sem.run_pure, Int.toNat_natCast]
  refine hK _ _ (hk _ _ ?_ (Nat.le_refl _) (lt_alloc _ _) ((Below.refl _ _).alloc (Nat.le_refl _) _))
  unfold Row
  rw [heap_alloc_new, hsz]
/-- A link: the node it goes to, and how many places it goes on. -/
structure Lk where
  to : Option Nat
  n : Int
abbrev Lk.cells (l : Lk) : List Value := [.pointer (l.to.map fun g => ⟨g, 0, none⟩), .int .i64 l.n]
abbrev lksC (ls : List Lk) : List Value := ls.flatMap Lk.cells
abbrev noLk : Lk := ⟨none, 0⟩
abbrev nodeC (a : Sc) (b h : Nat) : List Value := [encStr a.m, .int .i64 a.s, .slice (some ⟨b, 0, none⟩) h h]
theorem lksC_length (ls : List Lk) : (lksC ls).length = 2 * ls.length := by
  induction ls with
  | nil => rfl
  | cons l r ih =>
    show (Lk.cells l ++ lksC r).length = _
    rw [List.length_append, ih]
    show 2 + 2 * r.length = 2 * (r.length + 1)
    omega
theorem made_links (h : Nat) : (madeCells (Value.agg #[.pointer none, .int .i64 0]).cells (h * 2)).toList = lksC (List.replicate h noLk) := by
  apply List.ext_getElem?
  intro j
  have hl : (lksC (List.replicate h noLk)).length = 2 * h := by rw [lksC_length, List.length_replicate]
  have key : ∀ (h j : Nat), (lksC (List.replicate h noLk))[j]? = if j < 2 * h then some (if j % 2 = 0 then .pointer none else .int .i64 0) else none := by
    intro h
    induction h with
    | zero => intro j; simp
    | succ h ih =>
      intro j
      rw [List.replicate_succ]
      show (Lk.cells noLk ++ lksC (List.replicate h noLk))[j]? = _
      match j with
      | 0 => rw [if_pos (by omega)]; rfl
      | 1 => rw [if_pos (by omega)]; rfl
      | j + 2 =>
        show (lksC (List.replicate h noLk))[j]? = _
        rw [ih j]
        by_cases hj : j < 2 * h
        · have hj2 : j + 2 < 2 * (h + 1) := by omega
          rw [if_pos hj, if_pos hj2, show (j + 2) % 2 = j % 2 by omega]
        · have hj2 : ¬ j + 2 < 2 * (h + 1) := by omega
          rw [if_neg hj, if_neg hj2]
  rw [key]
  simp only [madeCells, Array.getElem?_toList, Array.getElem?_map, Array.getElem?_range]
  by_cases hj : j < 2 * h
  · rw [if_pos hj]
    simp only [show j < h * 2 by omega, if_true, Option.map_some, Value.cells]
    have h2 : j % 2 = 0 ∨ j % 2 = 1 := by omega
    show some (#[Value.pointer none, Value.int .i64 0][j % 2]!) = _
    rcases h2 with e | e <;> rw [e] <;> rfl
  · rw [if_neg hj]
    simp [show ¬ j < h * 2 by omega]
theorem linkI_ : (Try.prog.info? 70).map (fun i => (i.zero, i.size, i.bytes)) = some (some (.agg #[.pointer none, .int .i64 0]), 2, 16) := by kernel_rfl
theorem linkI : ∃ i, Try.prog.info? 70 = some i ∧ i.zero = some (.agg #[.pointer none, .int .i64 0]) ∧ i.size = 2 ∧ i.bytes = 16 := by
  obtain ⟨i, h0, h1, h2, h3⟩ := info_parts linkI_
  exact ⟨i, h0, h1, h2, h3⟩
theorem szLks : (Try.prog.info? 65).map (·.size) = some 1 := by kernel_rfl
theorem builtNode (a : Sc) : Try.prog.built 67 [(0, .agg #[encStr a.m, .int .i64 a.s])] = some [encStr a.m, .int .i64 a.s, .slice none 0 0].toArray := by kernel_rfl
set_option maxRecDepth 100000 in
set_option maxHeartbeats 1000000 in
theorem newNode_any (w : World) (a : Sc) (hm : a.m.length ≤ 1000000) : Calls Try.prog 41 #[a.val] w fun e w' =>
    ∃ g b h, e = .returned (ptr g) ∧ 1 ≤ h ∧ h ≤ 16 ∧ Row w' 67 g (nodeC a b h) ∧ Row w' 70 b (lksC (List.replicate h noLk)) ∧ w.heap.size ≤ g ∧ g < b ∧ Below w.heap.size w w' := by
  have HH := fun w => height_any a.m w hm
  obtain ⟨i0, hi, hz, hs, hb⟩ := linkI
  have hN := builtNode a
  have hS := szSc a
  obtain ⟨am, sa⟩ := a
  clear hm
  go_enter Try.func41, Try.ntmps41
  go_wp2_with (first
    | (with_reducible refine wl_box (o := ⟨some 1, _, _, _, _, _⟩) rfl 35 (.tmp 0) _ [encStr am, .int .i64 sa] rfl rfl rfl ?_; intro g1 w1 r1 p1 l1 b1)
    | (with_reducible refine wl_load_row rfl 35 (.tmp 1) g1 35 [encStr am, .int .i64 sa] _ rfl rfl r1 Try.underlying35 rfl hS ?_)
    | (with_reducible refine wl_build rfl 67 [(0, .tmp 4)] rfl [(0, .agg #[encStr am, .int .i64 sa])] rfl [encStr am, .int .i64 sa, .slice none 0 0] hN ?_)
    | (with_reducible refine wl_box (o := ⟨some 6, _, _, _, _, _⟩) rfl 67 (.tmp 5) _ [encStr am, .int .i64 sa, .slice none 0 0] rfl rfl rfl ?_; intro g2 w2 r2 p2 l2 b2; have c1 := r2.cell (j := 0) rfl))
  refine (HH _).mono ?_
  rintro e w' ⟨⟨h, h1, h16, rfl⟩, rfl⟩
  go_wp2_with (first
    | (with_reducible refine wl_makeN rfl 65 (.tmp 13) (.tmp 13) rfl 70 i0 _ 2 Try.underlying65 hi hz hs h rfl rfl (by rw [hb]; omega) (by omega) ?_; intro g3 w3 r3 p3 l3 b3; have r2b := r2.later b3)
    | (with_reducible refine wl_store rfl 65 (.tmp 16) (.tmp 14) g2 2 67 _ (.slice (some ⟨g3, 0, none⟩) h h) rfl szLks rfl rfl r2b (by simp) rfl ?_; intro w4 r4 o4))
  go_ret
  have s1 := b1.size
  have s2 := b2.size
  have B2 := b1.trans (b2.mono s1)
  have B3 := B2.trans (b3.mono B2.size)
  have r3' := r3.only o4 (by omega)
  rw [made_links] at r3'
  exact ⟨g2, g3, h, rfl, h1, h16, r4, r3', by omega, by omega, B3.trans (o4.below (by omega))⟩
end Go.Proofs.Ytfklfgaomcbchaa

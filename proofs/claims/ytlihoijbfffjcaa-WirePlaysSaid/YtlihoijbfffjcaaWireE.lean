/-
  A net of ways: the way of a number, send, next, lose, pick, count, waiting: contracts. Own work.
-/
import Derived.Test.YtlihoijbfffjcaaWireD
import Derived.Test.YtlihoijbfffjcaaPackU
namespace Go.Proofs.Ytlihoijbfffjcaa
open Go.RowKit Go.Conc
set_option linter.unusedVariables false
set_option linter.unusedSimpArgs false
/-- A copy is a row of its own. -/
theorem clone_own (A : Option Addr) (n c : Nat) (xs : List Int) (w : World) (h : Bs w w.heap.size A n xs) (hn : n ≤ 140737488355328) :
    Calls Try.prog 22 #[.slice A n c] w fun e w' => ∃ A' c', e = .returned (.slice A' n c') ∧ w'.ownsRow w.heap.size 5 1 (.slice A' n c') n (bv xs) ∧ Below w.heap.size w w' := by
  have q : ∀ (w : World) (a : Option Addr) (n c n' c' : Nat), (binOp .eql 35 (.slice a n c) (.slice none n' c')).run Try.prog w = .ok (.bool a.isNone) w := fun w a n c n' c' => Lib.run_eql_slice_nil w _ _ a n c n' c' Try.underlying35
  obtain ⟨i0, hi, hz, hsz, hby⟩ := u8_info
  rcases A with _ | ad
  · have h0 : n = 0 := by
      rcases Nat.eq_zero_or_pos n with h0 | h0
      · exact h0
      · obtain ⟨_, _, h, _⟩ := h.2 h0; cases h
    subst h0
    obtain rfl : xs = [] := List.eq_nil_of_length_eq_zero h.1
    go_enter Try.func22, Try.ntmps22
    go_wp2
    go_ret
    exact ⟨none, 0, rfl, World.ownsRow_nil _ _ _ _, Below.refl _ _⟩
  · have hown := World.ownsRow_lit (base := w.heap.size) (e := 5) (size := 1) w #[] 0 (Nat.le_refl _) (by simp) rfl
    go_enter Try.func22, Try.ntmps22
    go_wp2_with (at_builtin; refine wpList_append_bs rfl (.tmp 5) (.tmp 6) _ rfl w.heap.size 5 i0 Try.underlying35 hi hz hsz hby (.slice (some ⟨w.heap.size, 0, none⟩) 0 0) 0 [] rfl hown w.heap.size (some ad) n c xs rfl (h.below ((Below.refl _ _).alloc (Nat.le_refl _) _)) (by omega) (by simp) ?_; intro v1 w1 hown1 hg1)
    go_ret
    have hb := grown_below ((Below.refl _ _).alloc (Nat.le_refl _) _) hown (Nat.le_refl _) hg1
    rw [Nat.zero_add, List.nil_append] at hown1
    rcases hown1.2 with ⟨rfl, h0⟩ | ⟨g, cap, cur, rfl, _⟩
    · subst h0; exact ⟨none, 0, rfl, hown1, hb⟩
    · exact ⟨_, _, rfl, hown1, hb⟩
theorem clone_nil (w : World) : Calls Try.prog 22 #[.slice none 0 0] w fun e w' => e = .returned (.slice none 0 0) ∧ w = w' := by
  have q : ∀ (w : World) (a : Option Addr) (n c n' c' : Nat), (binOp .eql 35 (.slice a n c) (.slice none n' c')).run Try.prog w = .ok (.bool a.isNone) w := fun w a n c n' c' => Lib.run_eql_slice_nil w _ _ a n c n' c' Try.underlying35
  go_enter Try.func22, Try.ntmps22
  go_wp2
  go_ret
  exact ⟨rfl, rfl⟩
theorem NetAt.cells {w : World} {B gw : Nat} {nv : Value} {ls : List Way} (h : NetAt w B gw nv ls) : ∃ A c, nv = .slice A ls.length c ∧ ∀ i l, ls[i]? = some l → ∃ g, A = some ⟨g, 0, none⟩ ∧ w.cell? ⟨g, i, none⟩ = some (ptr l.gl) := by
  obtain ⟨hl, ho⟩ := h.own
  rcases ho with ⟨rfl, h0⟩ | ⟨g, cap, cur, rfl, _, hg, h1, h2, h3, h4⟩
  · refine ⟨none, 0, by rw [h0], fun i l hi => ?_⟩
    have := (List.getElem?_eq_some_iff.1 hi).1
    omega
  · refine ⟨_, _, rfl, fun i l hi => ⟨g, rfl, ?_⟩⟩
    have hlt := (List.getElem?_eq_some_iff.1 hi).1
    have e : (cur.toList.take (ls.length * 1))[i]? = (ls.map fun l => ptr l.gl)[i]? := by rw [h4]
    rw [Nat.mul_one, List.getElem?_take, if_pos hlt, List.getElem?_map, hi, Option.map_some] at e
    rw [cell_of_row w g i cur _ (0, 0) hg, ← Array.getElem?_toList]
    exact e
theorem lane_nil (w : World) (i : Int) : Calls Try.prog 105 #[.pointer none, .int .i64 i] w fun e w' => e = .returned (.pointer none) ∧ w = w' := by
  go_enter Try.func105, Try.ntmps105
  go_wp2
  go_ret
  exact ⟨rfl, rfl⟩
theorem lane_out (w : World) (B gw : Nat) (nv : Value) (ls : List Way) (h : NetAt w B gw nv ls) (i : Int) (hi : i < 0 ∨ (ls.length : Int) ≤ i) : Calls Try.prog 105 #[ptr gw, .int .i64 i] w fun e w' => e = .returned (.pointer none) ∧ w = w' := by
  obtain ⟨A, c, rfl, _⟩ := h.cells
  have c0 := h.row.cell (j := 0) (v := .slice A ls.length c) rfl
  generalize ls.length = m at *
  by_cases h0 : i < 0
  · have d0 : decide (i < 0) = true := by simp; omega
    go_enter Try.func105, Try.ntmps105
    go_wp2
    go_ret
    exact ⟨rfl, rfl⟩
  · have d0 : decide (i < 0) = false := by simp; omega
    have d1 : decide ((m : Int) ≤ i) = true := by simp; omega
    go_enter Try.func105, Try.ntmps105
    go_wp2
    go_ret
    exact ⟨rfl, rfl⟩
theorem lane_in (w : World) (B gw : Nat) (nv : Value) (ls : List Way) (h : NetAt w B gw nv ls) (i : Nat) (l : Way) (hl : ls[i]? = some l) : Calls Try.prog 105 #[ptr gw, .int .i64 i] w fun e w' => e = .returned (ptr l.gl) ∧ w = w' := by
  have hlt : i < ls.length := (List.getElem?_eq_some_iff.1 hl).1
  obtain ⟨A, c, rfl, hcs⟩ := h.cells
  obtain ⟨g, rfl, ci⟩ := hcs i l hl
  have c0 := h.row.cell (j := 0) (v := .slice (some ⟨g, 0, none⟩) ls.length c) rfl
  generalize ls.length = m at *
  have d0 : ¬ (i : Int) < 0 := by omega
  have d1 : decide ((m : Int) ≤ (i : Int)) = false := by simp; omega
  clear hcs hl
  go_enter Try.func105, Try.ntmps105
  go_wp2
  go_ret
  exact ⟨rfl, rfl⟩
theorem two_nil : True := trivial
theorem next_no (w : World) (v : Value) (i : Int) (hL : Calls Try.prog 105 #[v, .int .i64 i] w fun e w' => e = .returned (.pointer none) ∧ w = w') : Calls Try.prog 59 #[v, .int .i64 i] w fun e w' => e = .returned (.tuple #[.slice none 0 0, .int .i64 1]) ∧ w = w' := by
  go_enter Try.func59, Try.ntmps59
  go_wp2_with fail
  refine hL.mono ?_
  rintro en w1 ⟨rfl, rfl⟩
  go_wp2_with fail
  go_ret2
  exact ⟨rfl, rfl⟩
theorem pick_no (w : World) (v : Value) (i : Int) (k : Int) (hL : Calls Try.prog 105 #[v, .int .i64 i] w fun e w' => e = .returned (.pointer none) ∧ w = w') : Calls Try.prog 62 #[v, .int .i64 i, .int .i64 k] w fun e w' => e = .returned (.tuple #[.slice none 0 0, .int .i64 1]) ∧ w = w' := by
  go_enter Try.func62, Try.ntmps62
  go_wp2_with fail
  refine hL.mono ?_
  rintro en w1 ⟨rfl, rfl⟩
  go_wp2_with fail
  go_ret2
  exact ⟨rfl, rfl⟩
theorem count_no (w : World) (v : Value) (i : Int) (hL : Calls Try.prog 105 #[v, .int .i64 i] w fun e w' => e = .returned (.pointer none) ∧ w = w') : Calls Try.prog 66 #[v, .int .i64 i] w fun e w' => e = .returned (.int .i64 0) ∧ w = w' := by
  go_enter Try.func66, Try.ntmps66
  go_wp2_with fail
  refine hL.mono ?_
  rintro en w1 ⟨rfl, rfl⟩
  go_wp2_with fail
  go_ret
  exact ⟨rfl, rfl⟩
theorem waiting_no (w : World) (v : Value) (i : Int) (hL : Calls Try.prog 105 #[v, .int .i64 i] w fun e w' => e = .returned (.pointer none) ∧ w = w') : Calls Try.prog 67 #[v, .int .i64 i] w fun e w' => e = .returned (.int .i64 0) ∧ w = w' := by
  go_enter Try.func67, Try.ntmps67
  go_wp2_with fail
  refine hL.mono ?_
  rintro en w1 ⟨rfl, rfl⟩
  go_wp2_with fail
  go_ret
  exact ⟨rfl, rfl⟩
theorem send_no (w : World) (v : Value) (i : Int) (A : Option Addr) (n c : Nat) (hL : Calls Try.prog 105 #[v, .int .i64 i] w fun e w' => e = .returned (.pointer none) ∧ w = w') : Calls Try.prog 64 #[v, .int .i64 i, .slice A n c] w fun e w' => e = .returned (.int .i64 1) ∧ w = w' := by
  go_enter Try.func64, Try.ntmps64
  go_wp2_with fail
  refine hL.mono ?_
  rintro en w1 ⟨rfl, rfl⟩
  go_wp2_with fail
  go_ret
  exact ⟨rfl, rfl⟩

theorem lose_no (w : World) (v : Value) (i : Int) (hL : Calls Try.prog 105 #[v, .int .i64 i] w fun e w' => e = .returned (.pointer none) ∧ w = w') : Calls Try.prog 61 #[v, .int .i64 i] w fun e w' => e = .returned (.int .i64 1) ∧ w = w' := by
  have hN := next_no w v i hL
  go_enter Try.func61, Try.ntmps61
  go_wp2_with fail
  refine hN.mono ?_
  rintro en w1 ⟨rfl, rfl⟩
  go_wp2_with fail
  go_ret
  exact ⟨rfl, rfl⟩
/-- A row of bytes of the call's own. -/
abbrev OwnB (w : World) (B : Nat) (A : Option Addr) (n c : Nat) (xs : List Int) : Prop := w.ownsRow B 5 1 (.slice A n c) n (bv xs)
set_option maxRecDepth 100000 in
theorem nnext_some (w : World) (B gw : Nat) (nv : Value) (ls : List Way) (h : NetAt w B gw nv ls) (i : Nat) (l : Way) (hl : ls[i]? = some l) (v : Value) (xs : List Int) (hv : l.fs[l.gone]? = some (v, xs)) (hx : xs.length ≤ 140737488355328) :
    Calls Try.prog 59 #[ptr gw, .int .i64 i] w fun e w' => ∃ A n c w1, e = .returned (.tuple #[.slice A n c, .int .i64 0]) ∧ OwnB w' w1.heap.size A n c xs ∧ NetAt w1 B gw nv (ls.set i { l with gone := l.gone + 1 }) ∧ Buts l.blocks w w1 ∧ Below w1.heap.size w1 w' := by
  have hL := lane_in w B gw nv ls h i l hl
  have hw := h.mem hl
  have hN := next_some w B l hw v xs hv
  have hvb := hw.frames (v, xs) (List.mem_of_getElem? hv)
  obtain ⟨A0, n0, c0, rfl, hn0, _⟩ := hvb
  go_enter Try.func59, Try.ntmps59
  go_wp2_with fail
  refine hL.mono ?_
  rintro en w1 ⟨rfl, rfl⟩
  go_wp2_with fail
  refine hN.mono ?_
  rintro en w1 ⟨rfl, hw1, b1⟩
  have hb1 := b1.sub (S' := l.blocks) (by intro k hk; simp at hk; subst hk; simp [Way.blocks])
  have hN1 := h.turn hl hb1 hw1 rfl rfl (.inl rfl)
  have hf1 := (hw1.frames (.slice A0 n0 c0, xs) (List.mem_of_getElem? (i := l.gone) hv)).bs
  go_wp2_with fail
  refine (clone_own A0 n0 c0 xs w1 hf1 (by rw [← hn0]; exact hx)).mono ?_
  rintro en w2 ⟨A2, c2, rfl, ho, b2⟩
  go_wp2_with fail
  go_ret2
  exact ⟨A2, n0, c2, w1, rfl, ho, hN1, hb1, b2⟩
set_option maxRecDepth 100000 in
theorem nnext_none (w : World) (B gw : Nat) (nv : Value) (ls : List Way) (h : NetAt w B gw nv ls) (i : Nat) (l : Way) (hl : ls[i]? = some l) (he : l.gone = l.fs.length) :
    Calls Try.prog 59 #[ptr gw, .int .i64 i] w fun e w' => e = .returned (.tuple #[.slice none 0 0, .int .i64 9]) ∧ w = w' := by
  have hL := lane_in w B gw nv ls h i l hl
  have hN := next_none w B l (h.mem hl) he
  clear he
  go_enter Try.func59, Try.ntmps59
  go_wp2_with fail
  refine hL.mono ?_
  rintro en w1 ⟨rfl, rfl⟩
  go_wp2_with fail
  refine hN.mono ?_
  rintro en w1 ⟨rfl, rfl⟩
  go_wp2_with fail
  refine (clone_nil w).mono ?_
  rintro en w2 ⟨rfl, rfl⟩
  go_wp2_with fail
  go_ret2
  exact ⟨rfl, rfl⟩
end Go.Proofs.Ytlihoijbfffjcaa

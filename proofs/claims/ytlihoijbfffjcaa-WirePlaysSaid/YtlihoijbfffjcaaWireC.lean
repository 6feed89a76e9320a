/-
  A net of ways: new, the way of a number; contracts. Own work.
-/
import Derived.Test.YtlihoijbfffjcaaWireB
namespace Go.Proofs.Ytlihoijbfffjcaa
open Go.RowKit Go.Conc
set_option linter.unusedVariables false
set_option linter.unusedSimpArgs false
theorem wl_makeChan {P : Program} {ops : Array Oper} {rest : List Oper} {o : Oper} {a : Act} {w : World} {Q : Exit → Act → World → Prop} (hgd : o.guard = none) (t n : Nat) (x : Operand) (v : Value) (ho : o.op = .makeChan t x) (hx : a.eval x = v)
    (hrun : (Instr.makeChan t v).run P w = .ok (.chan (some w.heap.size)) (w.alloc (.chan n #[] false 0 0 false)))
    (hk : ∀ c w', w'.heap[c]? = some (.chan n #[] false 0 0 false) → w.heap.size ≤ c → Below w.heap.size w w' → wpList P ops Q rest (a.put o.dst (.chan (some c))) w') : wpList P ops Q (o :: rest) a w :=
  wpList_plain hgd fun K hK => by
    unfold Oper.wp execOp
    simp only [ho, hx, hrun, Sem.run_bind, Sem.run_pure, Result.andThen_ok]
    exact hK _ _ (hk _ _ (heap_alloc_new _ _) (Nat.le_refl _) ((Below.refl _ _).alloc (Nat.le_refl _) _))
theorem mkch (w : World) : (Instr.makeChan 164 (.int .i64 200)).run Try.prog w = .ok (.chan (some w.heap.size)) (w.alloc (.chan 200 #[] false 0 0 false)) := by
  obtain ⟨i0, hi0, hz0, hs0, hb0⟩ := sl35
  simpa using run_makeChan (P := Try.prog) (w := w) Try.underlying164 hi0 .i64 200 (by omega) (by rw [hb0]; omega)
theorem builtLane (c : Nat) : Try.prog.built 166 [(0, .chan (some c))] = some [Value.chan (some c), Value.slice none 0 0].toArray := by kernel_rfl
set_option maxRecDepth 100000 in
theorem newLane_any (w : World) : Calls Try.prog 104 #[] w fun e w' => ∃ l : Way, e = .returned (ptr l.gl) ∧ WayAt w' w.heap.size l ∧ l.fs = [] ∧ l.gone = 0 ∧ Below w.heap.size w w' := by
  have bl := builtLane
  go_enter Try.func104, Try.ntmps104
  go_wp2_with (first
    | ((with_reducible refine wl_makeChan rfl 164 200 (.const (.int .i64 200)) (.int .i64 200) rfl rfl (mkch _) ?_); intro c w1 hc pc bc)
    | ((with_reducible refine wl_build rfl 166 _ rfl _ ?hv _ (bl c) ?hk); case hv => rfl)
    | ((with_reducible refine wl_box rfl 166 (.tmp 2) _ [.chan (some c), .slice none 0 0] rfl rfl rfl ?_); intro g w2 r2 p2 l2 b2))
  go_ret
  refine ⟨⟨g, c, .slice none 0 0, [], 0⟩, rfl, ⟨r2, Nat.le_trans bc.size p2, pc, ⟨0, 0, ?_⟩, World.ownsRow_nil _ _ _ _, fun p hp => (by cases hp), (by simp), Nat.le_refl _⟩, rfl, rfl, bc.trans (b2.mono bc.size)⟩
  exact (b2.block c (blk_lt hc)).trans hc
/-- Ways stand apart. -/
def Apart (ls : List Way) : Prop := ∀ (i j : Nat) (l l' : Way), ls[i]? = some l → ls[j]? = some l' → i ≠ j → ∀ k ∈ l.blocks, k ∉ l'.blocks
structure NetAt (w : World) (B gw : Nat) (nv : Value) (ls : List Way) : Prop where
  row : Row w 151 gw [nv]
  lo : B ≤ gw
  own : w.ownsRow B 152 1 nv ls.length (ls.map fun l => ptr l.gl)
  ways : ∀ l ∈ ls, WayAt w B l
  apart : Apart ls
theorem WayAt.not_row {w : World} {B t g : Nat} {l : Way} {vs : List Value} (h : WayAt w B l) (hr : Row w t g vs) (h1 : t ≠ 166) (h2 : t ≠ 35) : g ∉ l.blocks := by
  intro hk
  unfold Row at hr
  simp only [Way.blocks, List.mem_cons] at hk
  rcases hk with rfl | rfl | hk
  · have := h.row; unfold Row at this; rw [hr] at this; simp at this; exact h1 this.2
  · obtain ⟨s, r, hc⟩ := h.chan; rw [hr] at hc; cases hc
  · obtain ⟨_, _, cs, hc⟩ := own_lo h.own g hk; rw [hr] at hc; simp at hc; exact h2 hc.2
theorem WayAt.not_own {w : World} {B B' n : Nat} {v : Value} {xs : List Value} {l : Way} (h : WayAt w B l) (ho : w.ownsRow B' 152 1 v n xs) : ∀ k ∈ v.ownBlock.toList, k ∉ l.blocks := by
  intro k hk hl
  obtain ⟨_, _, cs, hc⟩ := own_lo ho k hk
  simp only [Way.blocks, List.mem_cons] at hl
  rcases hl with rfl | rfl | hl
  · have := h.row; unfold Row at this; rw [hc] at this; simp at this
  · obtain ⟨s, r, hx⟩ := h.chan; rw [hc] at hx; cases hx
  · obtain ⟨_, _, cs', hx⟩ := own_lo h.own k hl; rw [hc] at hx; simp at hx
theorem NetAt.mem {w : World} {B gw : Nat} {nv : Value} {ls : List Way} (h : NetAt w B gw nv ls) {i : Nat} {l : Way} (hl : ls[i]? = some l) : WayAt w B l := h.ways l (List.mem_of_getElem? hl)
/-- One way has turned. -/
theorem NetAt.turn {w w' : World} {B gw : Nat} {nv : Value} {ls : List Way} (h : NetAt w B gw nv ls) {i : Nat} {l l' : Way} (hl : ls[i]? = some l) (hb : Buts l.blocks w w') (h' : WayAt w' B l') (hg : l'.gl = l.gl) (hc : l'.c = l.c) (hbv : l'.bv.ownBlock = l.bv.ownBlock ∨ ∀ k ∈ l'.bv.ownBlock.toList, w.heap.size ≤ k) : NetAt w' B gw nv (ls.set i l') := by
  have hlt : i < ls.length := (List.getElem?_eq_some_iff.1 hl).1
  have hw := h.mem hl
  have hnew : ∀ k ∈ l'.blocks, k ∈ l.blocks ∨ w.heap.size ≤ k := by
    intro k hk
    simp only [Way.blocks, List.mem_cons] at hk ⊢
    rw [hg, hc] at hk
    rcases hk with hk | hk | hk
    · exact .inl (.inl hk)
    · exact .inl (.inr (.inl hk))
    · rcases hbv with e | e
      · exact .inl (.inr (.inr (by rw [← e]; exact hk)))
      · exact .inr (e k hk)
  refine ⟨h.row.buts hb (hw.not_row h.row (by decide) (by decide)), h.lo, ?_, ?_, ?_⟩
  · have e : (ls.set i l').map (fun l => ptr l.gl) = ls.map fun l => ptr l.gl := by
      apply List.ext_getElem?
      intro j
      rw [List.getElem?_map, List.getElem?_map, List.getElem?_set]
      by_cases hij : i = j
      · subst hij; rw [if_pos rfl, if_pos hlt, hl]; simp [hg]
      · rw [if_neg hij]
    rw [e, List.length_set]
    exact own_buts h.own hb (hw.not_own h.own)
  · intro m hm
    obtain ⟨j, hj⟩ := List.getElem?_of_mem hm
    rw [List.getElem?_set] at hj
    by_cases hij : i = j
    · subst hij; rw [if_pos rfl, if_pos hlt] at hj; injection hj with hj; subst hj; exact h'
    · rw [if_neg hij] at hj
      exact (h.mem hj).buts hb (fun k hk hk2 => h.apart j i m l hj hl (fun e => hij e.symm) k hk hk2) hw.notBy
  · intro a b x y hx hy hab k hk hk2
    rw [List.getElem?_set] at hx hy
    by_cases hia : i = a
    · subst hia
      rw [if_pos rfl, if_pos hlt] at hx
      injection hx with hx
      subst hx
      rw [if_neg hab] at hy
      rcases hnew k hk with hk' | hk'
      · exact h.apart i b l y hl hy hab k hk' hk2
      · have := ((h.mem hy).lo k hk2).2; omega
    · rw [if_neg hia] at hx
      by_cases hib : i = b
      · subst hib
        rw [if_pos rfl, if_pos hlt] at hy
        injection hy with hy
        subst hy
        rcases hnew k hk2 with hk' | hk'
        · exact h.apart a i x l hx hl hab k hk hk'
        · have := ((h.mem hx).lo k hk).2; omega
      · rw [if_neg hib] at hy
        exact h.apart a b x y hx hy hab k hk hk2
theorem NetAt.later {w w' : World} {B gw : Nat} {nv : Value} {ls : List Way} (h : NetAt w B gw nv ls) (hb : Below w.heap.size w w') : NetAt w' B gw nv ls :=
  ⟨h.row.later hb, h.lo, own_buts h.own (Buts.of hb []) (fun k hk => by simp), fun l hl => (h.ways l hl).later hb, h.apart⟩
end Go.Proofs.Ytlihoijbfffjcaa

/-
  The document's sets: Put, Same: contracts. Own work.
-/
import Derived.Test.YtfklfgaomcbchaaZsetT
namespace Go.Proofs.Ytfklfgaomcbchaa
open Go.RowKit Go.Shelf
set_option linter.unusedVariables false
set_option linter.unusedSimpArgs false
/-- 'x[I:]' of a slice, elements of any size. -/
theorem run_sliceFromN {P : Program} (w : World) (T e z : Nat) (hu : P.underlying T = some (.slice e)) (hs : ∀ w, (sizeOf e).run P w = .ok z w) (A : Option Addr) (len cap : Nat) (kl : IntKind) (I : Nat) (h1 : I ≤ len) :
    (Instr.sliceAt T (.slice A len cap) (some (.int kl I)) none none).run P w = .ok (.slice (if cap = I then A else A.map (·.add (I * z))) (len - I) (cap - I)) w := by
  have h3 : (0 : Int) ≤ I := by omega
  simp [Instr.sliceAt, Instr.slice, underlying, hu, Instr.sliceBounds, Instr.sliceBound, asIntOf, h1, h3, hs]
theorem run_loadCs {P : Program} {w : World} {a : Act} {o : Oper} (ty : TypeId) (x : Operand) (g off : Nat) (M : List Value) (d : TypeDesc) (ho : o.op = .load ty x) (hx : a.eval x = .pointer (some ⟨g, off, none⟩)) (h : ∀ j v, M[j]? = some v → w.cell? ⟨g, off + j, none⟩ = some v)
    (hu : P.underlying ty = some d) (hd : (match d with | .struct _ | .array _ _ => true | _ => false) = true) (hi : (P.info? ty).map (·.size) = some M.length) : (execOp a.eval o).run P w = .ok (.value (.agg M.toArray)) w := by
  unfold execOp
  simp only [ho, hx, Instr.loadAt, Instr.sureAddr, Sem.run_bind, Sem.run_pure, Result.andThen_ok, run_loadVar_cells ty g off M d h hu hd hi]
def SSm6 (ga gb i c c2 : Nat) (l l2 : List Sc) (a b : Sc) (rr : Bool) (opn : Nat) (v : Value) : Prop :=
  match opn with
  | 0 => v = .slice (some ⟨ga, 0, none⟩) l.length c
  | 1 | 5 => v = .int .i64 (i : Int)
  | 2 => v = .pointer (some ⟨ga, 0 + i * 2, none⟩)
  | 3 => v = .agg a.cells.toArray
  | 4 => v = .slice (some ⟨gb, 0, none⟩) l2.length c2
  | 6 => v = .pointer (some ⟨gb, 0 + i * 2, none⟩)
  | 7 => v = .agg b.cells.toArray
  | 8 => v = .bool rr
  | _ => True

set_option maxRecDepth 100000 in
set_option maxHeartbeats 1000000 in
/-- Same. -/
theorem rsame_any (w : World) (v v2 : Value) (l l2 : List Sc) (h : ScV w v l) (h2 : ScV w v2 l2) (hl : l.length ≤ 1000001) (hl2 : l2.length ≤ 1000001) : Calls Try.prog 12 #[v, v2] w fun e w' => e = .returned (.bool (decide (l = l2))) ∧ Below w.heap.size w w' := by
  obtain ⟨A, c, rfl⟩ := h.sl
  obtain ⟨A2, c2, rfl⟩ := h2.sl
  have hlI : (l.length : Int) ≤ 1000001 := by omega
  by_cases hne : l.length = l2.length
  · have hne1 : (l.length : Int) = (l2.length : Int) := by omega
    have hne2 : decide ((l.length : Int) = (l2.length : Int)) = true := decide_eq_true hne1
    have hne3 : ((l.length : Int) == (l2.length : Int)) = true := by simp [hne1]
    have hne4 : decide (l.length = l2.length) = true := decide_eq_true hne
    replace hne := hide hne
    clear hne1
    go_enter Try.func12, Try.ntmps12
    go_wp2_with fail
    clear hne2 hne3 hne4
    go_loopw [5] (fun iv wr => ∃ i : Nat, i ≤ l.length ∧ iv = .int .i64 (i : Int) ∧ l.take i = l2.take i ∧ Below w.heap.size w wr) (fun iv _ => l.length - (intOf iv).toNat)
    case atStart => exact ⟨0, by omega, rfl, rfl, Below.refl _ _⟩
    case round =>
      obtain ⟨i, hi, rfl, hsame, BW⟩ := hrel
      have hwb := BW.size
      by_cases hlt : i < l.length
      · have hltI : (i : Int) < (l.length : Int) := by omega
        have hlt2 : i < l2.length := by rw [← hne.out]; exact hlt
        obtain ⟨a, ha⟩ : ∃ a, l[i]? = some a := ⟨_, List.getElem?_eq_getElem hlt⟩
        obtain ⟨b, hb⟩ : ∃ b, l2[i]? = some b := ⟨_, List.getElem?_eq_getElem hlt2⟩
        obtain ⟨ga, ca, e, hga, x1, x2, x3⟩ := h.at ha
        injection e with q1 q2 q3
        subst q1
        subst q3
        clear q2
        obtain ⟨gb, cb, e, hgb, x4, x5, x6⟩ := h2.at hb
        injection e with q1 q2 q3
        subst q1
        subst q3
        clear q2
        clear x1 x2 x3 x4 x5 x6
        have hac : ∀ w1, Below wr.heap.size wr w1 → ∀ j u, a.cells[j]? = some u → w1.cell? ⟨ga, (0 + i * 2) + j, none⟩ = some u := by
          intro w1 hb1 j u hj
          obtain ⟨g, cc, e, _, _, _, hc⟩ := (h.later (BW.trans (hb1.mono hwb))).at ha
          injection e with q1 q2 q3
          injection q1 with q1
          injection q1 with q1
          subst q1
          rw [Nat.zero_add]; exact hc j u hj
        have hbc : ∀ w1, Below wr.heap.size wr w1 → ∀ j u, b.cells[j]? = some u → w1.cell? ⟨gb, (0 + i * 2) + j, none⟩ = some u := by
          intro w1 hb1 j u hj
          obtain ⟨g, cc, e, _, _, _, hc⟩ := (h2.later (BW.trans (hb1.mono hwb))).at hb
          injection e with q1 q2 q3
          injection q1 with q1
          injection q1 with q1
          subst q1
          rw [Nat.zero_add]; exact hc j u hj
        obtain ⟨rr, hrr⟩ : ∃ rr, rr = !decide (a = b) := ⟨_, rfl⟩
        have heq : ∀ w, (Op.equalIn 10000 35 (.agg a.cells.toArray) (.agg b.cells.toArray)).run Try.prog w = .ok (!rr) w := by
          intro w; rw [hrr, Bool.not_not]; exact eqScore a b w
        replace hlt := hide hlt
        replace hlt2 := hide hlt2
        replace ha := hide ha
        replace hb := hide hb
        replace hsame := hide hsame
        replace hrr := hide hrr
        go_wp2_with fail
        rename_i K6 hK6
        refine wp_region_vals [] (SSm6 ga gb i c c2 l l2 a b rr) (fun _ _ wz => Below wr.heap.size wr wz) (by kernel_rfl) (by kernel_rfl) (by kernel_rfl) (by kernel_rfl) (by kernel_rfl) ((Below.refl _ _).drew) ?obs6 ?he6
        case obs6 =>
          refine ⟨?_, ?_, ?_, ?_, ?_, ?_, ?_, ?_, ?_, trivial⟩
          · exact .inl ⟨by kernel_rfl, fun L a1 w1 n h => ⟨_, rfl, run_move (.tmp 0) rfl (h.var n 0 (by kernel_rfl))⟩⟩
          · exact .inl ⟨by kernel_rfl, fun L a1 w1 n h => ⟨_, rfl, run_move (.tmp 5) rfl (h.var n 5 (by kernel_rfl))⟩⟩
          · exact .inl ⟨by kernel_rfl, fun L a1 w1 n h => ⟨_, rfl, run_indexSlN 26 (.tmp 17) (.tmp 18) 35 2 ga 0 l.length c i rfl Try.underlying26 Try.sizeOf35 (h.dep n 0 17 (by kernel_rfl) rfl) (h.dep n 1 18 (by kernel_rfl) rfl) hlt.out⟩⟩
          · exact .inl ⟨by kernel_rfl, fun L a1 w1 n h => ⟨_, rfl, run_loadCs 35 (.tmp 19) ga (0 + i * 2) a.cells _ rfl (h.dep n 2 19 (by kernel_rfl) rfl) (hac w1 h.inv) Try.underlying35 rfl (szSc a)⟩⟩
          · exact .inl ⟨by kernel_rfl, fun L a1 w1 n h => ⟨_, rfl, run_move (.tmp 1) rfl (h.var n 1 (by kernel_rfl))⟩⟩
          · exact .inl ⟨by kernel_rfl, fun L a1 w1 n h => ⟨_, rfl, run_move (.tmp 5) rfl (h.var n 5 (by kernel_rfl))⟩⟩
          · exact .inl ⟨by kernel_rfl, fun L a1 w1 n h => ⟨_, rfl, run_indexSlN 26 (.tmp 21) (.tmp 22) 35 2 gb 0 l2.length c2 i rfl Try.underlying26 Try.sizeOf35 (h.dep n 4 21 (by kernel_rfl) rfl) (h.dep n 5 22 (by kernel_rfl) rfl) hlt2.out⟩⟩
          · exact .inl ⟨by kernel_rfl, fun L a1 w1 n h => ⟨_, rfl, run_loadCs 35 (.tmp 23) gb (0 + i * 2) b.cells _ rfl (h.dep n 6 23 (by kernel_rfl) rfl) (hbc w1 h.inv) Try.underlying35 rfl (szSc b)⟩⟩
          · exact .inl ⟨by kernel_rfl, fun L a1 w1 n h => ⟨_, rfl, run_neqS (.tmp 20) (.tmp 24) rfl heq (h.dep n 3 20 (by kernel_rfl) rfl) (h.dep n 7 24 (by kernel_rfl) rfl) (by kernel_rfl)⟩⟩
        case he6 =>
          intro V w11 hV hJ
          have b11 : Below wr.heap.size wr w11 := hJ
          have hE : V 8 = .bool rr := hV 8 _ rfl
          clear hV hJ
          simp only [putOps, List.setIfInBounds_toArray, List.set_cons_succ, List.set_cons_zero, Nat.reduceAdd]
          rw [hE]
          refine hK6 _ _ ?_
          have B11 := BW.trans (b11.mono hwb)
          cases rr with
          | true =>
            go_wp2_with fail
            go_ret
            have hab : a ≠ b := by have := hrr.out; simpa using this.symm
            have : ¬ l = l2 := fun e => by
              have h1 := ha.out; rw [e, hb.out] at h1
              exact hab (Option.some.inj h1).symm
            exact ⟨by rw [decide_eq_false this]; rfl, B11⟩
          | false =>
            go_wp2_with fail
            go_roundw
            case rel =>
              have hab : a = b := by have := hrr.out; simpa using this.symm
              exact ⟨i + 1, by have := hlt.out; omega, by go_num, by rw [take_more ha.out, take_more hb.out, hsame.out, hab], B11⟩
            case measure => have := hlt.out; simp [intOf]; omega
      · obtain rfl : i = l.length := by omega
        go_wp2_with fail
        go_ret
        have : l = l2 := by
          rw [List.take_of_length_le (Nat.le_refl _), List.take_of_length_le (by rw [hne.out]; exact Nat.le_refl _)] at hsame
          exact hsame
        exact ⟨by rw [decide_eq_true this]; rfl, BW⟩
  · have hne1 : ¬ (l.length : Int) = (l2.length : Int) := by omega
    have hne2 : decide ((l.length : Int) = (l2.length : Int)) = false := decide_eq_false hne1
    have hne3 : ((l.length : Int) == (l2.length : Int)) = false := by simpa using hne1
    have hne4 : decide (l.length = l2.length) = false := decide_eq_false hne
    have hno : ¬ l = l2 := fun e => hne (by rw [e])
    rw [decide_eq_false hno]
    clear hno hne
    go_enter Try.func12, Try.ntmps12
    go_wp2_with fail
    go_ret
    exact ⟨rfl, Below.refl _ _⟩
end Go.Proofs.Ytfklfgaomcbchaa

/-
  The document's sets: Drop, Between: contracts. Own work.
-/
import Derived.Test.YtfklfgaomcbchaaZsetR
namespace Go.Proofs.Ytfklfgaomcbchaa
open Go.RowKit Go.Shelf
set_option linter.unusedVariables false
set_option linter.unusedSimpArgs false
theorem filter_more {p : Sc → Bool} {l : List Sc} {i : Nat} {a : Sc} (h : l[i]? = some a) : (l.take (i + 1)).filter p = (l.take i).filter p ++ (if p a = true then [a] else []) := by
  rw [take_more h, List.filter_append, List.filter_cons]
  by_cases hp : p a = true
  · rw [if_pos hp, if_pos hp]; rfl
  · rw [if_neg hp, if_neg hp]; rfl
theorem wg_run {P : Program} {ops : Array Oper} {rest : List Oper} {o : Oper} {a : Act} {w : World} {Q : Exit → Act → World → Prop} (g' : Nat) (b : Bool) (d' : Nat) (hg : o.guard = some (g', b)) (hd' : (ops[g']?).bind (·.dst) = some d') (hv : a.tmps[d']? = some (.bool b)) (v : Value) (hr : (execOp a.eval o).run P w = .ok (.value v) w) (hk : wpList P ops Q rest (a.put o.dst v) w) : wpList P ops Q (o :: rest) a w :=
  wpList_guarded g' b d' hg hd' hv fun K hK => by
    unfold Oper.wp
    rw [hr]
    exact hK _ _ hk
set_option maxRecDepth 100000 in
set_option maxHeartbeats 1000000 in
theorem rdrop_any (w : World) (v : Value) (l : List Sc) (m : Nm) (h : ScV w v l) (hl : l.length ≤ 1000000) : Calls Try.prog 28 #[v, encStr m] w fun e w' => ∃ v', e = .returned v' ∧ OwnS w' w.heap.size v' (l.filter (fun a => !(a.m == m))) ∧ Below w.heap.size w w' := by
  obtain ⟨A, c, rfl⟩ := h.sl
  obtain ⟨ip, hip, hiz, his, hib⟩ := score_info
  have hlI : (l.length : Int) ≤ 1000000 := by omega
  go_enter Try.func28, Try.ntmps28
  go_wp2_with fail
  go_loopw [5, 6] (fun ov iv wr => ∃ i : Nat, i ≤ l.length ∧ iv = .int .i64 (i : Int) ∧ OwnS wr w.heap.size ov ((l.take i).filter (fun a => !(a.m == m))) ∧ Below w.heap.size w wr) (fun _ iv _ => l.length - (intOf iv).toNat)
  case atStart => exact ⟨0, by omega, rfl, World.ownsRow_nil _ _ _ _, Below.refl _ _⟩
  case round =>
    obtain ⟨i, hi, rfl, own, BW⟩ := hrel
    have hwb := BW.size
    by_cases hlt : i < l.length
    · have hltI : (i : Int) < (l.length : Int) := by omega
      obtain ⟨a, ha⟩ : ∃ a, l[i]? = some a := ⟨_, List.getElem?_eq_getElem hlt⟩
      obtain ⟨g, cap, e, hg, c0, c1, hcs⟩ := (h.later BW).at ha
      injection e with q1 q2 q3
      subst q1
      subst q3
      obtain ⟨am, as'⟩ := a
      have hf := filter_more (p := (fun a => !(a.m == m))) ha
      replace ha := hide ha
      have hlen : ((l.take i).filter (fun a => !(a.m == m))).length ≤ i := Nat.le_trans (List.length_filter_le _ _) (by rw [List.length_take]; omega)
      have hm1 : ((l.take i).filter (fun a => !(a.m == m))).length + 1 ≤ maxLen := by simp only [maxLen]; omega
      have hm2 : (((l.take i).filter (fun a => !(a.m == m))).length + 1) * 24 ≤ 140737488355328 := by omega
      generalize u5 = ov at *
      have h02 : 0 < 2 := by decide
      by_cases he : am = m
      · rw [if_neg (by simp [he])] at hf
        have hb : (!decide (am = m)) = false := by simp [he]
        replace he := hide he
        replace hf := hide hf
        go_wp2_with (first
          | (with_reducible refine wl_run (o := ⟨some 15, _, _, _, _, _⟩) rfl (.pointer (some ⟨g, 0 + i * 2, none⟩)) (run_indexSlN 26 (.tmp 13) (.tmp 14) 35 2 g 0 l.length c i rfl Try.underlying26 Try.sizeOf35 rfl rfl hlt) ?_)
          | (with_reducible refine wl_run (o := ⟨some 19, _, _, _, _, _⟩) rfl (.bool false) (run_neStr (.tmp 17) (.tmp 18) rfl rfl rfl hb) ?_))
        go_roundw
        case rel => exact ⟨i + 1, by omega, by go_num, by rw [hf.out, List.append_nil]; exact own, BW⟩
        case measure => simp [intOf]; omega
      · rw [if_pos (by simp [he])] at hf
        have hb : (!decide (am = m)) = true := by simp [he]
        replace he := hide he
        replace hf := hide hf
        go_wp2_with (first
          | (with_reducible refine wl_run (o := ⟨some 15, _, _, _, _, _⟩) rfl (.pointer (some ⟨g, 0 + i * 2, none⟩)) (run_indexSlN 26 (.tmp 13) (.tmp 14) 35 2 g 0 l.length c i rfl Try.underlying26 Try.sizeOf35 rfl rfl hlt) ?_)
          | (with_reducible refine wl_run (o := ⟨some 19, _, _, _, _, _⟩) rfl (.bool true) (run_neStr (.tmp 17) (.tmp 18) rfl rfl rfl hb) ?_)
          | (with_reducible refine wl_run (o := ⟨some 23, _, _, _, _, _⟩) rfl (.pointer (some ⟨g, 0 + i * 2, none⟩)) (run_indexSlN 26 (.tmp 21) (.tmp 22) 35 2 g 0 l.length c i rfl Try.underlying26 Try.sizeOf35 rfl rfl hlt) ?_)
          | (with_reducible refine wl_load_cells (o := ⟨some 24, _, _, _, _, _⟩) rfl 35 (.tmp 23) g (i * 2) [encStr am, .int .i64 as'] _ rfl rfl hcs Try.underlying35 rfl (szSc ⟨am, as'⟩) ?_)
          | ((with_reducible refine wl_build1B (o := ⟨some 25, _, _, _, _, _⟩) rfl 26 (.tmp 24) rfl 35 ip _ [encStr am, .int .i64 as'] 2 Try.underlying26 hip hiz rfl his rfl h02 (by decide) rfl ?_); intro g6 w6 r6 p6 l6 b6; have own6 := own_later own b6; have hwb6 := Nat.le_trans hwb b6.size)
          | ((at_builtin; with_reducible refine wl_append_at (o := ⟨some 26, _, _, _, _, _⟩) rfl (.tmp 20) (.tmp 25) 26 rfl w.heap.size 35 ip _ 2 24 Try.underlying26 hip hiz his hib rfl h02 ov _ _ rfl own6 ⟨g6, 0, none⟩ 1 1 [encStr am, .int .i64 as'] rfl rfl (row_src r6) (by simp [Value.oneCell']) hm1 hm2 hwb6 ?_); intro v7 w7 own7 gr7 at7; have B7 : Below w.heap.size w w7 := (BW.trans (b6.mono hwb)).grown gr7 hwb6 (fun k hk => (own6.lt k hk).1)))
        go_roundw
        case rel =>
          refine ⟨i + 1, by omega, by go_num, ?_, B7⟩
          rw [hf.out, OwnS, scsC_app, List.length_append]
          exact own7
        case measure => simp [intOf]; omega
    · obtain rfl : i = l.length := by omega
      go_wp2_with fail
      go_ret
      rw [List.take_of_length_le (Nat.le_refl _)] at own
      exact ⟨_, rfl, own, BW⟩

set_option maxRecDepth 100000 in
set_option maxHeartbeats 1000000 in
theorem rbetween_any (w : World) (v : Value) (l : List Sc) (x y : Int) (h : ScV w v l) (hl : l.length ≤ 1000000) : Calls Try.prog 20 #[v, .int .i64 x, .int .i64 y] w fun e w' => ∃ v', e = .returned v' ∧ OwnS w' w.heap.size v' (l.filter (fun a => !decide (a.s < x) && decide (a.s ≤ y))) ∧ Below w.heap.size w w' := by
  obtain ⟨A, c, rfl⟩ := h.sl
  obtain ⟨ip, hip, hiz, his, hib⟩ := score_info
  have hlI : (l.length : Int) ≤ 1000000 := by omega
  go_enter Try.func20, Try.ntmps20
  go_wp2_with fail
  go_loopw [7, 8] (fun ov iv wr => ∃ i : Nat, i ≤ l.length ∧ iv = .int .i64 (i : Int) ∧ OwnS wr w.heap.size ov ((l.take i).filter (fun a => !decide (a.s < x) && decide (a.s ≤ y))) ∧ Below w.heap.size w wr) (fun _ iv _ => l.length - (intOf iv).toNat)
  case atStart => exact ⟨0, by omega, rfl, World.ownsRow_nil _ _ _ _, Below.refl _ _⟩
  case round =>
    obtain ⟨i, hi, rfl, own, BW⟩ := hrel
    have hwb := BW.size
    by_cases hlt : i < l.length
    · have hltI : (i : Int) < (l.length : Int) := by omega
      obtain ⟨a, ha⟩ : ∃ a, l[i]? = some a := ⟨_, List.getElem?_eq_getElem hlt⟩
      obtain ⟨g, cap, e, hg, c0, c1, hcs⟩ := (h.later BW).at ha
      injection e with q1 q2 q3
      subst q1
      subst q3
      obtain ⟨am, as'⟩ := a
      have hf := filter_more (p := (fun a => !decide (a.s < x) && decide (a.s ≤ y))) ha
      replace ha := hide ha
      have hlen : ((l.take i).filter (fun a => !decide (a.s < x) && decide (a.s ≤ y))).length ≤ i := Nat.le_trans (List.length_filter_le _ _) (by rw [List.length_take]; omega)
      have hm1 : ((l.take i).filter (fun a => !decide (a.s < x) && decide (a.s ≤ y))).length + 1 ≤ maxLen := by simp only [maxLen]; omega
      have hm2 : (((l.take i).filter (fun a => !decide (a.s < x) && decide (a.s ≤ y))).length + 1) * 24 ≤ 140737488355328 := by omega
      generalize u7 = ov at *
      have h02 : 0 < 2 := by decide
      by_cases h1 : as' < x
      · rw [if_neg (by simp [h1])] at hf
        have h1b : ¬ x ≤ as' := by omega
        replace hf := hide hf
        go_wp2_with (first
          | (with_reducible refine wl_run (o := ⟨some 17, _, _, _, _, _⟩) rfl (.pointer (some ⟨g, 0 + i * 2, none⟩)) (run_indexSlN 26 (.tmp 15) (.tmp 16) 35 2 g 0 l.length c i rfl Try.underlying26 Try.sizeOf35 rfl rfl hlt) ?_))
        go_roundw
        case rel => exact ⟨i + 1, by omega, by go_num, by rw [hf.out, List.append_nil]; exact own, BW⟩
        case measure => simp [intOf]; omega
      · have h1b : x ≤ as' := by omega
        by_cases h2 : as' ≤ y
        · rw [if_pos (by simp [h1, h2])] at hf
          replace hf := hide hf
          go_wp2_with (first
          | (with_reducible refine wl_run (o := ⟨some 17, _, _, _, _, _⟩) rfl (.pointer (some ⟨g, 0 + i * 2, none⟩)) (run_indexSlN 26 (.tmp 15) (.tmp 16) 35 2 g 0 l.length c i rfl Try.underlying26 Try.sizeOf35 rfl rfl hlt) ?_)
          | (with_reducible refine wg_run (o := ⟨some 25, _, _, _, _, _⟩) 7 true 22 rfl rfl rfl (.pointer (some ⟨g, 0 + i * 2, none⟩)) (run_indexSlN 26 (.tmp 23) (.tmp 24) 35 2 g 0 l.length c i rfl Try.underlying26 Try.sizeOf35 rfl rfl hlt) ?_)
          | (with_reducible refine wl_run (o := ⟨some 34, _, _, _, _, _⟩) rfl (.pointer (some ⟨g, 0 + i * 2, none⟩)) (run_indexSlN 26 (.tmp 32) (.tmp 33) 35 2 g 0 l.length c i rfl Try.underlying26 Try.sizeOf35 rfl rfl hlt) ?_)
          | (with_reducible refine wl_load_cells (o := ⟨some 35, _, _, _, _, _⟩) rfl 35 (.tmp 34) g (i * 2) [encStr am, .int .i64 as'] _ rfl rfl hcs Try.underlying35 rfl (szSc ⟨am, as'⟩) ?_)
          | ((with_reducible refine wl_build1B (o := ⟨some 36, _, _, _, _, _⟩) rfl 26 (.tmp 35) rfl 35 ip _ [encStr am, .int .i64 as'] 2 Try.underlying26 hip hiz rfl his rfl h02 (by decide) rfl ?_); intro g6 w6 r6 p6 l6 b6; have own6 := own_later own b6; have hwb6 := Nat.le_trans hwb b6.size)
          | ((at_builtin; with_reducible refine wl_append_at (o := ⟨some 37, _, _, _, _, _⟩) rfl (.tmp 31) (.tmp 36) 26 rfl w.heap.size 35 ip _ 2 24 Try.underlying26 hip hiz his hib rfl h02 ov _ _ rfl own6 ⟨g6, 0, none⟩ 1 1 [encStr am, .int .i64 as'] rfl rfl (row_src r6) (by simp [Value.oneCell']) hm1 hm2 hwb6 ?_); intro v7 w7 own7 gr7 at7; have B7 : Below w.heap.size w w7 := (BW.trans (b6.mono hwb)).grown gr7 hwb6 (fun k hk => (own6.lt k hk).1)))
          go_roundw
          case rel =>
            refine ⟨i + 1, by omega, by go_num, ?_, B7⟩
            rw [hf.out, OwnS, scsC_app, List.length_append]
            exact own7
          case measure => simp [intOf]; omega
        · rw [if_neg (by simp [h1, h2])] at hf
          replace hf := hide hf
          go_wp2_with (first
          | (with_reducible refine wl_run (o := ⟨some 17, _, _, _, _, _⟩) rfl (.pointer (some ⟨g, 0 + i * 2, none⟩)) (run_indexSlN 26 (.tmp 15) (.tmp 16) 35 2 g 0 l.length c i rfl Try.underlying26 Try.sizeOf35 rfl rfl hlt) ?_)
          | (with_reducible refine wg_run (o := ⟨some 25, _, _, _, _, _⟩) 7 true 22 rfl rfl rfl (.pointer (some ⟨g, 0 + i * 2, none⟩)) (run_indexSlN 26 (.tmp 23) (.tmp 24) 35 2 g 0 l.length c i rfl Try.underlying26 Try.sizeOf35 rfl rfl hlt) ?_))
          go_roundw
          case rel => exact ⟨i + 1, by omega, by go_num, by rw [hf.out, List.append_nil]; exact own, BW⟩
          case measure => simp [intOf]; omega
    · obtain rfl : i = l.length := by omega
      go_wp2_with fail
      go_ret
      rw [List.take_of_length_le (Nat.le_refl _)] at own
      exact ⟨_, rfl, own, BW⟩

end Go.Proofs.Ytfklfgaomcbchaa

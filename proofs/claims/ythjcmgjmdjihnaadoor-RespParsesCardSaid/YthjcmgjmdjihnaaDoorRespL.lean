/-
  Words and commands in memory; are they the same; a command's bytes. Contracts. Own work.
-/
import Derived.Test.YthjcmgjmdjihnaaDoorRespK
namespace Go.Proofs.YthjcmgjmdjihnaaDoor
open Go.RowKit Go.Shelf
set_option linter.unusedVariables false
set_option linter.unusedSimpArgs false
/-- Words in memory. -/
def StV (w : World) (v : Value) (l : List Wd) : Prop := ∃ A c, v = .slice A l.length c ∧ (0 < l.length → ∃ g off, A = some ⟨g, off, none⟩ ∧ g < w.heap.size ∧ ∀ (i : Nat) (a : Wd), l[i]? = some a → w.cell? ⟨g, off + i, none⟩ = some (encStr a))
theorem StV.later {w w' : World} {v : Value} {l : List Wd} (h : StV w v l) (hb : Below w.heap.size w w') : StV w' v l := by
  obtain ⟨A, c, e, h⟩ := h
  refine ⟨A, c, e, fun h0 => ?_⟩
  obtain ⟨g, off, eA, hg, hc⟩ := h h0
  exact ⟨g, off, eA, Nat.lt_of_lt_of_le hg hb.size, fun i a hi => by rw [← hc i a hi]; exact World.cell?_of_block (hb.block g hg)⟩
theorem StV.at {w : World} {A : Option Addr} {n c : Nat} {l : List Wd} {i : Nat} {a : Wd} (h : StV w (.slice A n c) l) (hi : l[i]? = some a) : n = l.length ∧ ∃ g off, A = some ⟨g, off, none⟩ ∧ w.cell? ⟨g, off + i, none⟩ = some (encStr a) := by
  obtain ⟨A', c', e, h⟩ := h
  injection e with q1 q2 q3
  subst q1
  obtain ⟨g, off, eA, _, hc⟩ := h (by have := (List.getElem?_eq_some_iff.1 hi).1; omega)
  exact ⟨q2, g, off, eA, hc i a hi⟩
theorem own_stv {w : World} {T : Nat} {v : Value} {l : List Wd} (h : OwnW w T v l) : StV w v l := by
  rcases h.2 with ⟨rfl, h0⟩ | ⟨g, cap, cur, rfl, hT, hg, h1, h2, h3, h4⟩
  · exact ⟨none, 0, by rw [h0], fun h => by omega⟩
  · refine ⟨_, cap, rfl, fun _ => ⟨g, 0, rfl, (Array.getElem?_eq_some_iff.1 hg).1, fun i a hi => ?_⟩⟩
    have hil : i < l.length := (List.getElem?_eq_some_iff.1 hi).1
    have e2 : (cur.toList.take (l.length * 1))[i]? = some (encStr a) := by rw [h4, List.getElem?_map, hi]; rfl
    rw [List.getElem?_take, if_pos (by omega)] at e2
    rw [Nat.zero_add, cell_of_row w g _ cur _ (0, 0) hg, ← Array.getElem?_toList]
    exact e2
/-- Lists of words in memory. -/
def CmV (w : World) (v : Value) (L : List (List Wd)) : Prop := ∃ A c, v = .slice A L.length c ∧ (0 < L.length → ∃ g off, A = some ⟨g, off, none⟩ ∧ g < w.heap.size ∧ ∀ (i : Nat) (l : List Wd), L[i]? = some l → ∃ u, w.cell? ⟨g, off + i, none⟩ = some u ∧ StV w u l)
theorem CmV.later {w w' : World} {v : Value} {L : List (List Wd)} (h : CmV w v L) (hb : Below w.heap.size w w') : CmV w' v L := by
  obtain ⟨A, c, e, h⟩ := h
  refine ⟨A, c, e, fun h0 => ?_⟩
  obtain ⟨g, off, eA, hg, hc⟩ := h h0
  refine ⟨g, off, eA, Nat.lt_of_lt_of_le hg hb.size, fun i l hi => ?_⟩
  obtain ⟨u, hu, hs⟩ := hc i l hi
  exact ⟨u, by rw [← hu]; exact World.cell?_of_block (hb.block g hg), hs.later hb⟩
theorem CmV.at {w : World} {A : Option Addr} {n c : Nat} {L : List (List Wd)} {i : Nat} {l : List Wd} (h : CmV w (.slice A n c) L) (hi : L[i]? = some l) : n = L.length ∧ ∃ g off u, A = some ⟨g, off, none⟩ ∧ w.cell? ⟨g, off + i, none⟩ = some u ∧ StV w u l := by
  obtain ⟨A', c', e, h⟩ := h
  injection e with q1 q2 q3
  subst q1
  obtain ⟨g, off, eA, _, hc⟩ := h (by have := (List.getElem?_eq_some_iff.1 hi).1; omega)
  obtain ⟨u, hu, hs⟩ := hc i l hi
  exact ⟨q2, g, off, u, eA, hu, hs⟩
theorem OwC.cmv {w : World} {T : Nat} {v : Value} {L : List (List Wd)} (h : OwC w T v L) : CmV w v L := by
  obtain ⟨vs, h1, h2⟩ := h
  have hvl : vs.length = L.length := by have := h1.1; omega
  rcases id h1.2 with ⟨rfl, h0⟩ | ⟨g, cap, cur, rfl, hT, hg, _⟩
  · exact ⟨none, 0, by rw [h0], fun h => by omega⟩
  · refine ⟨_, cap, rfl, fun _ => ⟨g, 0, rfl, (Array.getElem?_eq_some_iff.1 hg).1, fun i l hi => ?_⟩⟩
    obtain ⟨u, hu⟩ : ∃ u, vs[i]? = some u := ⟨_, List.getElem?_eq_getElem (by have := (List.getElem?_eq_some_iff.1 hi).1; omega)⟩
    obtain ⟨g', cap', e, hc⟩ := own_cellB h1 hu
    injection e with e1
    injection e1 with e1
    injection e1 with e1
    subst e1
    exact ⟨u, by rw [Nat.zero_add]; exact hc, own_stv (h2 i u l hu hi)⟩
def SVm6 (ga gb oa ob i c c2 : Nat) (l : List Wd) (a : Wd) (opn : Nat) (v : Value) : Prop :=
  match opn with
  | 0 => v = .slice (some ⟨ga, oa, none⟩) l.length c
  | 1 | 5 => v = .int .i64 (i : Int)
  | 2 => v = .pointer (some ⟨ga, oa + i * 1, none⟩)
  | 3 | 7 => v = encStr a
  | 4 => v = .slice (some ⟨gb, ob, none⟩) l.length c2
  | 6 => v = .pointer (some ⟨gb, ob + i * 1, none⟩)
  | 8 => v = .bool false
  | _ => True

set_option maxRecDepth 100000 in
set_option maxHeartbeats 1000000 in
/-- Same. -/
theorem sameW_any (w : World) (v v2 : Value) (l : List Wd) (h : StV w v l) (h2 : StV w v2 l) (hl : l.length ≤ 1000) : Calls Tryd.prog 15 #[v, v2] w fun e w' => e = .returned (.bool true) ∧ Below w.heap.size w w' := by
  obtain ⟨A, c, rfl, x1⟩ := id h
  obtain ⟨A2, c2, rfl, x2⟩ := id h2
  clear x1 x2
  go_enter Tryd.func15, Tryd.ntmps15
  go_wp2_with fail
  go_loopw [5] (fun iv wr => ∃ i : Nat, i ≤ l.length ∧ iv = .int .i64 (i : Int) ∧ Below w.heap.size w wr) (fun iv _ => l.length - (intOf iv).toNat)
  case atStart => exact ⟨0, by omega, rfl, Below.refl _ _⟩
  case round =>
    obtain ⟨i, hi, rfl, BW⟩ := hrel
    have hwb := BW.size
    by_cases hlt : i < l.length
    · have hltI : (i : Int) < (l.length : Int) := by omega
      obtain ⟨a, ha⟩ : ∃ a, l[i]? = some a := ⟨_, List.getElem?_eq_getElem hlt⟩
      obtain ⟨x1, ga, oa, rfl, ca⟩ := (h.later BW).at ha
      obtain ⟨x2, gb, ob, rfl, cb⟩ := (h2.later BW).at ha
      have hac : ∀ w1, Below wr.heap.size wr w1 → w1.cell? ⟨ga, oa + i * 1, none⟩ = some (encStr a) := by
        intro w1 hb1
        rw [Nat.mul_one, ← ca]; exact World.cell?_of_block (hb1.block ga (block_lt_of_cell ca))
      have hbc : ∀ w1, Below wr.heap.size wr w1 → w1.cell? ⟨gb, ob + i * 1, none⟩ = some (encStr a) := by
        intro w1 hb1
        rw [Nat.mul_one, ← cb]; exact World.cell?_of_block (hb1.block gb (block_lt_of_cell cb))
      clear ca cb x1 x2
      replace hlt := hide hlt
      replace ha := hide ha
      replace h := hide h
      replace h2 := hide h2
      go_wp2_with fail
      rename_i K6 hK6
      refine wp_region_vals [] (SVm6 ga gb oa ob i c c2 l a) (fun _ _ wz => Below wr.heap.size wr wz) (by kernel_rfl) (by kernel_rfl) (by kernel_rfl) (by kernel_rfl) (by kernel_rfl) ((Below.refl _ _).drew) ?obs6 ?he6
      case obs6 =>
        refine ⟨?_, ?_, ?_, ?_, ?_, ?_, ?_, ?_, ?_, trivial⟩
        · exact .inl ⟨by kernel_rfl, fun L a1 w1 n h => ⟨_, rfl, run_move (.tmp 0) rfl (h.var n 0 (by kernel_rfl))⟩⟩
        · exact .inl ⟨by kernel_rfl, fun L a1 w1 n h => ⟨_, rfl, run_move (.tmp 5) rfl (h.var n 5 (by kernel_rfl))⟩⟩
        · exact .inl ⟨by kernel_rfl, fun L a1 w1 n h => ⟨_, rfl, run_idxO 40 (.tmp 17) (.tmp 18) 9 1 ga oa l.length c i rfl Tryd.underlying40 Tryd.sizeOf9 (h.dep n 0 17 (by kernel_rfl) rfl) (h.dep n 1 18 (by kernel_rfl) rfl) hlt.out⟩⟩
        · exact .inl ⟨by kernel_rfl, fun L a1 w1 n h => ⟨_, rfl, run_load1 9 (.tmp 19) ga (oa + i * 1) (encStr a) rfl Tryd.isAgg9 (h.dep n 2 19 (by kernel_rfl) rfl) (hac w1 h.inv)⟩⟩
        · exact .inl ⟨by kernel_rfl, fun L a1 w1 n h => ⟨_, rfl, run_move (.tmp 1) rfl (h.var n 1 (by kernel_rfl))⟩⟩
        · exact .inl ⟨by kernel_rfl, fun L a1 w1 n h => ⟨_, rfl, run_move (.tmp 5) rfl (h.var n 5 (by kernel_rfl))⟩⟩
        · exact .inl ⟨by kernel_rfl, fun L a1 w1 n h => ⟨_, rfl, run_idxO 40 (.tmp 21) (.tmp 22) 9 1 gb ob l.length c2 i rfl Tryd.underlying40 Tryd.sizeOf9 (h.dep n 4 21 (by kernel_rfl) rfl) (h.dep n 5 22 (by kernel_rfl) rfl) hlt.out⟩⟩
        · exact .inl ⟨by kernel_rfl, fun L a1 w1 n h => ⟨_, rfl, run_load1 9 (.tmp 23) gb (ob + i * 1) (encStr a) rfl Tryd.isAgg9 (h.dep n 6 23 (by kernel_rfl) rfl) (hbc w1 h.inv)⟩⟩
        · exact .inl ⟨by kernel_rfl, fun L a1 w1 n h => ⟨_, rfl, run_neStr (.tmp 20) (.tmp 24) rfl (h.dep n 3 20 (by kernel_rfl) rfl) (h.dep n 7 24 (by kernel_rfl) rfl) (by simp)⟩⟩
      case he6 =>
        intro V w11 hV hJ
        have b11 : Below wr.heap.size wr w11 := hJ
        have hE : V 8 = .bool false := hV 8 _ rfl
        clear hV hJ
        simp only [putOps, List.setIfInBounds_toArray, List.set_cons_succ, List.set_cons_zero, Nat.reduceAdd]
        rw [hE]
        refine hK6 _ _ ?_
        have B11 := BW.trans (b11.mono hwb)
        go_wp2_with fail
        go_roundw
        case rel =>
          exact ⟨i + 1, by have := hlt.out; omega, by go_num, B11⟩
        case measure => have := hlt.out; simp [intOf]; omega
    · obtain rfl : i = l.length := by omega
      go_wp2_with fail
      go_ret
      exact ⟨rfl, BW⟩
def SVc6 (ga gb oa ob i c c2 : Nat) (LL : List (List Wd)) (ua ub : Value) (opn : Nat) (v : Value) : Prop :=
  match opn with
  | 0 => v = .slice (some ⟨ga, oa, none⟩) LL.length c
  | 1 | 5 => v = .int .i64 (i : Int)
  | 2 => v = .pointer (some ⟨ga, oa + i * 1, none⟩)
  | 3 => v = ua
  | 4 => v = .slice (some ⟨gb, ob, none⟩) LL.length c2
  | 6 => v = .pointer (some ⟨gb, ob + i * 1, none⟩)
  | 7 => v = ub
  | 8 => v = .bool true
  | 9 => v = .bool false
  | _ => True

set_option maxRecDepth 100000 in
set_option maxHeartbeats 1000000 in
/-- SameCommands. -/
theorem sameC_any (w : World) (v v2 : Value) (LL : List (List Wd)) (h : CmV w v LL) (h2 : CmV w v2 LL) (hL : LL.length ≤ 100000) (hl2 : ∀ l ∈ LL, l.length ≤ 1000) : Calls Tryd.prog 11 #[v, v2] w fun e w' => e = .returned (.bool true) ∧ Below w.heap.size w w' := by
  obtain ⟨A, c, rfl, x1⟩ := id h
  obtain ⟨A2, c2, rfl, x2⟩ := id h2
  clear x1 x2
  go_enter Tryd.func11, Tryd.ntmps11
  go_wp2_with fail
  go_loopw [5] (fun iv wr => ∃ i : Nat, i ≤ LL.length ∧ iv = .int .i64 (i : Int) ∧ Below w.heap.size w wr) (fun iv _ => LL.length - (intOf iv).toNat)
  case atStart => exact ⟨0, by omega, rfl, Below.refl _ _⟩
  case round =>
    obtain ⟨i, hi, rfl, BW⟩ := hrel
    have hwb := BW.size
    by_cases hlt : i < LL.length
    · have hltI : (i : Int) < (LL.length : Int) := by omega
      obtain ⟨l, hl⟩ : ∃ a, LL[i]? = some a := ⟨_, List.getElem?_eq_getElem hlt⟩
      obtain ⟨x1, ga, oa, ua, rfl, ca, sa⟩ := (h.later BW).at hl
      obtain ⟨x2, gb, ob, ub, rfl, cb, sb⟩ := (h2.later BW).at hl
      have hac : ∀ w1, Below wr.heap.size wr w1 → w1.cell? ⟨ga, oa + i * 1, none⟩ = some ua := by
        intro w1 hb1
        rw [Nat.mul_one, ← ca]; exact World.cell?_of_block (hb1.block ga (block_lt_of_cell ca))
      have hbc : ∀ w1, Below wr.heap.size wr w1 → w1.cell? ⟨gb, ob + i * 1, none⟩ = some ub := by
        intro w1 hb1
        rw [Nat.mul_one, ← cb]; exact World.cell?_of_block (hb1.block gb (block_lt_of_cell cb))
      have HS := hide (fun (w1 : World) (hb1 : Below wr.heap.size wr w1) => sameW_any w1 ua ub l (sa.later hb1) (sb.later hb1) (hl2 l (List.mem_of_getElem? hl)))
      clear ca cb x1 x2 sa sb
      replace hlt := hide hlt
      replace hl := hide hl
      replace h := hide h
      replace h2 := hide h2
      go_wp2_with fail
      rename_i K6 hK6
      refine wp_region_vals [8] (SVc6 ga gb oa ob i c c2 LL ua ub) (fun _ _ wz => Below wr.heap.size wr wz) (by kernel_rfl) (by kernel_rfl) (by kernel_rfl) (by kernel_rfl) (by kernel_rfl) ((Below.refl _ _).drew) ?obs6 ?he6
      case obs6 =>
        refine ⟨?_, ?_, ?_, ?_, ?_, ?_, ?_, ?_, ?_, ?_, trivial⟩
        · exact .inl ⟨by kernel_rfl, fun L a1 w1 n' h => ⟨_, rfl, run_move (.tmp 0) rfl (h.var n' 0 (by kernel_rfl))⟩⟩
        · exact .inl ⟨by kernel_rfl, fun L a1 w1 n' h => ⟨_, rfl, run_move (.tmp 5) rfl (h.var n' 5 (by kernel_rfl))⟩⟩
        · exact .inl ⟨by kernel_rfl, fun L a1 w1 n' h => ⟨_, rfl, run_idxO 27 (.tmp 17) (.tmp 18) 40 1 ga oa LL.length c i rfl Tryd.underlying27 Tryd.sizeOf40 (h.dep n' 0 17 (by kernel_rfl) rfl) (h.dep n' 1 18 (by kernel_rfl) rfl) hlt.out⟩⟩
        · exact .inl ⟨by kernel_rfl, fun L a1 w1 n' h => ⟨_, rfl, run_load1 40 (.tmp 19) ga (oa + i * 1) ua rfl Tryd.isAgg40 (h.dep n' 2 19 (by kernel_rfl) rfl) (hac w1 h.inv)⟩⟩
        · exact .inl ⟨by kernel_rfl, fun L a1 w1 n' h => ⟨_, rfl, run_move (.tmp 1) rfl (h.var n' 1 (by kernel_rfl))⟩⟩
        · exact .inl ⟨by kernel_rfl, fun L a1 w1 n' h => ⟨_, rfl, run_move (.tmp 5) rfl (h.var n' 5 (by kernel_rfl))⟩⟩
        · exact .inl ⟨by kernel_rfl, fun L a1 w1 n' h => ⟨_, rfl, run_idxO 27 (.tmp 21) (.tmp 22) 40 1 gb ob LL.length c2 i rfl Tryd.underlying27 Tryd.sizeOf40 (h.dep n' 4 21 (by kernel_rfl) rfl) (h.dep n' 5 22 (by kernel_rfl) rfl) hlt.out⟩⟩
        · exact .inl ⟨by kernel_rfl, fun L a1 w1 n' h => ⟨_, rfl, run_load1 40 (.tmp 23) gb (ob + i * 1) ub rfl Tryd.isAgg40 (h.dep n' 6 23 (by kernel_rfl) rfl) (hbc w1 h.inv)⟩⟩
        · refine .inr fun L a1 w1 n' h K hK => ?_
          have e0 : a1.eval (.tmp 20) = ua := h.dep n' 3 20 (by kernel_rfl) rfl
          have e1 : a1.eval (.tmp 24) = ub := h.dep n' 7 24 (by kernel_rfl) rfl
          refine st_call 15 _ _ #[ua, ub] rfl Tryd.call15 ?_ (HS.out w1 h.inv) ?_
          · simp only [List.map_toArray, List.map_cons, List.map_nil, e0, e1]
          · rintro e w3 ⟨rfl, b9⟩
            exact ⟨_, rfl, hK _ w3 rfl (h.inv.trans (b9.mono h.inv.size))⟩
        · exact .inl ⟨by kernel_rfl, fun L a1 w1 n' h => ⟨_, rfl, run_notB (.tmp 25) true rfl (h.dep n' 8 25 (by kernel_rfl) rfl) rfl⟩⟩
      case he6 =>
        intro V w11 hV hJ
        have b11 : Below wr.heap.size wr w11 := hJ
        have hE : V 9 = .bool false := hV 9 _ rfl
        clear hV hJ
        simp only [putOps, List.setIfInBounds_toArray, List.set_cons_succ, List.set_cons_zero, Nat.reduceAdd]
        rw [hE]
        refine hK6 _ _ ?_
        have B11 := BW.trans (b11.mono hwb)
        go_wp2_with fail
        go_roundw
        case rel =>
          exact ⟨i + 1, by have := hlt.out; omega, by go_num, B11⟩
        case measure => have := hlt.out; simp [intOf]; omega
    · obtain rfl : i = LL.length := by omega
      go_wp2_with fail
      go_ret
      exact ⟨rfl, BW⟩
theorem textsB_snoc : ∀ (l : List Wd) (a : Wd), textsB (l ++ [a]) = textsB l ++ textB a
  | [], a => by simp [textsB]
  | b :: l, a => by simp only [List.cons_append, textsB, textsB_snoc l a, List.append_assoc]
theorem textsB_take_le (l : List Wd) (i : Nat) : (textsB (l.take i)).length ≤ (textsB l).length := by
  have h : ∀ (a b : List Wd), textsB (a ++ b) = textsB a ++ textsB b := by
    intro a
    induction a with
    | nil => intro b; rfl
    | cons x a ih => intro b; simp only [List.cons_append, textsB, ih, List.append_assoc]
  conv => rhs; rw [← List.take_append_drop i l, h, List.length_append]
  omega
theorem text_in {l : List Wd} {a : Wd} (h : a ∈ l) : a.length ≤ (textsB l).length := by
  induction l with
  | nil => cases h
  | cons b l ih =>
    simp only [textsB, List.length_append]
    rcases List.mem_cons.1 h with rfl | h
    · unfold textB; simp only [List.length_append]; omega
    · have := ih h; omega
set_option maxRecDepth 100000 in
set_option maxHeartbeats 1000000 in
theorem cmd_any (w : World) (v : Value) (ws : List Wd) (h : StV w v ws) (hlen : (cmdB ws).length + 50 ≤ 140737488355328) (hn : ws.length ≤ 100) (hT : TabV w) : Calls Tryd.prog 13 #[v] w (PutRes w w.heap.size (cmdB ws)) := by
  obtain ⟨A, c, rfl, x1⟩ := id h
  clear x1
  have hTb := TabB.of hT
  have HN := putNum_any w w.heap.size (.slice none 0 0) [] 42 ws.length (World.ownsRow_nil _ _ _ _) (Nat.le_refl _) (by decide) (by omega) hTb
  rw [List.nil_append] at HN
  have hcb : (cmdB ws).length = (lineB 42 ws.length).length + (textsB ws).length := by unfold cmdB; rw [List.length_append]
  have HT := hide (fun (w2 : World) (b2 : Below w.heap.size w w2) (v2 : Value) (l : Wd) (own : OwnB w2 w.heap.size v2 l) (t : Wd) (hl : l.length + t.length + 40 ≤ 140737488355328) => putText_any w2 w.heap.size v2 l t own b2.size hl (hTb.below b2))
  have hlen9 := hide hlen
  have hcb9 := hide hcb
  have hn9 := hide hn
  have hcm := hide (show cmdB ws = lineB 42 ws.length ++ textsB ws from rfl)
  obtain ⟨hd, hhd⟩ : ∃ d, d = lineB 42 ws.length := ⟨_, rfl⟩
  rw [← hhd] at HN hcb9 hcm
  have hnI : (ws.length : Int) ≤ 100 := by omega
  clear hlen hcb hT hTb hhd hn
  go_enter Tryd.func13, Tryd.ntmps13
  go_wp2_with fail
  refine HN.mono ?_
  rintro e w1 ⟨v1, rfl, own1, B1⟩
  clear HN
  go_wp2_with fail
  go_loopw [3, 5, 11] (fun ov xv iv wr => ∃ i : Nat, i ≤ ws.length ∧ iv = .int .i64 (i : Int) ∧ OwnB wr w.heap.size ov (hd ++ textsB (ws.take i)) ∧ Below w.heap.size w wr) (fun _ _ iv _ => 200 - (intOf iv).toNat)
  case atStart => exact ⟨0, by omega, rfl, by rw [List.take_zero]; simpa [textsB] using own1, B1⟩
  case round =>
    clear own1 B1
    obtain ⟨i, hi, rfl, own, BW⟩ := hrel
    by_cases hlt : i < ws.length
    · have hltI : (i : Int) < (ws.length : Int) := by omega
      obtain ⟨a, ha⟩ : ∃ a, ws[i]? = some a := ⟨_, List.getElem?_eq_getElem hlt⟩
      obtain ⟨x1, g, off, rfl, c0⟩ := (h.later BW).at ha
      have hst : ws.take (i + 1) = ws.take i ++ [a] := by
        rw [List.take_succ_eq_append_getElem hlt]
        rw [List.getElem?_eq_getElem hlt] at ha
        injection ha with ha
        rw [ha]
      have hl1 := textsB_take_le ws i
      have hl2 := text_in (List.mem_of_getElem? ha)
      have hl3 : (textsB (ws.take i)).length + a.length ≤ (textsB ws).length := by
        have := textsB_take_le ws (i + 1)
        rw [hst, textsB_snoc, List.length_append] at this
        unfold textB at this
        simp only [List.length_append] at this
        omega
      have HT2 := HT.out wr BW u3 _ own a (by rw [List.length_append]; have := hlen9.out; have := hcb9.out; have := hl3; omega)
      rw [List.append_assoc, ← textsB_snoc, ← hst] at HT2
      generalize u3 = ov at *
      have hi9 := hide hi
      have h9 := hide h
      clear ha hst hl1 hl2 hl3 x1 hi h own
      go_wp2_with (first
        | (with_reducible refine wl_run (o := ⟨some 13, _, _, _, _, _⟩) rfl (.pointer (some ⟨g, off + i * 1, none⟩)) (run_idxO 40 (.tmp 9) (.tmp 11) 9 1 g off ws.length c i rfl Tryd.underlying40 Tryd.sizeOf9 rfl rfl hlt) ?_))
      refine HT2.mono ?_
      rintro e w2 ⟨v2, rfl, own2, B2⟩
      have B3 := BW.trans B2
      clear HT2
      go_wp2_with fail
      go_roundw
      case rel => exact ⟨i + 1, by omega, by go_num, own2, B3⟩
      case measure => have := hn9.out; simp [intOf]; omega
    · obtain rfl : i = ws.length := by omega
      rw [List.take_length, ← hcm.out] at own
      go_wp2_with fail
      go_ret
      exact ⟨_, rfl, own, BW⟩
end Go.Proofs.YthjcmgjmdjihnaaDoor

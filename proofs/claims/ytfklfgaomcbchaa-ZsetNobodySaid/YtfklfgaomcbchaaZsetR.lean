/-
  The document's sets: Less, Find, Drop: contracts. Own work.
-/
import Derived.Test.YtfklfgaomcbchaaZsetQ
namespace Go.Proofs.Ytfklfgaomcbchaa
open Go.RowKit Go.Shelf
set_option linter.unusedVariables false
set_option linter.unusedSimpArgs false
theorem str_list (l : List UInt8) : (⟨l.toArray⟩ : ByteArray).toList = l := by rw [Lib.toList_data]
theorem str_inj {a b : List UInt8} (h : (⟨a.toArray⟩ : ByteArray) = ⟨b.toArray⟩) : a = b := by
  have := congrArg ByteArray.toList h
  rwa [str_list, str_list] at this
theorem run_eqStr {P : Program} {w : World} {a : Act} {o : Oper} {t s : Nat} {l m : List UInt8} {b : Bool} (x y : Operand) (ho : o.op = .binOp .eql t x y s) (hx : a.eval x = encStr l) (hy : a.eval y = encStr m) (hb : decide (l = m) = b) :
    (execOp a.eval o).run P w = .ok (.value (.bool b)) w := by
  subst hb
  unfold execOp
  simp only [ho, hx, hy, encStr]
  go_simp
  rw [Bool.eq_iff_iff]; simp
theorem run_neStr {P : Program} {w : World} {a : Act} {o : Oper} {t s : Nat} {l m : List UInt8} {b : Bool} (x y : Operand) (ho : o.op = .binOp .neq t x y s) (hx : a.eval x = encStr l) (hy : a.eval y = encStr m) (hb : (!decide (l = m)) = b) :
    (execOp a.eval o).run P w = .ok (.value (.bool b)) w := by
  subst hb
  unfold execOp
  simp only [ho, hx, hy, encStr]
  go_simp
  rw [Bool.eq_iff_iff]; simp

/-- A list of members in memory. -/
def ScV (w : World) (v : Value) (l : List Sc) : Prop := (l = [] ∧ ∃ A c, v = .slice A 0 c) ∨ ∃ g cap, v = .slice (some ⟨g, 0, none⟩) l.length cap ∧ g < w.heap.size ∧ l.length ≤ cap ∧ ∀ (i : Nat) (a : Sc), l[i]? = some a → ∀ (j : Nat) (u : Value), a.cells[j]? = some u → w.cell? ⟨g, i * 2 + j, none⟩ = some u
theorem ScV.later {w w' : World} {v : Value} {l : List Sc} (h : ScV w v l) (hb : Below w.heap.size w w') : ScV w' v l := by
  rcases h with h | ⟨g, cap, e, hg, hc, h⟩
  · exact .inl h
  · refine .inr ⟨g, cap, e, Nat.lt_of_lt_of_le hg hb.size, hc, fun i a hi j u hj => ?_⟩
    rw [← h i a hi j u hj]
    exact World.cell?_of_block (hb.block g hg)
theorem own_scv {w : World} {T : Nat} {v : Value} {l : List Sc} (h : OwnS w T v l) : ScV w v l := by
  rcases Nat.eq_zero_or_pos l.length with h0 | h0
  · left
    have hl : l = [] := List.eq_nil_of_length_eq_zero h0
    refine ⟨hl, ?_⟩
    rcases h.2 with ⟨e, _⟩ | ⟨g, cap, cur, e, _⟩
    · exact ⟨none, 0, e⟩
    · exact ⟨some ⟨g, 0, none⟩, cap, by rw [e, h0]⟩
  · right
    obtain ⟨a, ha⟩ : ∃ a, l[0]? = some a := ⟨_, List.getElem?_eq_getElem h0⟩
    obtain ⟨g, cap, e, _, hg, hc⟩ := own_cells h ha
    rcases h.2 with ⟨e2, h2⟩ | ⟨g2, cap2, cur, e2, _, _, hcap, _⟩
    · omega
    · rw [e] at e2
      injection e2 with q1 q2 q3
      exact ⟨g, cap, e, hg, by omega, fun i a hi j u hj => hc i a j u hi hj⟩
theorem ScV.sl {w : World} {v : Value} {l : List Sc} (h : ScV w v l) : ∃ A c, v = .slice A l.length c := by
  rcases h with ⟨rfl, A, c, e⟩ | ⟨g, cap, e, _⟩
  · exact ⟨A, c, e⟩
  · exact ⟨_, cap, e⟩
/-- The i-th. -/
theorem ScV.at {w : World} {v : Value} {l : List Sc} {i : Nat} {a : Sc} (h : ScV w v l) (hi : l[i]? = some a) : ∃ g cap, v = .slice (some ⟨g, 0, none⟩) l.length cap ∧ g < w.heap.size ∧ w.cell? ⟨g, i * 2, none⟩ = some (encStr a.m) ∧ w.cell? ⟨g, i * 2 + 1, none⟩ = some (.int .i64 a.s) ∧ ∀ j u, [encStr a.m, Value.int .i64 a.s][j]? = some u → w.cell? ⟨g, i * 2 + j, none⟩ = some u := by
  rcases h with ⟨rfl, _⟩ | ⟨g, cap, e, hg, _, h⟩
  · simp at hi
  · exact ⟨g, cap, e, hg, h i a hi 0 _ rfl, h i a hi 1 _ rfl, h i a hi⟩
set_option maxRecDepth 100000 in
theorem rless_any (w : World) (a b : Sc) : Calls Try.prog 27 #[a.val, b.val] w fun e w' => e = .returned (.bool (a.less b)) ∧ Below w.heap.size w w' := by
  obtain ⟨am, sa⟩ := a
  obtain ⟨bm, sb⟩ := b
  have hl := lt_nm
  rcases Int.lt_trichotomy sa sb with h | h | h
  · have e1 : Sc.less ⟨am, sa⟩ ⟨bm, sb⟩ = true := by rw [Sc.less_iff]; exact .inl h
    rw [e1]
    clear e1
    go_enter Try.func27, Try.ntmps27
    go_wp2_with (first
      | (with_reducible refine wl_box (o := ⟨some 2, _, _, _, _, _⟩) rfl 35 (.tmp 0) _ [encStr am, .int .i64 sa] rfl rfl rfl ?_; intro g2 w2 r2 p2 l2 b2)
      | (with_reducible refine wl_box (o := ⟨some 3, _, _, _, _, _⟩) rfl 35 (.tmp 1) _ [encStr bm, .int .i64 sb] rfl rfl rfl ?_; intro g3 w3 r3 p3 l3 b3; have r2 := r2.later b3; have c1 := r2.cell (j := 0) rfl; have c2 := r2.cell (j := 1) rfl; have c3 := r3.cell (j := 0) rfl; have c4 := r3.cell (j := 1) rfl))
    go_ret
    exact ⟨rfl, b2.trans (b3.mono b2.size)⟩
  · have e1 : Sc.less ⟨am, sa⟩ ⟨bm, sb⟩ = bytesBefore am bm := by unfold Sc.less; rw [if_pos h]
    have h1 : (sa == sb) = true := by simp [h]
    have h2 : decide (sa = sb) = true := by simp [h]
    have h3 : ¬ sa < sb := by omega
    rw [e1]
    clear e1 h
    go_enter Try.func27, Try.ntmps27
    go_wp2_with (first
      | (with_reducible refine wl_box (o := ⟨some 2, _, _, _, _, _⟩) rfl 35 (.tmp 0) _ [encStr am, .int .i64 sa] rfl rfl rfl ?_; intro g2 w2 r2 p2 l2 b2)
      | (with_reducible refine wl_box (o := ⟨some 3, _, _, _, _, _⟩) rfl 35 (.tmp 1) _ [encStr bm, .int .i64 sb] rfl rfl rfl ?_; intro g3 w3 r3 p3 l3 b3; have r2 := r2.later b3; have c1 := r2.cell (j := 0) rfl; have c2 := r2.cell (j := 1) rfl; have c3 := r3.cell (j := 0) rfl; have c4 := r3.cell (j := 1) rfl))
    go_ret
    exact ⟨by rw [← less_before]; rfl, b2.trans (b3.mono b2.size)⟩
  · have e1 : Sc.less ⟨am, sa⟩ ⟨bm, sb⟩ = false := by
      cases hq : Sc.less ⟨am, sa⟩ ⟨bm, sb⟩ with
      | false => rfl
      | true =>
        rcases (Sc.less_iff _ _).1 hq with e | e
        · have : sa < sb := e; omega
        · have : sa = sb := e.1; omega
    have h1 : (sa == sb) = false := by simp; omega
    have h2 : decide (sa = sb) = false := by simp; omega
    have h3 : ¬ sa < sb := by omega
    rw [e1]
    clear e1 h
    go_enter Try.func27, Try.ntmps27
    go_wp2_with (first
      | (with_reducible refine wl_box (o := ⟨some 2, _, _, _, _, _⟩) rfl 35 (.tmp 0) _ [encStr am, .int .i64 sa] rfl rfl rfl ?_; intro g2 w2 r2 p2 l2 b2)
      | (with_reducible refine wl_box (o := ⟨some 3, _, _, _, _, _⟩) rfl 35 (.tmp 1) _ [encStr bm, .int .i64 sb] rfl rfl rfl ?_; intro g3 w3 r3 p3 l3 b3; have r2 := r2.later b3; have c1 := r2.cell (j := 0) rfl; have c2 := r2.cell (j := 1) rfl; have c3 := r3.cell (j := 0) rfl; have c4 := r3.cell (j := 1) rfl))
    go_ret
    exact ⟨rfl, b2.trans (b3.mono b2.size)⟩
/-- The place of a member, or -1. -/
def idxS (m : Nm) (l : List Sc) : Int := match l.findIdx? (fun a => a.m == m) with
  | some i => (i : Int)
  | none => -1
theorem idxS_at {m : Nm} {l : List Sc} {i : Nat} {a : Sc} (h : l[i]? = some a) (hm : a.m = m) (h0 : ∀ (j : Nat) (b : Sc), j < i → l[j]? = some b → b.m ≠ m) : idxS m l = (i : Int) := by
  unfold idxS
  have : l.findIdx? (fun a => a.m == m) = some i := by
    rw [List.findIdx?_eq_some_iff_getElem]
    obtain ⟨hi, e⟩ := List.getElem?_eq_some_iff.1 h
    exact ⟨hi, by rw [e]; simp [hm], fun j hj => by have := h0 j _ hj (List.getElem?_eq_getElem (by omega)); simpa using this⟩
  rw [this]
theorem idxS_none {m : Nm} {l : List Sc} (h : ∀ (j : Nat) (b : Sc), l[j]? = some b → b.m ≠ m) : idxS m l = -1 := by
  unfold idxS
  have : l.findIdx? (fun a => a.m == m) = none := by
    rw [List.findIdx?_eq_none_iff]
    intro a ha
    obtain ⟨j, hj⟩ := List.getElem?_of_mem ha
    simpa using h j a hj
  rw [this]
set_option maxRecDepth 100000 in
set_option maxHeartbeats 1000000 in
/-- Find. -/
theorem rfind_any (w : World) (v : Value) (l : List Sc) (m : Nm) (h : ScV w v l) (hl : l.length ≤ 1000000) : Calls Try.prog 16 #[v, encStr m] w fun e w' => e = .returned (.int .i64 (idxS m l)) ∧ w = w' := by
  obtain ⟨A, c, rfl⟩ := h.sl
  have hlI : (l.length : Int) ≤ 1000000 := by omega
  go_enter Try.func16, Try.ntmps16
  go_wp2_with fail
  go_loopw [5] (fun iv wr => ∃ i : Nat, i ≤ l.length ∧ iv = .int .i64 (i : Int) ∧ (∀ (j : Nat) (b : Sc), j < i → l[j]? = some b → b.m ≠ m) ∧ w = wr) (fun iv _ => l.length - (intOf iv).toNat)
  case atStart => exact ⟨0, by omega, rfl, fun j b hj => by omega, rfl⟩
  case round =>
    obtain ⟨i, hi, rfl, hno, rfl⟩ := hrel
    by_cases hlt : i < l.length
    · have hltI : (i : Int) < (l.length : Int) := by omega
      obtain ⟨a, ha⟩ : ∃ a, l[i]? = some a := ⟨_, List.getElem?_eq_getElem hlt⟩
      obtain ⟨g, cap, e, hg, c0, c1, _⟩ := h.at ha
      injection e with q1 q2 q3
      subst q1
      subst q3
      replace ha := hide ha
      replace hno := hide hno
      by_cases he : a.m = m
      · have hb := decide_eq_true he
        replace he := hide he
        go_wp2_with (first
          | (with_reducible refine wl_run (o := ⟨some 14, _, _, _, _, _⟩) rfl (.pointer (some ⟨g, 0 + i * 2, none⟩)) (run_indexSlN 26 (.tmp 12) (.tmp 13) 35 2 g 0 l.length c i rfl Try.underlying26 Try.sizeOf35 rfl rfl hlt) ?_)
          | (with_reducible refine wl_run (o := ⟨some 18, _, _, _, _, _⟩) rfl (.bool true) (run_eqStr (.tmp 16) (.tmp 17) rfl rfl rfl hb) ?_))
        go_ret
        exact ⟨by rw [idxS_at ha.out he.out hno.out]; rfl, rfl⟩
      · have hb := decide_eq_false he
        replace he := hide he
        go_wp2_with (first
          | (with_reducible refine wl_run (o := ⟨some 14, _, _, _, _, _⟩) rfl (.pointer (some ⟨g, 0 + i * 2, none⟩)) (run_indexSlN 26 (.tmp 12) (.tmp 13) 35 2 g 0 l.length c i rfl Try.underlying26 Try.sizeOf35 rfl rfl hlt) ?_)
          | (with_reducible refine wl_run (o := ⟨some 18, _, _, _, _, _⟩) rfl (.bool false) (run_eqStr (.tmp 16) (.tmp 17) rfl rfl rfl hb) ?_))
        go_roundw
        case rel =>
          refine ⟨i + 1, by omega, by go_num, fun j b hj hb => ?_, trivial⟩
          by_cases h1 : j = i
          · subst h1
            rw [ha.out] at hb
            rw [← Option.some.inj hb]; exact he.out
          · exact hno.out j b (by omega) hb
        case measure => simp [intOf]; omega
    · obtain rfl : i = l.length := by omega
      go_wp2_with fail
      go_ret
      exact ⟨by rw [idxS_none fun j b hb => hno j b (List.getElem?_eq_some_iff.1 hb).1 hb]; rfl, rfl⟩
end Go.Proofs.Ytfklfgaomcbchaa

/-
  Several own texts in one: ValNa, ValNb, ValNc, ValNd, ValNe. Own work.
-/
import Derived.ChangeMaps5
import Derived.Test.YtpbkejmffddelaaGreatGF
set_option linter.unusedVariables false
set_option linter.unusedSimpArgs false
/-
  The laws' acts in memory; which are few. Own work.
-/
namespace Go.Proofs.YtpbkejmffddelaaGreat
open Go.RowKit Go.Shelf
/-- An act. -/
structure VA where
  k : Int
  a : Nm
  b : Nm
  n : Int
  l : List Nm
instance : Inhabited VA := ⟨⟨0, [], [], 0, []⟩⟩
abbrev VA.cells (x : VA) (lv : Value) : List Value := [.int .u8 x.k, encStr x.a, encStr x.b, .int .i64 x.n, lv]
/-- Acts in memory. -/
def VActs (w : World) (B : Nat) (v : Value) (l : List VA) : Prop :=
  ∃ A c, v = .slice A l.length c ∧ (0 < l.length → ∃ g off, A = some ⟨g, off, none⟩ ∧ g < B ∧ ∀ (i : Nat) (a : VA), l[i]? = some a → ∃ lv, SlV cS 1 w B lv a.l ∧ ∀ (j : Nat) (u : Value), (a.cells lv)[j]? = some u → w.cell? ⟨g, off + i * 5 + j, none⟩ = some u)
section
variable {w w' : World} {B B' : Nat} {v : Value} {l : List VA}
theorem VActs.below (h : VActs w B v l) (hb : Below B w w') : VActs w' B v l := by
  obtain ⟨A, c, e, h⟩ := h
  refine ⟨A, c, e, fun h0 => ?_⟩
  obtain ⟨g, off, eA, hg, hc⟩ := h h0
  refine ⟨g, off, eA, hg, fun i a hi => ?_⟩
  obtain ⟨lv, hl, hc⟩ := hc i a hi
  exact ⟨lv, hl.below hb, fun j u hj => (hb.cell (p := ⟨g, _, none⟩) hg).trans (hc j u hj)⟩
theorem VActs.at {A : Option Addr} {n c i : Nat} {a : VA} (h : VActs w B (.slice A n c) l) (hi : l[i]? = some a) : n = l.length ∧ ∃ g off lv, A = some ⟨g, off, none⟩ ∧ g < B ∧ SlV cS 1 w B lv a.l ∧ ∀ (j : Nat) (u : Value), (a.cells lv)[j]? = some u → w.cell? ⟨g, off + i * 5 + j, none⟩ = some u := by
  obtain ⟨A', c', e, h⟩ := h
  injection e with q1 q2 q3
  subst q1
  obtain ⟨g, off, eA, hg, hc⟩ := h (by have := (List.getElem?_eq_some_iff.1 hi).1; omega)
  obtain ⟨lv, hl, hc⟩ := hc i a hi
  exact ⟨q2, g, off, lv, eA, hg, hl, hc⟩
end
/-- Few acts, and small ones. -/
def FewA (l : List VA) : Prop := l.length ≤ 40 ∧ ∀ a ∈ l, a.a.length + a.b.length ≤ 200 ∧ a.l.length ≤ 20 ∧ ∀ t ∈ a.l, t.length ≤ 100
def SFwB (ga oa i c : Nat) (l : List VA) (a : VA) (s : Int) (opn : Nat) (v : Value) : Prop :=
  match opn with
  | 0 | 6 => v = .slice (some ⟨ga, oa, none⟩) l.length c
  | 1 | 7 => v = .int .i64 (i : Int)
  | 2 | 8 => v = .pointer (some ⟨ga, oa + i * 5, none⟩)
  | 3 => v = .pointer (some ⟨ga, oa + i * 5 + 1, none⟩)
  | 4 => v = encStr a.a
  | 5 => v = .int .i64 (a.a.length : Int)
  | 9 => v = .pointer (some ⟨ga, oa + i * 5 + 2, none⟩)
  | 10 => v = encStr a.b
  | 11 => v = .int .i64 (a.b.length : Int)
  | 12 => v = .int .i64 s
  | 13 | 14 | 22 => v = .bool true
  | 15 | 16 | 17 | 18 | 19 | 20 | 21 => v = undef
  | _ => True

def SFwS (ga oa i c LC : Nat) (LA : Option Addr) (l : List VA) (a : VA) (s : Int) (lb : Bool) (opn : Nat) (v : Value) : Prop :=
  match opn with
  | 0 | 6 | 15 => v = .slice (some ⟨ga, oa, none⟩) l.length c
  | 1 | 7 | 16 => v = .int .i64 (i : Int)
  | 2 | 8 | 17 => v = .pointer (some ⟨ga, oa + i * 5, none⟩)
  | 3 => v = .pointer (some ⟨ga, oa + i * 5 + 1, none⟩)
  | 4 => v = encStr a.a
  | 5 => v = .int .i64 (a.a.length : Int)
  | 9 => v = .pointer (some ⟨ga, oa + i * 5 + 2, none⟩)
  | 10 => v = encStr a.b
  | 11 => v = .int .i64 (a.b.length : Int)
  | 12 => v = .int .i64 s
  | 13 | 14 => v = .bool false
  | 18 => v = .pointer (some ⟨ga, oa + i * 5 + 4, none⟩)
  | 19 => v = .slice LA a.l.length LC
  | 20 => v = .int .i64 (a.l.length : Int)
  | 21 | 22 => v = .bool lb
  | _ => True

set_option maxRecDepth 100000 in
set_option maxHeartbeats 4000000 in
theorem few_any (w : World) (v : Value) (l : List VA) (h : VActs w w.heap.size v l) (hln : ∀ a ∈ l, a.a.length ≤ 140737488355328 ∧ a.b.length ≤ 140737488355328) :
    Calls Tryz.prog 18 #[v] w fun e w' => (∃ b : Bool, e = .returned (.bool b) ∧ (b = true → FewA l)) ∧ Below w.heap.size w w' := by
  obtain ⟨A, c, rfl, hh⟩ := id h
  clear hh
  by_cases hbig : l.length ≤ 40
  · have hbI : ¬ (40 : Int) < (l.length : Int) := by omega
    have hbJ : (l.length : Int) ≤ 40 := by omega
    go_enter Tryz.func18, Tryz.ntmps18
    go_wp2_with fail
    go_loopw [3] (fun iv wr => ∃ i : Nat, i ≤ l.length ∧ iv = .int .i64 (i : Int) ∧ (∀ (j : Nat) (a : VA), j < i → l[j]? = some a → a.a.length + a.b.length ≤ 200 ∧ a.l.length ≤ 20 ∧ ∀ t ∈ a.l, t.length ≤ 100) ∧ Below w.heap.size w wr) (fun iv _ => l.length - (intOf iv).toNat)
    case atStart => exact ⟨0, by omega, rfl, fun j a hj => by omega, Below.refl _ _⟩
    case round =>
      obtain ⟨i, hi, rfl, hok, BW⟩ := hrel
      by_cases hlt : i < l.length
      · have hltI : (i : Int) < (l.length : Int) := by omega
        obtain ⟨a, ha⟩ : ∃ a, l[i]? = some a := ⟨_, List.getElem?_eq_getElem hlt⟩
        have hb := hln a (List.mem_of_getElem? ha)
        obtain ⟨x1, ga, oa, lv, rfl, hga, hlv, hca⟩ := (h.below BW).at ha
        obtain ⟨LA, LC, rfl⟩ := hlv.sl
        have c1 := hca 1 _ rfl
        have c2 := hca 2 _ rfl
        have c4 := hca 4 _ rfl
        obtain ⟨s, hs⟩ : ∃ s, s = (a.a.length : Int) + (a.b.length : Int) := ⟨_, rfl⟩
        have hadd := hide (show IntKind.i64.wrap ((a.a.length : Int) + (a.b.length : Int)) = s from wrap_id (by omega) (by omega) (by omega))
        have hlt9 := hide hlt
        replace hok := hide hok
        clear x1 hga hca
        by_cases hb2 : 200 < a.a.length + a.b.length
        · replace hbig := hide hbig
          have hbig9 := hbig
          clear hbig
          have hbig := hide (show decide ((200 : Int) < s) = true from decide_eq_true (by omega))
          have hlt := hide hlt
          replace hs := hide hs
          clear ha hb hb2 hlv hi
          go_wp2_with fail
          rename_i K6 hK6
          refine wp_region_valsS [] (SFwB ga oa i c l a s) (fun _ _ wz => wr.drew = wz) (by kernel_rfl) (by kernel_rfl) (by kernel_rfl) (by kernel_rfl) rfl ?obsB ?heB
          case obsB =>
            refine ⟨?_, ?_, ?_, ?_, ?_, ?_, ?_, ?_, ?_, ?_, ?_, ?_, ?_, ?_, ?_, ?_, ?_, ?_, ?_, ?_, ?_, ?_, ?_, trivial⟩
            · refine .inl ⟨.inl rfl, ?_⟩
              exact .inl ⟨by kernel_rfl, fun L a1 w1 n h => ⟨_, rfl, run_move (.tmp 0) rfl (h.var n 0 (by kernel_rfl))⟩⟩
            · refine .inl ⟨.inl rfl, ?_⟩
              exact .inl ⟨by kernel_rfl, fun L a1 w1 n h => ⟨_, rfl, run_move (.tmp 3) rfl (h.var n 3 (by kernel_rfl))⟩⟩
            · refine .inl ⟨.inl rfl, ?_⟩
              exact .inl ⟨by kernel_rfl, fun L a1 w1 n h => ⟨_, rfl, run_idxO 47 (.tmp 14) (.tmp 15) 54 5 ga oa _ _ i rfl Tryz.underlying47 Tryz.sizeOf54 (h.dep n 0 14 (by kernel_rfl) rfl) (h.dep n 1 15 (by kernel_rfl) rfl) hlt.out⟩⟩
            · refine .inl ⟨.inl rfl, ?_⟩
              refine .inl ⟨by kernel_rfl, fun L a1 w1 n h => ⟨.pointer (some ⟨ga, oa + i * 5 + 1, none⟩), rfl, ?_⟩⟩
              have e0 : a1.eval (.tmp 16) = _ := h.dep n 2 16 (by kernel_rfl) rfl
              unfold execOp
              simp only [e0]
              go_simp
            · refine .inl ⟨.inl rfl, ?_⟩
              exact .inl ⟨by kernel_rfl, fun L a1 w1 n h => ⟨_, rfl, run_load1 9 (.tmp 17) ga (oa + i * 5 + 1) _ rfl Tryz.isAgg9 (h.dep n 3 17 (by kernel_rfl) rfl) (h.inv ▸ c1)⟩⟩
            · refine .inl ⟨.inl rfl, ?_⟩
              exact .inl ⟨by kernel_rfl, fun L a1 w1 n h => ⟨_, rfl, run_lenStr 9 (.tmp 18) _ rfl Tryz.underlying9 (h.dep n 4 18 (by kernel_rfl) rfl)⟩⟩
            · refine .inl ⟨.inl rfl, ?_⟩
              exact .inl ⟨by kernel_rfl, fun L a1 w1 n h => ⟨_, rfl, run_move (.tmp 0) rfl (h.var n 0 (by kernel_rfl))⟩⟩
            · refine .inl ⟨.inl rfl, ?_⟩
              exact .inl ⟨by kernel_rfl, fun L a1 w1 n h => ⟨_, rfl, run_move (.tmp 3) rfl (h.var n 3 (by kernel_rfl))⟩⟩
            · refine .inl ⟨.inl rfl, ?_⟩
              exact .inl ⟨by kernel_rfl, fun L a1 w1 n h => ⟨_, rfl, run_idxO 47 (.tmp 20) (.tmp 21) 54 5 ga oa _ _ i rfl Tryz.underlying47 Tryz.sizeOf54 (h.dep n 6 20 (by kernel_rfl) rfl) (h.dep n 7 21 (by kernel_rfl) rfl) hlt.out⟩⟩
            · refine .inl ⟨.inl rfl, ?_⟩
              refine .inl ⟨by kernel_rfl, fun L a1 w1 n h => ⟨.pointer (some ⟨ga, oa + i * 5 + 2, none⟩), rfl, ?_⟩⟩
              have e0 : a1.eval (.tmp 22) = _ := h.dep n 8 22 (by kernel_rfl) rfl
              unfold execOp
              simp only [e0]
              go_simp
            · refine .inl ⟨.inl rfl, ?_⟩
              exact .inl ⟨by kernel_rfl, fun L a1 w1 n h => ⟨_, rfl, run_load1 9 (.tmp 23) ga (oa + i * 5 + 2) _ rfl Tryz.isAgg9 (h.dep n 9 23 (by kernel_rfl) rfl) (h.inv ▸ c2)⟩⟩
            · refine .inl ⟨.inl rfl, ?_⟩
              exact .inl ⟨by kernel_rfl, fun L a1 w1 n h => ⟨_, rfl, run_lenStr 9 (.tmp 24) _ rfl Tryz.underlying9 (h.dep n 10 24 (by kernel_rfl) rfl)⟩⟩
            · refine .inl ⟨.inl rfl, ?_⟩
              exact .inl ⟨by kernel_rfl, fun L a1 w1 n h => ⟨_, rfl, run_addZ (.tmp 19) (.tmp 25) rfl (h.dep n 5 19 (by kernel_rfl) rfl) (h.dep n 11 25 (by kernel_rfl) rfl) hadd.out⟩⟩
            · refine .inl ⟨.inl rfl, ?_⟩
              exact .inl ⟨by kernel_rfl, fun L a1 w1 n h => ⟨_, rfl, run_gtrI (.tmp 26) (.const (.int .i64 200)) rfl (h.dep n 12 26 (by kernel_rfl) rfl) rfl hbig.out⟩⟩
            · refine .inl ⟨.inl rfl, ?_⟩
              exact .inl ⟨by kernel_rfl, fun L a1 w1 n h => ⟨_, rfl, run_move (.tmp 27) rfl (h.dep n 13 27 (by kernel_rfl) rfl)⟩⟩
            · exact .inr ⟨⟨14, false, 28, rfl, by kernel_rfl, rfl, by simp, fun v h => by rw [show v = .bool true from h]; first | exact ne_tf | exact ne_ft | exact ne_undef _⟩, by kernel_rfl, rfl⟩
            · exact .inr ⟨⟨14, false, 28, rfl, by kernel_rfl, rfl, by simp, fun v h => by rw [show v = .bool true from h]; first | exact ne_tf | exact ne_ft | exact ne_undef _⟩, by kernel_rfl, rfl⟩
            · exact .inr ⟨⟨14, false, 28, rfl, by kernel_rfl, rfl, by simp, fun v h => by rw [show v = .bool true from h]; first | exact ne_tf | exact ne_ft | exact ne_undef _⟩, by kernel_rfl, rfl⟩
            · exact .inr ⟨⟨14, false, 28, rfl, by kernel_rfl, rfl, by simp, fun v h => by rw [show v = .bool true from h]; first | exact ne_tf | exact ne_ft | exact ne_undef _⟩, by kernel_rfl, rfl⟩
            · exact .inr ⟨⟨14, false, 28, rfl, by kernel_rfl, rfl, by simp, fun v h => by rw [show v = .bool true from h]; first | exact ne_tf | exact ne_ft | exact ne_undef _⟩, by kernel_rfl, rfl⟩
            · exact .inr ⟨⟨14, false, 28, rfl, by kernel_rfl, rfl, by simp, fun v h => by rw [show v = .bool true from h]; first | exact ne_tf | exact ne_ft | exact ne_undef _⟩, by kernel_rfl, rfl⟩
            · exact .inr ⟨⟨14, false, 28, rfl, by kernel_rfl, rfl, by simp, fun v h => by rw [show v = .bool true from h]; first | exact ne_tf | exact ne_ft | exact ne_undef _⟩, by kernel_rfl, rfl⟩
            · refine .inl ⟨.inl rfl, ?_⟩
              exact .inl ⟨by kernel_rfl, fun L a1 w1 n h => ⟨_, rfl, run_pickT (.tmp 28) _ _ rfl (h.dep n 14 28 (by kernel_rfl) rfl) rfl⟩⟩
          case heB =>
            intro V w11 hV hJ
            obtain rfl : wr.drew = w11 := hJ
            have hE : V 22 = .bool true := hV 22 _ rfl
            clear hV
            simp only [putOps, List.setIfInBounds_toArray, List.set_cons_succ, List.set_cons_zero, Nat.reduceAdd]
            rw [hE]
            refine hK6 _ _ ?_
            go_wp2_with fail
            go_ret
            exact ⟨⟨false, rfl, fun h => by cases h⟩, BW.drew⟩
        · replace hbig := hide hbig
          have hbig9 := hbig
          clear hbig
          have hbig := hide (show decide ((200 : Int) < s) = false from decide_eq_false (by omega))
          obtain ⟨lb, hlb0⟩ : ∃ lb, decide ((20 : Int) < (a.l.length : Int)) = lb := ⟨_, rfl⟩
          have hlb := hide hlb0
          have hlt := hide hlt
          replace hs := hide hs
          have hb29 := hide hb2
          replace ha := hide ha
          replace hlb0 := hide hlb0
          clear hb hb2 hi
          go_wp2_with fail
          rename_i K6 hK6
          refine wp_region_valsG [] (SFwS ga oa i c LC LA l a s lb) (fun _ _ wz => wr.drew = wz) (by kernel_rfl) (by kernel_rfl) (by kernel_rfl) (by kernel_rfl) rfl ?obsS ?heS
          case obsS =>
            refine ⟨?_, ?_, ?_, ?_, ?_, ?_, ?_, ?_, ?_, ?_, ?_, ?_, ?_, ?_, ?_, ?_, ?_, ?_, ?_, ?_, ?_, ?_, ?_, trivial⟩
            · refine ⟨.inl rfl, ?_⟩
              exact .inl ⟨by kernel_rfl, fun L a1 w1 n h => ⟨_, rfl, run_move (.tmp 0) rfl (h.var n 0 (by kernel_rfl))⟩⟩
            · refine ⟨.inl rfl, ?_⟩
              exact .inl ⟨by kernel_rfl, fun L a1 w1 n h => ⟨_, rfl, run_move (.tmp 3) rfl (h.var n 3 (by kernel_rfl))⟩⟩
            · refine ⟨.inl rfl, ?_⟩
              exact .inl ⟨by kernel_rfl, fun L a1 w1 n h => ⟨_, rfl, run_idxO 47 (.tmp 14) (.tmp 15) 54 5 ga oa _ _ i rfl Tryz.underlying47 Tryz.sizeOf54 (h.dep n 0 14 (by kernel_rfl) rfl) (h.dep n 1 15 (by kernel_rfl) rfl) hlt.out⟩⟩
            · refine ⟨.inl rfl, ?_⟩
              refine .inl ⟨by kernel_rfl, fun L a1 w1 n h => ⟨.pointer (some ⟨ga, oa + i * 5 + 1, none⟩), rfl, ?_⟩⟩
              have e0 : a1.eval (.tmp 16) = _ := h.dep n 2 16 (by kernel_rfl) rfl
              unfold execOp
              simp only [e0]
              go_simp
            · refine ⟨.inl rfl, ?_⟩
              exact .inl ⟨by kernel_rfl, fun L a1 w1 n h => ⟨_, rfl, run_load1 9 (.tmp 17) ga (oa + i * 5 + 1) _ rfl Tryz.isAgg9 (h.dep n 3 17 (by kernel_rfl) rfl) (h.inv ▸ c1)⟩⟩
            · refine ⟨.inl rfl, ?_⟩
              exact .inl ⟨by kernel_rfl, fun L a1 w1 n h => ⟨_, rfl, run_lenStr 9 (.tmp 18) _ rfl Tryz.underlying9 (h.dep n 4 18 (by kernel_rfl) rfl)⟩⟩
            · refine ⟨.inl rfl, ?_⟩
              exact .inl ⟨by kernel_rfl, fun L a1 w1 n h => ⟨_, rfl, run_move (.tmp 0) rfl (h.var n 0 (by kernel_rfl))⟩⟩
            · refine ⟨.inl rfl, ?_⟩
              exact .inl ⟨by kernel_rfl, fun L a1 w1 n h => ⟨_, rfl, run_move (.tmp 3) rfl (h.var n 3 (by kernel_rfl))⟩⟩
            · refine ⟨.inl rfl, ?_⟩
              exact .inl ⟨by kernel_rfl, fun L a1 w1 n h => ⟨_, rfl, run_idxO 47 (.tmp 20) (.tmp 21) 54 5 ga oa _ _ i rfl Tryz.underlying47 Tryz.sizeOf54 (h.dep n 6 20 (by kernel_rfl) rfl) (h.dep n 7 21 (by kernel_rfl) rfl) hlt.out⟩⟩
            · refine ⟨.inl rfl, ?_⟩
              refine .inl ⟨by kernel_rfl, fun L a1 w1 n h => ⟨.pointer (some ⟨ga, oa + i * 5 + 2, none⟩), rfl, ?_⟩⟩
              have e0 : a1.eval (.tmp 22) = _ := h.dep n 8 22 (by kernel_rfl) rfl
              unfold execOp
              simp only [e0]
              go_simp
            · refine ⟨.inl rfl, ?_⟩
              exact .inl ⟨by kernel_rfl, fun L a1 w1 n h => ⟨_, rfl, run_load1 9 (.tmp 23) ga (oa + i * 5 + 2) _ rfl Tryz.isAgg9 (h.dep n 9 23 (by kernel_rfl) rfl) (h.inv ▸ c2)⟩⟩
            · refine ⟨.inl rfl, ?_⟩
              exact .inl ⟨by kernel_rfl, fun L a1 w1 n h => ⟨_, rfl, run_lenStr 9 (.tmp 24) _ rfl Tryz.underlying9 (h.dep n 10 24 (by kernel_rfl) rfl)⟩⟩
            · refine ⟨.inl rfl, ?_⟩
              exact .inl ⟨by kernel_rfl, fun L a1 w1 n h => ⟨_, rfl, run_addZ (.tmp 19) (.tmp 25) rfl (h.dep n 5 19 (by kernel_rfl) rfl) (h.dep n 11 25 (by kernel_rfl) rfl) hadd.out⟩⟩
            · refine ⟨.inl rfl, ?_⟩
              exact .inl ⟨by kernel_rfl, fun L a1 w1 n h => ⟨_, rfl, run_gtrI (.tmp 26) (.const (.int .i64 200)) rfl (h.dep n 12 26 (by kernel_rfl) rfl) rfl hbig.out⟩⟩
            · refine ⟨.inl rfl, ?_⟩
              exact .inl ⟨by kernel_rfl, fun L a1 w1 n h => ⟨_, rfl, run_move (.tmp 27) rfl (h.dep n 13 27 (by kernel_rfl) rfl)⟩⟩
            · refine ⟨.inr ⟨14, false, 28, rfl, by kernel_rfl, rfl, by simp, fun v h => h⟩, ?_⟩
              exact .inl ⟨by kernel_rfl, fun L a1 w1 n h => ⟨_, rfl, run_move (.tmp 0) rfl (h.var n 0 (by kernel_rfl))⟩⟩
            · refine ⟨.inr ⟨14, false, 28, rfl, by kernel_rfl, rfl, by simp, fun v h => h⟩, ?_⟩
              exact .inl ⟨by kernel_rfl, fun L a1 w1 n h => ⟨_, rfl, run_move (.tmp 3) rfl (h.var n 3 (by kernel_rfl))⟩⟩
            · refine ⟨.inr ⟨14, false, 28, rfl, by kernel_rfl, rfl, by simp, fun v h => h⟩, ?_⟩
              exact .inl ⟨by kernel_rfl, fun L a1 w1 n h => ⟨_, rfl, run_idxO 47 (.tmp 29) (.tmp 30) 54 5 ga oa _ _ i rfl Tryz.underlying47 Tryz.sizeOf54 (h.dep n 15 29 (by kernel_rfl) rfl) (h.dep n 16 30 (by kernel_rfl) rfl) hlt.out⟩⟩
            · refine ⟨.inr ⟨14, false, 28, rfl, by kernel_rfl, rfl, by simp, fun v h => h⟩, ?_⟩
              refine .inl ⟨by kernel_rfl, fun L a1 w1 n h => ⟨.pointer (some ⟨ga, oa + i * 5 + 4, none⟩), rfl, ?_⟩⟩
              have e0 : a1.eval (.tmp 31) = _ := h.dep n 17 31 (by kernel_rfl) rfl
              unfold execOp
              simp only [e0]
              go_simp
            · refine ⟨.inr ⟨14, false, 28, rfl, by kernel_rfl, rfl, by simp, fun v h => h⟩, ?_⟩
              exact .inl ⟨by kernel_rfl, fun L a1 w1 n h => ⟨_, rfl, run_load1 23 (.tmp 32) ga (oa + i * 5 + 4) _ rfl Tryz.isAgg23 (h.dep n 18 32 (by kernel_rfl) rfl) (h.inv ▸ c4)⟩⟩
            · refine ⟨.inr ⟨14, false, 28, rfl, by kernel_rfl, rfl, by simp, fun v h => h⟩, ?_⟩
              exact .inl ⟨by kernel_rfl, fun L a1 w1 n h => ⟨_, rfl, run_lenSl 23 (.tmp 33) LA a.l.length LC rfl ⟨_, Tryz.underlying23⟩ (h.dep n 19 33 (by kernel_rfl) rfl)⟩⟩
            · refine ⟨.inr ⟨14, false, 28, rfl, by kernel_rfl, rfl, by simp, fun v h => h⟩, ?_⟩
              exact .inl ⟨by kernel_rfl, fun L a1 w1 n h => ⟨_, rfl, run_gtrI (.tmp 34) (.const (.int .i64 20)) rfl (h.dep n 20 34 (by kernel_rfl) rfl) rfl hlb.out⟩⟩
            · refine ⟨.inl rfl, ?_⟩
              exact .inl ⟨by kernel_rfl, fun L a1 w1 n h => ⟨_, rfl, run_pickF (.tmp 28) _ _ rfl (h.dep n 14 28 (by kernel_rfl) rfl) (h.dep n 21 35 (by kernel_rfl) rfl)⟩⟩
          case heS =>
            intro V w11 hV hJ
            obtain rfl : wr.drew = w11 := hJ
            have hE : V 22 = .bool lb := hV 22 _ rfl
            clear hV
            simp only [putOps, List.setIfInBounds_toArray, List.set_cons_succ, List.set_cons_zero, Nat.reduceAdd]
            rw [hE]
            refine hK6 _ _ ?_
            cases lb with
            | true =>
              go_wp2_with fail
              go_ret
              exact ⟨⟨false, rfl, fun h => by cases h⟩, BW.drew⟩
            | false =>
              have hl20 : a.l.length ≤ 20 := by have := of_decide_eq_false hlb0.out; omega
              have hl20I : (a.l.length : Int) ≤ 20 := by omega
              have hlt' := hlt.out
              have BWd := BW.drew
              have c4 : wr.drew.cell? ⟨ga, oa + i * 5 + 4, none⟩ = some (.slice LA a.l.length LC) := c4
              have hlvd : SlV cS 1 wr.drew w.heap.size (.slice LA a.l.length LC) a.l := hlv
              obtain ⟨wd, hwd⟩ : ∃ wd, wd = wr.drew := ⟨_, rfl⟩
              rw [← hwd] at c4 hlvd BWd ⊢
              clear hwd c1 c2 hE
              generalize V 0 = v0
              generalize V 1 = v1
              generalize V 2 = v2
              generalize V 3 = v3
              generalize V 4 = v4
              generalize V 5 = v5
              generalize V 6 = v6
              generalize V 7 = v7
              generalize V 8 = v8
              generalize V 9 = v9
              generalize V 10 = v10
              generalize V 11 = v11
              generalize V 12 = v12
              generalize V 13 = v13
              generalize V 14 = v14
              generalize V 15 = v15
              generalize V 16 = v16
              generalize V 17 = v17
              generalize V 18 = v18
              generalize V 19 = v19
              generalize V 20 = v20
              generalize V 21 = v21
              go_wp2_with fail
              go_loopw [4] (fun iv wz => ∃ k : Nat, k ≤ a.l.length ∧ iv = .int .i64 (k : Int) ∧ (∀ (j : Nat) (t : Nm), j < k → a.l[j]? = some t → t.length ≤ 100) ∧ wd = wz) (fun iv _ => a.l.length - (intOf iv).toNat)
              case atStart => exact ⟨0, by omega, rfl, fun j t hj => by omega, rfl⟩
              case round =>
                obtain ⟨k, hk, rfl, hok2, rfl⟩ := hrel
                by_cases hkl : k < a.l.length
                · have hklI : (k : Int) < (a.l.length : Int) := by omega
                  obtain ⟨t, ht⟩ : ∃ t, a.l[k]? = some t := ⟨_, List.getElem?_eq_getElem hkl⟩
                  obtain ⟨x1, gl, ol, rfl, hgl, hcl⟩ := hlvd.at ht
                  have d0 := hcl 0 _ rfl
                  rw [Nat.add_zero] at d0
                  have hst := str_len t
                  replace hok2 := hide hok2
                  replace ht := hide ht
                  have hkl9 := hide hkl
                  clear x1 hgl hcl hlv
                  by_cases hl : t.length ≤ 100
                  · have hlI : ¬ (100 : Int) < (t.length : Int) := by omega
                    replace hl := hide hl
                    go_wp2_with (first
                      | (with_reducible refine wl_run (o := ⟨some 40, _, _, _, _, _⟩) rfl (.pointer (some ⟨ga, oa + i * 5, none⟩)) (run_idxO 47 (.tmp 38) (.tmp 39) 54 5 ga oa l.length c i rfl Tryz.underlying47 Tryz.sizeOf54 rfl rfl hlt') ?_)
                      | (with_reducible refine wl_run (o := ⟨some 42, _, _, _, _, _⟩) rfl (.slice LA a.l.length LC) (run_load1 23 (.tmp 41) ga (oa + i * 5 + 4) _ rfl Tryz.isAgg23 rfl c4) ?_)
                      | (with_reducible refine wl_run (o := ⟨some 49, _, _, _, _, _⟩) rfl (.pointer (some ⟨ga, oa + i * 5, none⟩)) (run_idxO 47 (.tmp 47) (.tmp 48) 54 5 ga oa l.length c i rfl Tryz.underlying47 Tryz.sizeOf54 rfl rfl hlt') ?_)
                      | (with_reducible refine wl_run (o := ⟨some 50, _, _, _, _, _⟩) rfl (.slice LA a.l.length LC) (run_load1 23 (.tmp 49) ga (oa + i * 5 + 4) _ rfl Tryz.isAgg23 rfl c4) ?_)
                      | (with_reducible refine wl_run (o := ⟨some 53, _, _, _, _, _⟩) rfl (.pointer (some ⟨gl, ol + k * 1, none⟩)) (run_idxO 23 (.tmp 51) (.tmp 52) 9 1 gl ol a.l.length LC k rfl Tryz.underlying23 Tryz.sizeOf9 rfl rfl hkl) ?_)
                      | (with_reducible refine wl_run (o := ⟨some 54, _, _, _, _, _⟩) rfl (encStr t) (run_load1 9 (.tmp 53) gl (ol + k * 1) _ rfl Tryz.isAgg9 rfl d0) ?_))
                    go_roundw
                    case rel =>
                      refine ⟨k + 1, by have := hkl9.out; omega, by go_num, fun j b hj hb => ?_, trivial⟩
                      by_cases h1 : j = k
                      · subst h1
                        rw [ht.out] at hb
                        rw [← Option.some.inj hb]; exact hl.out
                      · exact hok2.out j b (by omega) hb
                    case measure => have := hkl9.out; simp [intOf]; omega
                  · have hlI : (100 : Int) < (t.length : Int) := by omega
                    clear hl
                    go_wp2_with (first
                      | (with_reducible refine wl_run (o := ⟨some 40, _, _, _, _, _⟩) rfl (.pointer (some ⟨ga, oa + i * 5, none⟩)) (run_idxO 47 (.tmp 38) (.tmp 39) 54 5 ga oa l.length c i rfl Tryz.underlying47 Tryz.sizeOf54 rfl rfl hlt') ?_)
                      | (with_reducible refine wl_run (o := ⟨some 42, _, _, _, _, _⟩) rfl (.slice LA a.l.length LC) (run_load1 23 (.tmp 41) ga (oa + i * 5 + 4) _ rfl Tryz.isAgg23 rfl c4) ?_)
                      | (with_reducible refine wl_run (o := ⟨some 49, _, _, _, _, _⟩) rfl (.pointer (some ⟨ga, oa + i * 5, none⟩)) (run_idxO 47 (.tmp 47) (.tmp 48) 54 5 ga oa l.length c i rfl Tryz.underlying47 Tryz.sizeOf54 rfl rfl hlt') ?_)
                      | (with_reducible refine wl_run (o := ⟨some 50, _, _, _, _, _⟩) rfl (.slice LA a.l.length LC) (run_load1 23 (.tmp 49) ga (oa + i * 5 + 4) _ rfl Tryz.isAgg23 rfl c4) ?_)
                      | (with_reducible refine wl_run (o := ⟨some 53, _, _, _, _, _⟩) rfl (.pointer (some ⟨gl, ol + k * 1, none⟩)) (run_idxO 23 (.tmp 51) (.tmp 52) 9 1 gl ol a.l.length LC k rfl Tryz.underlying23 Tryz.sizeOf9 rfl rfl hkl) ?_)
                      | (with_reducible refine wl_run (o := ⟨some 54, _, _, _, _, _⟩) rfl (encStr t) (run_load1 9 (.tmp 53) gl (ol + k * 1) _ rfl Tryz.isAgg9 rfl d0) ?_))
                    go_ret
                    exact ⟨⟨false, rfl, fun h => by cases h⟩, BWd⟩
                · obtain rfl : k = a.l.length := by omega
                  replace hok2 := hide hok2
                  go_wp2_with (first
                    | (with_reducible refine wl_run (o := ⟨some 40, _, _, _, _, _⟩) rfl (.pointer (some ⟨ga, oa + i * 5, none⟩)) (run_idxO 47 (.tmp 38) (.tmp 39) 54 5 ga oa l.length c i rfl Tryz.underlying47 Tryz.sizeOf54 rfl rfl hlt') ?_)
                      | (with_reducible refine wl_run (o := ⟨some 42, _, _, _, _, _⟩) rfl (.slice LA a.l.length LC) (run_load1 23 (.tmp 41) ga (oa + i * 5 + 4) _ rfl Tryz.isAgg23 rfl c4) ?_))
                  go_roundw
                  case rel =>
                    refine ⟨i + 1, by have := hlt.out; omega, by go_num, fun j b hj hb => ?_, BWd⟩
                    by_cases h1 : j = i
                    · subst h1
                      rw [ha.out] at hb
                      obtain rfl := Option.some.inj hb
                      refine ⟨by have := hb29.out; omega, hl20, fun t ht => ?_⟩
                      obtain ⟨q, hq⟩ := List.getElem?_of_mem ht
                      exact hok2.out q t (List.getElem?_eq_some_iff.1 hq).1 hq
                    · exact hok.out j b (by omega) hb
                  case measure => have := hlt.out; simp [intOf]; omega
      · obtain rfl : i = l.length := by omega
        replace hok := hide hok
        go_wp2_with fail
        go_ret
        refine ⟨⟨true, rfl, fun _ => ⟨hbig, fun a ha => ?_⟩⟩, BW⟩
        obtain ⟨j, hj⟩ := List.getElem?_of_mem ha
        exact hok.out j a (List.getElem?_eq_some_iff.1 hj).1 hj
  · have hbI : (40 : Int) < (l.length : Int) := by omega
    go_enter Tryz.func18, Tryz.ntmps18
    go_wp2_with fail
    go_ret
    exact ⟨⟨false, rfl, fun h => by cases h⟩, Below.refl _ _⟩
end Go.Proofs.YtpbkejmffddelaaGreat

/-
  Calls on no value: nil, and a value that no call made. Own work.
-/
namespace Go.Proofs.YtpbkejmffddelaaGreat
open Go.RowKit Go.Shelf Go.Maps
theorem zeroEP : (Tryz.prog.info? 87).map (fun i => i.zero) = some (some (.agg ([encStr [], encStr []] : List Value).toArray)) := by kernel_rfl
theorem szEP : (Tryz.prog.info? 87).map (·.size) = some ([encStr [], encStr []] : List Value).length := by kernel_rfl
theorem oneEP : ∀ u ∈ ([encStr [], encStr []] : List Value), u.oneCell' = true := by simp [Value.oneCell', encStr]
theorem look_nilP (w : World) (m : Nm) (hm : m.length ≤ maxLen) (a : Act) (o : Oper) (x y : Operand) (ho : o.op = .lookup 64 x y true) (hx : a.eval x = .map none) (hy : a.eval y = encStr m) : (execOp a.eval o).run Tryz.prog w = .ok (.value (.tuple #[.agg ([encStr [], encStr []] : List Value).toArray, .bool false])) w := by
  unfold execOp
  simp only [ho, hx, hy]
  go_simp
  rw [Go.Maps.look_nil true keyS Tryz.underlying64 (zeroP w) (keyOf_enc m hm)]
  rfl
theorem del_nilP (w : World) (m : Nm) (a : Act) (o : Oper) (x y : Operand) (ho : o.op = .call { callee := .builtin .delete, args := #[x, y], argTypes := #[64, 9] }) (hx : a.eval x = .map none) (hy : a.eval y = encStr m) : (execOp a.eval o).run Tryz.prog w = .ok (.value (.tuple #[])) w := by
  have h : (Builtin.delete_ #[64, 9] o.type #[.map none, encStr m]).run Tryz.prog w = .ok (.tuple #[]) w := Go.ChangeMaps.run_delete_nil Tryz.underlying64 Tryz.underlying9 _
  unfold execOp
  simp [ho, resolve, invoke, builtin, hx, hy, h, Result.andThen]
set_option maxRecDepth 100000 in
theorem getP_nil (w : World) (f : Nm) (hf : f.length ≤ maxLen) :
    Calls Tryz.prog 92 #[.agg #[.map none], encStr f] w fun e w' => e = .returned (.tuple #[.agg ([encStr [], encStr []] : List Value).toArray, .bool false]) ∧ Below w.heap.size w w' := by
  have hsz := szEP
  have h1 := oneEP
  go_enter Tryz.func92, Tryz.ntmps92
  go_wp2_with (first
    | ((with_reducible refine wl_box (o := ⟨some 2, _, _, _, _, _⟩) rfl 66 (.tmp 0) _ [.map none] rfl rfl rfl ?_); intro g3 w3 r3 p3 l3 b3)
    | ((with_reducible refine wl_alloc (o := ⟨some 4, _, _, _, _, _⟩) rfl 87 _ [encStr [], encStr []] rfl zeroEP rfl ?_); intro g4 w4 r4 p4 l4 b4; have r34 := r3.later b4; have B4 := b3.trans (b4.mono b3.size); have c0 := r34.cell (j := 0) rfl)
    | (with_reducible refine wl_run (o := ⟨some 12, _, _, _, _, _⟩) rfl (.tuple #[.agg ([encStr [], encStr []] : List Value).toArray, .bool false]) (look_nilP _ f hf _ _ (.tmp 10) (.tmp 11) rfl rfl rfl) ?_)
    | ((with_reducible refine wl_alloc (o := ⟨some 6, _, _, _, _, _⟩) rfl 87 _ [encStr [], encStr []] rfl zeroEP rfl ?_); intro g7 w6 r6 p6 l6 b6)
    | ((with_reducible refine wl_store_row rfl 87 (.tmp 6) (.tmp 13) g7 87 _ [encStr [], encStr []] rfl rfl rfl r6 hsz rfl h1 ?_); intro w7 r7 o7; have b7 := b6.trans ((o7.below p6).mono (Nat.le_refl _)); have B7 := B4.trans (b7.mono B4.size); have r47 := r4.later b7)
    | (with_reducible refine wl_load_row (o := ⟨some 15, _, _, _, _, _⟩) rfl 87 (.tmp 6) g7 87 [encStr [], encStr []] _ rfl rfl r7 Tryz.underlying87 rfl hsz ?_)
    | ((with_reducible refine wl_store_row rfl 87 (.tmp 4) (.tmp 15) g4 87 _ [encStr [], encStr []] rfl rfl rfl r47 hsz rfl h1 ?_); intro w8 r8 o8; have B8 := B7.trans ((o8.below (Nat.le_trans b3.size p4)).mono (Nat.le_refl _))))
  refine bodyPost_ret (v := .tuple #[.agg ([encStr [], encStr []] : List Value).toArray, .bool false]) ?_ rfl ⟨rfl, B8⟩
  exact results_rt2 Tryz.results92 _ _ g4 87 _ _ _ rfl r8 Tryz.underlying87 rfl hsz rfl
set_option maxRecDepth 100000 in
theorem cutP_nil (w : World) (f : Nm) (hf : f.length ≤ maxLen) :
    Calls Tryz.prog 94 #[.agg #[.map none], encStr f] w fun e w' => e = .returned (.bool false) ∧ Below w.heap.size w w' := by
  have hsz := szEP
  have h1 := oneEP
  go_enter Tryz.func94, Tryz.ntmps94
  go_wp2_with (first
    | ((with_reducible refine wl_box (o := ⟨some 2, _, _, _, _, _⟩) rfl 66 (.tmp 0) _ [.map none] rfl rfl rfl ?_); intro g3 w3 r3 p3 l3 b3; have c0 := r3.cell (j := 0) rfl)
    | (with_reducible refine wl_run (o := ⟨some 11, _, _, _, _, _⟩) rfl (.tuple #[.agg ([encStr [], encStr []] : List Value).toArray, .bool false]) (look_nilP _ f hf _ _ (.tmp 9) (.tmp 10) rfl rfl rfl) ?_)
    | ((with_reducible refine wl_alloc (o := ⟨some 5, _, _, _, _, _⟩) rfl 87 _ [encStr [], encStr []] rfl zeroEP rfl ?_); intro g7 w6 r6 p6 l6 b6)
    | ((with_reducible refine wl_store_row rfl 87 (.tmp 5) (.tmp 12) g7 87 _ [encStr [], encStr []] rfl rfl rfl r6 hsz rfl h1 ?_); intro w7 r7 o7; have b7 := b6.trans ((o7.below p6).mono (Nat.le_refl _)); have B7 := b3.trans (b7.mono b3.size); have r37 := r3.later b7; have c7 := r37.cell (j := 0) rfl)
    | (with_reducible refine wl_run (o := ⟨none, _, _, _, _, _⟩) rfl (.tuple #[]) (del_nilP _ f _ _ (.tmp 15) (.tmp 16) rfl rfl rfl) ?_))
  go_ret
  exact ⟨rfl, B7⟩

theorem zeroEU : (Tryz.prog.info? 113).map (fun i => i.zero) = some (some (.agg ([] : List Value).toArray)) := by kernel_rfl
theorem szEU : (Tryz.prog.info? 113).map (·.size) = some ([] : List Value).length := by kernel_rfl
theorem oneEU : ∀ u ∈ ([] : List Value), u.oneCell' = true := by simp [Value.oneCell', encStr]
theorem look_nilU (w : World) (m : Nm) (hm : m.length ≤ maxLen) (a : Act) (o : Oper) (x y : Operand) (ho : o.op = .lookup 67 x y true) (hx : a.eval x = .map none) (hy : a.eval y = encStr m) : (execOp a.eval o).run Tryz.prog w = .ok (.value (.tuple #[.agg ([] : List Value).toArray, .bool false])) w := by
  unfold execOp
  simp only [ho, hx, hy]
  go_simp
  rw [Go.Maps.look_nil true keyS Tryz.underlying67 (zeroU w) (keyOf_enc m hm)]
  rfl
theorem del_nilU (w : World) (m : Nm) (a : Act) (o : Oper) (x y : Operand) (ho : o.op = .call { callee := .builtin .delete, args := #[x, y], argTypes := #[67, 9] }) (hx : a.eval x = .map none) (hy : a.eval y = encStr m) : (execOp a.eval o).run Tryz.prog w = .ok (.value (.tuple #[])) w := by
  have h : (Builtin.delete_ #[67, 9] o.type #[.map none, encStr m]).run Tryz.prog w = .ok (.tuple #[]) w := Go.ChangeMaps.run_delete_nil Tryz.underlying67 Tryz.underlying9 _
  unfold execOp
  simp [ho, resolve, invoke, builtin, hx, hy, h, Result.andThen]
set_option maxRecDepth 100000 in
theorem getU_nil (w : World) (f : Nm) (hf : f.length ≤ maxLen) :
    Calls Tryz.prog 97 #[.agg #[.map none], encStr f] w fun e w' => e = .returned (.tuple #[.agg ([] : List Value).toArray, .bool false]) ∧ Below w.heap.size w w' := by
  have hsz := szEU
  have h1 := oneEU
  go_enter Tryz.func97, Tryz.ntmps97
  go_wp2_with (first
    | ((with_reducible refine wl_box (o := ⟨some 2, _, _, _, _, _⟩) rfl 69 (.tmp 0) _ [.map none] rfl rfl rfl ?_); intro g3 w3 r3 p3 l3 b3)
    | ((with_reducible refine wl_alloc (o := ⟨some 4, _, _, _, _, _⟩) rfl 113 _ [] rfl zeroEU rfl ?_); intro g4 w4 r4 p4 l4 b4; have r34 := r3.later b4; have B4 := b3.trans (b4.mono b3.size); have c0 := r34.cell (j := 0) rfl)
    | (with_reducible refine wl_run (o := ⟨some 12, _, _, _, _, _⟩) rfl (.tuple #[.agg ([] : List Value).toArray, .bool false]) (look_nilU _ f hf _ _ (.tmp 10) (.tmp 11) rfl rfl rfl) ?_)
    | ((with_reducible refine wl_alloc (o := ⟨some 6, _, _, _, _, _⟩) rfl 113 _ [] rfl zeroEU rfl ?_); intro g7 w6 r6 p6 l6 b6)
    | ((with_reducible refine wl_store_row rfl 113 (.tmp 6) (.tmp 13) g7 113 _ [] rfl rfl rfl r6 hsz rfl h1 ?_); intro w7 r7 o7; have b7 := b6.trans ((o7.below p6).mono (Nat.le_refl _)); have B7 := B4.trans (b7.mono B4.size); have r47 := r4.later b7)
    | (with_reducible refine wl_load_row (o := ⟨some 15, _, _, _, _, _⟩) rfl 113 (.tmp 6) g7 113 [] _ rfl rfl r7 Tryz.underlying113 rfl hsz ?_)
    | ((with_reducible refine wl_store_row rfl 113 (.tmp 4) (.tmp 15) g4 113 _ [] rfl rfl rfl r47 hsz rfl h1 ?_); intro w8 r8 o8; have B8 := B7.trans ((o8.below (Nat.le_trans b3.size p4)).mono (Nat.le_refl _))))
  refine bodyPost_ret (v := .tuple #[.agg ([] : List Value).toArray, .bool false]) ?_ rfl ⟨rfl, B8⟩
  exact results_rt2 Tryz.results97 _ _ g4 113 _ _ _ rfl r8 Tryz.underlying113 rfl hsz rfl
set_option maxRecDepth 100000 in
theorem cutU_nil (w : World) (f : Nm) (hf : f.length ≤ maxLen) :
    Calls Tryz.prog 96 #[.agg #[.map none], encStr f] w fun e w' => e = .returned (.bool false) ∧ Below w.heap.size w w' := by
  have hsz := szEU
  have h1 := oneEU
  go_enter Tryz.func96, Tryz.ntmps96
  go_wp2_with (first
    | ((with_reducible refine wl_box (o := ⟨some 2, _, _, _, _, _⟩) rfl 69 (.tmp 0) _ [.map none] rfl rfl rfl ?_); intro g3 w3 r3 p3 l3 b3; have c0 := r3.cell (j := 0) rfl)
    | (with_reducible refine wl_run (o := ⟨some 11, _, _, _, _, _⟩) rfl (.tuple #[.agg ([] : List Value).toArray, .bool false]) (look_nilU _ f hf _ _ (.tmp 9) (.tmp 10) rfl rfl rfl) ?_)
    | ((with_reducible refine wl_alloc (o := ⟨some 5, _, _, _, _, _⟩) rfl 113 _ [] rfl zeroEU rfl ?_); intro g7 w6 r6 p6 l6 b6)
    | ((with_reducible refine wl_store_row rfl 113 (.tmp 5) (.tmp 12) g7 113 _ [] rfl rfl rfl r6 hsz rfl h1 ?_); intro w7 r7 o7; have b7 := b6.trans ((o7.below p6).mono (Nat.le_refl _)); have B7 := b3.trans (b7.mono b3.size); have r37 := r3.later b7; have c7 := r37.cell (j := 0) rfl)
    | (with_reducible refine wl_run (o := ⟨none, _, _, _, _, _⟩) rfl (.tuple #[]) (del_nilU _ f _ _ (.tmp 15) (.tmp 16) rfl rfl rfl) ?_))
  go_ret
  exact ⟨rfl, B7⟩

section
variable (w : World) (v : Value) (k : Int) (t : Nm) (hm : Option Nat) (lv : Value) (sm : Option Nat) (zp : Value)
set_option maxRecDepth 100000 in
theorem text_ev (h : Held w v k t hm lv sm zp) :
    Calls Tryz.prog 34 #[v] w fun e w' => e = .returned (encStr t) ∧ Below w.heap.size w w' := by
  have HH := held_ev w v k t hm lv sm zp h
  have hf := fieldV1 k t hm lv sm zp
  go_enter Tryz.func34, Tryz.ntmps34
  go_wp2_with fail
  refine HH.mono ?_
  rintro e w1 ⟨rfl, b1⟩
  go_wp2_with fail
  go_ret
  exact ⟨rfl, b1⟩
set_option maxRecDepth 100000 in
theorem field_nil (f : Nm) (hf : f.length ≤ maxLen) (h : Held w v k t none lv sm zp) :
    Calls Tryz.prog 28 #[v, encStr f] w fun e w' => e = .returned (.tuple #[encStr [], .bool false]) ∧ Below w.heap.size w w' := by
  have HH := held_ev w v k t none lv sm zp h
  have hfl := fieldV2 k t none lv sm zp
  have hsz := szEP
  have h1 := oneEP
  go_enter Tryz.func28, Tryz.ntmps28
  go_wp2_with fail
  refine HH.mono ?_
  rintro e w1 ⟨rfl, b1⟩
  go_wp2_with fail
  refine (getP_nil w1 f hf).mono ?_
  rintro e w2 ⟨rfl, b2⟩
  have B2 := b1.trans (b2.mono b1.size)
  go_wp2_with (first
    | ((with_reducible refine wl_alloc (o := ⟨some 6, _, _, _, _, _⟩) rfl 87 _ [encStr [], encStr []] rfl zeroEP rfl ?_); intro g7 w6 r6 p6 l6 b6)
    | ((with_reducible refine wl_store_row rfl 87 (.tmp 6) (.tmp 14) g7 87 _ [encStr [], encStr []] rfl rfl rfl r6 hsz rfl h1 ?_); intro w7 r7 o7; have b7 := b6.trans ((o7.below p6).mono (Nat.le_refl _)); have c1 := r7.cell (j := 1) rfl))
  go_ret2
  exact ⟨rfl, B2.trans (b7.mono B2.size)⟩
set_option maxRecDepth 100000 in
theorem has_nil (f : Nm) (hf : f.length ≤ maxLen) (h : Held w v k t hm lv none zp) :
    Calls Tryz.prog 33 #[v, encStr f] w fun e w' => e = .returned (.bool false) ∧ Below w.heap.size w w' := by
  have HH := held_ev w v k t hm lv none zp h
  have hfl := fieldV4 k t hm lv none zp
  have hsz := szEU
  have h1 := oneEU
  go_enter Tryz.func33, Tryz.ntmps33
  go_wp2_with fail
  refine HH.mono ?_
  rintro e w1 ⟨rfl, b1⟩
  go_wp2_with fail
  refine (getU_nil w1 f hf).mono ?_
  rintro e w2 ⟨rfl, b2⟩
  have B2 := b1.trans (b2.mono b1.size)
  go_wp2_with (first
    | ((with_reducible refine wl_alloc (o := ⟨some 5, _, _, _, _, _⟩) rfl 113 _ [] rfl zeroEU rfl ?_); intro g7 w6 r6 p6 l6 b6)
    | ((with_reducible refine wl_store_row rfl 113 (.tmp 5) (.tmp 13) g7 113 _ [] rfl rfl rfl r6 hsz rfl h1 ?_); intro w7 r7 o7; have b7 := b6.trans ((o7.below p6).mono (Nat.le_refl _))))
  go_ret
  exact ⟨rfl, B2.trans (b7.mono B2.size)⟩
set_option maxRecDepth 100000 in
theorem cutField_nil (f : Nm) (hf : f.length ≤ maxLen) (h : Held w v k t none lv sm zp) :
    Calls Tryz.prog 30 #[v, encStr f] w fun e w' => e = .returned (.bool false) ∧ Below w.heap.size w w' := by
  have HH := held_ev w v k t none lv sm zp h
  have hfl := fieldV2 k t none lv sm zp
  go_enter Tryz.func30, Tryz.ntmps30
  go_wp2_with fail
  refine HH.mono ?_
  rintro e w1 ⟨rfl, b1⟩
  go_wp2_with fail
  refine (cutP_nil w1 f hf).mono ?_
  rintro e w2 ⟨rfl, b2⟩
  go_wp2_with fail
  go_ret
  exact ⟨rfl, b1.trans (b2.mono b1.size)⟩
set_option maxRecDepth 100000 in
theorem cut_nil (f : Nm) (hf : f.length ≤ maxLen) (h : Held w v k t hm lv none zp) :
    Calls Tryz.prog 32 #[v, encStr f] w fun e w' => e = .returned (.bool false) ∧ Below w.heap.size w w' := by
  have HH := held_ev w v k t hm lv none zp h
  have hfl := fieldV4 k t hm lv none zp
  go_enter Tryz.func32, Tryz.ntmps32
  go_wp2_with fail
  refine HH.mono ?_
  rintro e w1 ⟨rfl, b1⟩
  go_wp2_with fail
  refine (cutU_nil w1 f hf).mono ?_
  rintro e w2 ⟨rfl, b2⟩
  go_wp2_with fail
  go_ret
  exact ⟨rfl, b1.trans (b2.mono b1.size)⟩
set_option maxRecDepth 100000 in
theorem setField_no (f s : Value) (h : Held w v k t hm lv sm zp) (hk : k ≠ 2) :
    Calls Tryz.prog 29 #[v, f, s] w fun e w' => e = .returned (.bool false) ∧ Below w.heap.size w w' := by
  have HH := kind_ev w v k t hm lv sm zp h
  have e1 : decide (k = 2) = false := decide_eq_false hk
  have f1 : (k == 2) = false := beq_eq_false_iff_ne.2 hk
  go_enter Tryz.func29, Tryz.ntmps29
  go_wp2_with fail
  refine HH.mono ?_
  rintro e w1 ⟨rfl, b1⟩
  go_wp2_with fail
  go_ret
  exact ⟨rfl, b1⟩
set_option maxRecDepth 100000 in
theorem add_no (f : Value) (h : Held w v k t hm lv sm zp) (hk : k ≠ 4) :
    Calls Tryz.prog 31 #[v, f] w fun e w' => e = .returned (.bool false) ∧ Below w.heap.size w w' := by
  have HH := kind_ev w v k t hm lv sm zp h
  have e1 : decide (k = 4) = false := decide_eq_false hk
  have f1 : (k == 4) = false := beq_eq_false_iff_ne.2 hk
  go_enter Tryz.func31, Tryz.ntmps31
  go_wp2_with fail
  refine HH.mono ?_
  rintro e w1 ⟨rfl, b1⟩
  go_wp2_with fail
  go_ret
  exact ⟨rfl, b1⟩
end
set_option maxRecDepth 100000 in
theorem clone_no (w : World) (v : Value) (t : Nm) (hm : Option Nat) (lv : Value) (sm : Option Nat) (zp : Value) (h : Held w v 0 t hm lv sm zp) :
    Calls Tryz.prog 23 #[v] w fun e w' => e = .returned nilP ∧ Below w.heap.size w w' := by
  have HH := held_ev w v 0 t hm lv sm zp h
  have hsz := szVv 0 t hm lv sm zp
  have h1 := hide h.one
  go_enter Tryz.func23, Tryz.ntmps23
  go_wp2_with fail
  refine HH.mono ?_
  rintro e w1 ⟨rfl, b1⟩
  go_wp2_with (first
    | ((with_reducible refine wl_alloc (o := ⟨some 3, _, _, _, _, _⟩) rfl 72 _ (vC 0 [] none nilS none nilP) rfl zeroVv rfl ?_); intro g3 w3 r3 p3 l3 b3)
    | ((with_reducible refine wl_store_row rfl 72 (.tmp 3) (.tmp 5) g3 72 _ (vC 0 t hm lv sm zp) rfl rfl rfl r3 hsz rfl h1.out ?_); intro w4 r4 o4; have b4 := b3.trans ((o4.below p3).mono (Nat.le_refl _)); have c0 := r4.cell (j := 0) rfl))
  go_ret
  exact ⟨rfl, b1.trans (b4.mono b1.size)⟩
theorem wl_rangeN {P : Program} {ops : Array Oper} {rest : List Oper} {o : Oper} {a : Act} {w : World} {Q : Exit → Act → World → Prop} (hgd : o.guard = none) (t k e : TypeId) (x : Operand) (ho : o.op = .range t x) (ht : P.underlying t = some (.map k e)) (hx : a.eval x = .map none)
    (hk : ∀ w', w' = w.alloc (.mapIter none 0 #[] 0) → Below w.heap.size w w' → wpList P ops Q rest (a.put o.dst (.pointer (some ⟨w.heap.size, 0, none⟩))) w') : wpList P ops Q (o :: rest) a w :=
  wpList_plain hgd fun K hK => by
    unfold Oper.wp
    simp [execOp, ho, hx, Go.run_range_nilMap w t k e ht, Result.andThen]
    exact hK _ _ (hk _ rfl ((Below.refl _ _).alloc (Nat.le_refl _) _))
theorem run_nextN {P : Program} {w : World} {a : Act} {o : Oper} (x : Operand) (w0 : World) (ho : o.op = .next x false) (hx : a.eval x = .pointer (some ⟨w0.heap.size, 0, none⟩)) (hw : w = w0.alloc (.mapIter none 0 #[] 0)) : (execOp a.eval o).run P w = .ok (.value (.tuple #[.bool false])) w := by
  subst hw
  unfold execOp
  simp only [ho, hx]
  simp [Go.run_next_nilMap, Result.andThen]
set_option maxRecDepth 100000 in
theorem textsP_nil (w : World) :
    Calls Tryz.prog 91 #[.agg #[.map none]] w fun e w' => e = .returned nilS ∧ Below w.heap.size w w' := by
  go_enter Tryz.func91, Tryz.ntmps91
  go_wp2_with (first
    | ((with_reducible refine wl_box (o := ⟨some 1, _, _, _, _, _⟩) rfl 66 (.tmp 0) _ [.map none] rfl rfl rfl ?_); intro g1 wb r1 p1 l1 b1; have c1 := r1.cell (j := 0) rfl)
    | ((with_reducible refine wl_rangeN (o := ⟨some 7, _, _, _, _, _⟩) rfl 64 9 87 (.tmp 6) rfl Tryz.underlying64 rfl ?_); intro w2 e2 b2))
  go_frame
  go_loopw [3] (fun v wr => v = nilS ∧ wr = w2) (fun _ _ => 0)
  case atStart => exact ⟨rfl, rfl⟩
  case round =>
    obtain ⟨rfl, rfl⟩ := hrel
    go_wp2_with (first
      | (with_reducible refine wl_run (o := ⟨some 8, _, _, _, _, _⟩) rfl (.tuple #[.bool false]) (run_nextN (.tmp 7) wb rfl rfl e2) ?_))
    refine (sortNil _).mono ?_
    rintro e w3 ⟨rfl, rfl⟩
    go_wp2_with fail
    go_ret
    refine ⟨rfl, b1.trans (Below.mono ?_ b1.size)⟩
    rw [← e2]; exact b2
end Go.Proofs.YtpbkejmffddelaaGreat

/-
  No value as plain data; its length. Own work.
-/
namespace Go.Proofs.YtpbkejmffddelaaGreat
open Go.RowKit Go.Shelf Go.Maps
abbrev plC0 : List Value := [.int .i64 0, encStr [], nilS, nilS, nilS]
theorem onePl0 : ∀ u ∈ plC0, u.oneCell' = true := by simp [Value.oneCell', encStr]
def SLn0 (g3 : Nat) (mT mN : List Value) (opn : Nat) (v : Value) : Prop :=
  match opn with
  | 0 => v = .pointer (some ⟨g3, 1, none⟩)
  | 1 => v = encStr []
  | 2 | 5 | 6 | 9 | 10 | 13 | 14 | 17 | 18 | 19 => v = .int .i64 0
  | 3 => v = .pointer (some ⟨g3, 2, none⟩)
  | 4 => v = .agg mT.toArray
  | 7 => v = .pointer (some ⟨g3, 3, none⟩)
  | 8 => v = nilS
  | 11 => v = .pointer (some ⟨g3, 4, none⟩)
  | 12 => v = .agg mN.toArray
  | 15 => v = .pointer (some ⟨g3, 5, none⟩)
  | 16 => v = nilP
  | _ => True

set_option maxRecDepth 100000 in
set_option maxHeartbeats 1000000 in
theorem len_none (w : World) (v : Value) (hH : Held w v 0 [] none nilS none nilP) :
    Calls Tryz.prog 35 #[v] w fun e w' => e = .returned (.int .i64 0) ∧ Below w.heap.size w w' := by
  have hsz := szVv 0 [] none nilS none nilP
  have h1 := hide (one0 0)
  have ha2 := hide (show IntKind.i64.wrap ((0 : Int) + 0) = (0 : Int) from by decide)
  go_enter Tryz.func35, Tryz.ntmps35
  go_wp2_with fail
  refine (held_ev w v _ _ _ _ _ _ hH).mono ?_
  rintro e w1 ⟨rfl, b1⟩
  go_wp2_with (first
    | ((with_reducible refine wl_alloc (o := ⟨some 3, _, _, _, _, _⟩) rfl 72 _ (vC 0 [] none nilS none nilP) rfl zeroVv rfl ?_); intro g3 w3 r3 p3 l3 b3)
    | ((with_reducible refine wl_store_row rfl 72 (.tmp 3) (.tmp 5) g3 72 _ (vC 0 [] none nilS none nilP) rfl rfl rfl r3 hsz rfl h1.out ?_); intro w4 r4 o4; have b4 := b3.trans ((o4.below p3).mono (Nat.le_refl _))))
  have B4 := b1.trans (b4.mono b1.size)
  clear r3
  have r3 : Row w4 TV g3 (vC 0 [] none nilS none nilP) := r4
  refine wp_region_vals [5, 13, 17] (SLn0 g3 [.map none] [.map none]) (fun _ _ wz => Below w4.heap.size w4 wz) (by kernel_rfl) (by kernel_rfl) (by kernel_rfl) (by kernel_rfl) (by kernel_rfl) ((Below.refl _ _).drew) ?obs2 ?he2
  case obs2 =>
    refine ⟨?_, ?_, ?_, ?_, ?_, ?_, ?_, ?_, ?_, ?_, ?_, ?_, ?_, ?_, ?_, ?_, ?_, ?_, ?_, ?_, trivial⟩
    · refine .inl ⟨by kernel_rfl, fun L a1 w1 n h => ⟨.pointer (some ⟨g3, 1, none⟩), rfl, ?_⟩⟩
      have e0 : a1.eval (.tmp 3) = _ := h.var n 3 (by kernel_rfl)
      unfold execOp
      simp only [e0]
      go_simp
    · exact .inl ⟨by kernel_rfl, fun L a1 w1 n h => ⟨_, rfl, run_load1 9 (.tmp 6) g3 1 _ rfl Tryz.isAgg9 (h.dep n 0 6 (by kernel_rfl) rfl) ((r3.later h.inv).cell rfl)⟩⟩
    · exact .inl ⟨by kernel_rfl, fun L a1 w1 n h => ⟨_, rfl, run_lenStr 9 (.tmp 7) _ rfl Tryz.underlying9 (h.dep n 1 7 (by kernel_rfl) rfl)⟩⟩
    · refine .inl ⟨by kernel_rfl, fun L a1 w1 n h => ⟨.pointer (some ⟨g3, 2, none⟩), rfl, ?_⟩⟩
      have e0 : a1.eval (.tmp 3) = _ := h.var n 3 (by kernel_rfl)
      unfold execOp
      simp only [e0]
      go_simp
    · exact .inl ⟨by kernel_rfl, fun L a1 w1 n h => ⟨_, rfl, run_loadP TTP (.tmp 9) g3 2 TV [.int .i64 0, encStr []] [.map none] [nilS, .map none, nilP] _ rfl (h.dep n 3 9 (by kernel_rfl) rfl) (r3.later h.inv) rfl undTP rfl (by kernel_rfl)⟩⟩
    · refine .inr fun L a1 w1 n h K hK => ?_
      have e0 : a1.eval (.tmp 10) = .agg #[.map none] := h.dep n 4 10 (by kernel_rfl) rfl
      refine st_call 98 _ _ #[.agg #[.map none]] rfl Tryz.call98 ?_ (lenP_no w1) ?_
      · simp only [List.map_toArray, List.map_cons, List.map_nil, e0]
      · rintro e w3 ⟨rfl, b9⟩
        exact ⟨_, rfl, hK _ w3 rfl (h.inv.trans (b9.mono h.inv.size))⟩
    · exact .inl ⟨by kernel_rfl, fun L a1 w1 n h => ⟨_, rfl, run_addZ (.tmp 8) (.tmp 11) rfl (h.dep n 2 8 (by kernel_rfl) rfl) (h.dep n 5 11 (by kernel_rfl) rfl) ha2.out⟩⟩
    · refine .inl ⟨by kernel_rfl, fun L a1 w1 n h => ⟨.pointer (some ⟨g3, 3, none⟩), rfl, ?_⟩⟩
      have e0 : a1.eval (.tmp 3) = _ := h.var n 3 (by kernel_rfl)
      unfold execOp
      simp only [e0]
      go_simp
    · exact .inl ⟨by kernel_rfl, fun L a1 w1 n h => ⟨_, rfl, run_load1 23 (.tmp 13) g3 3 _ rfl Tryz.isAgg23 (h.dep n 7 13 (by kernel_rfl) rfl) ((r3.later h.inv).cell rfl)⟩⟩
    · exact .inl ⟨by kernel_rfl, fun L a1 w1 n h => ⟨_, rfl, run_lenSl 23 (.tmp 14) none 0 0 rfl ⟨_, Tryz.underlying23⟩ (h.dep n 8 14 (by kernel_rfl) rfl)⟩⟩
    · exact .inl ⟨by kernel_rfl, fun L a1 w1 n h => ⟨_, rfl, run_addZ (.tmp 12) (.tmp 15) rfl (h.dep n 6 12 (by kernel_rfl) rfl) (h.dep n 9 15 (by kernel_rfl) rfl) ha2.out⟩⟩
    · refine .inl ⟨by kernel_rfl, fun L a1 w1 n h => ⟨.pointer (some ⟨g3, 4, none⟩), rfl, ?_⟩⟩
      have e0 : a1.eval (.tmp 3) = _ := h.var n 3 (by kernel_rfl)
      unfold execOp
      simp only [e0]
      go_simp
    · exact .inl ⟨by kernel_rfl, fun L a1 w1 n h => ⟨_, rfl, run_loadP TTU (.tmp 17) g3 4 TV [.int .i64 0, encStr [], .map none, nilS] [.map none] [nilP] _ rfl (h.dep n 11 17 (by kernel_rfl) rfl) (r3.later h.inv) rfl undTU rfl (by kernel_rfl)⟩⟩
    · refine .inr fun L a1 w1 n h K hK => ?_
      have e0 : a1.eval (.tmp 18) = .agg #[.map none] := h.dep n 12 18 (by kernel_rfl) rfl
      refine st_call 99 _ _ #[.agg #[.map none]] rfl Tryz.call99 ?_ (lenU_no w1) ?_
      · simp only [List.map_toArray, List.map_cons, List.map_nil, e0]
      · rintro e w3 ⟨rfl, b9⟩
        exact ⟨_, rfl, hK _ w3 rfl (h.inv.trans (b9.mono h.inv.size))⟩
    · exact .inl ⟨by kernel_rfl, fun L a1 w1 n h => ⟨_, rfl, run_addZ (.tmp 16) (.tmp 19) rfl (h.dep n 10 16 (by kernel_rfl) rfl) (h.dep n 13 19 (by kernel_rfl) rfl) ha2.out⟩⟩
    · refine .inl ⟨by kernel_rfl, fun L a1 w1 n h => ⟨.pointer (some ⟨g3, 5, none⟩), rfl, ?_⟩⟩
      have e0 : a1.eval (.tmp 3) = _ := h.var n 3 (by kernel_rfl)
      unfold execOp
      simp only [e0]
      go_simp
    · exact .inl ⟨by kernel_rfl, fun L a1 w1 n h => ⟨_, rfl, run_load1 70 (.tmp 21) g3 5 _ rfl Tryz.isAgg70 (h.dep n 15 21 (by kernel_rfl) rfl) ((r3.later h.inv).cell rfl)⟩⟩
    · refine .inr fun L a1 w1 n h K hK => ?_
      have e0 : a1.eval (.tmp 22) = nilP := h.dep n 16 22 (by kernel_rfl) rfl
      refine st_call 90 _ _ #[nilP] rfl Tryz.call90 ?_ (len_no w1 nilP (.inl rfl)) ?_
      · simp only [List.map_toArray, List.map_cons, List.map_nil, e0]
      · rintro e w3 ⟨rfl, h9⟩
        exact ⟨_, rfl, hK _ w3 rfl (by rw [← h9]; exact h.inv)⟩
    · exact .inl ⟨by kernel_rfl, fun L a1 w1 n h => ⟨_, rfl, run_addZ (.tmp 20) (.tmp 23) rfl (h.dep n 14 20 (by kernel_rfl) rfl) (h.dep n 17 23 (by kernel_rfl) rfl) ha2.out⟩⟩
    · exact .inl ⟨by kernel_rfl, fun L a1 w1 n h => ⟨_, rfl, run_assign (.tmp 24) rfl (h.dep n 18 24 (by kernel_rfl) rfl)⟩⟩
  case he2 =>
    intro V w9 hV hJ
    have b9 : Below w4.heap.size w4 w9 := hJ
    have hE : V 19 = .int .i64 0 := hV 19 _ rfl
    clear hV hJ
    simp only [putOps, List.setIfInBounds_toArray, List.set_cons_succ, List.set_cons_zero, Nat.reduceAdd]
    rw [hE]
    go_wp2_with fail
    go_ret
    exact ⟨rfl, B4.trans (b9.mono B4.size)⟩
def SPl0 (vv : Value) (g3 : Nat) (opn : Nat) (v : Value) : Prop :=
  match opn with
  | 0 => v = .pointer (some ⟨g3, 0, none⟩)
  | 1 | 10 => v = .int .i64 0
  | 2 => v = .pointer (some ⟨g3, 1, none⟩)
  | 3 => v = encStr []
  | 4 => v = vv
  | 5 | 11 => v = nilS
  | 6 | 8 => v = .pointer (some ⟨g3, 5, none⟩)
  | 7 | 9 => v = nilP
  | 12 => v = .agg plC0.toArray
  | _ => True

set_option maxRecDepth 100000 in
set_option maxHeartbeats 4000000 in
theorem plain_none (w : World) (vv : Value) (hH : Held w vv 0 [] none nilS none nilP) :
    Calls Tryz.prog 25 #[vv] w fun e w' => e = .returned (vlV ⟨0, [], [], [], []⟩ nilS nilS nilS) ∧ Below w.heap.size w w' := by
  have hsz := szVv 0 [] none nilS none nilP
  have h1 := hide (one0 0)
  go_enter Tryz.func25, Tryz.ntmps25
  go_wp2_with (first
    | ((with_reducible refine wl_alloc (o := ⟨some 2, _, _, _, _, _⟩) rfl 26 _ [.int .i64 0, encStr [], nilS, nilS, nilS] rfl zeroVl rfl ?_); intro g2 w1 r2 p2 l2 b2))
  refine (held_ev w1 vv _ _ _ _ _ _ (hH.later b2)).mono ?_
  rintro e w2 ⟨rfl, b1⟩
  have B2 := b2.trans (b1.mono b2.size)
  have r22 := r2.later b1
  go_wp2_with (first
    | ((with_reducible refine wl_alloc (o := ⟨some 3, _, _, _, _, _⟩) rfl 72 _ (vC 0 [] none nilS none nilP) rfl zeroVv rfl ?_); intro g3 w3 r3 p3 l3 b3)
    | ((with_reducible refine wl_store_row rfl 72 (.tmp 3) (.tmp 10) g3 72 _ (vC 0 [] none nilS none nilP) rfl rfl rfl r3 hsz rfl h1.out ?_); intro w4 r4 o4; have b4 := b3.trans ((o4.below p3).mono (Nat.le_refl _))))
  rename_i K6 hK6
  have B4 := B2.trans (b4.mono B2.size)
  have r24 := r22.later b4
  replace hH := hH.later B4
  have r3 := r4
  have hg3lt := r4.lt
  have hg2lt := r24.lt
  have hg2' := p2
  have p3' : w.heap.size ≤ g3 := Nat.le_trans B2.size p3
  refine wp_region_vals [5, 10, 11, 13, 14] (SPl0 vv g3) (JA w4 26 [.int .i64 0, encStr [], nilS, nilS, nilS] plC0 3 4) (by kernel_rfl) (by kernel_rfl) (by kernel_rfl) (by kernel_rfl) (by kernel_rfl) ⟨(Below.refl _ _).drew, fun h => absurd h (by decide)⟩ ?obs2 ?he2
  case obs2 =>
    refine ⟨?_, ?_, ?_, ?_, ?_, ?_, ?_, ?_, ?_, ?_, ?_, ?_, ?_, ?_, ?_, trivial⟩
    · refine .inl ⟨by kernel_rfl, fun L a1 w1 n h => ⟨.pointer (some ⟨g3, 0, none⟩), rfl, ?_⟩⟩
      have e0 : a1.eval (.tmp 3) = _ := h.var n 3 (by kernel_rfl)
      unfold execOp
      simp only [e0]
      go_simp
    · exact .inl ⟨by kernel_rfl, fun L a1 w1 n h => ⟨_, rfl, run_load1 3 (.tmp 11) g3 0 _ rfl Tryz.isAgg3 (h.dep n 0 11 (by kernel_rfl) rfl) ((r3.later h.inv.1).cell rfl)⟩⟩
    · refine .inl ⟨by kernel_rfl, fun L a1 w1 n h => ⟨.pointer (some ⟨g3, 1, none⟩), rfl, ?_⟩⟩
      have e0 : a1.eval (.tmp 3) = _ := h.var n 3 (by kernel_rfl)
      unfold execOp
      simp only [e0]
      go_simp
    · exact .inl ⟨by kernel_rfl, fun L a1 w1 n h => ⟨_, rfl, run_load1 9 (.tmp 13) g3 1 _ rfl Tryz.isAgg9 (h.dep n 2 13 (by kernel_rfl) rfl) ((r3.later h.inv.1).cell rfl)⟩⟩
    · exact .inl ⟨by kernel_rfl, fun L a1 w1 n h => ⟨_, rfl, run_move (.tmp 0) rfl (h.var n 0 (by kernel_rfl))⟩⟩
    · refine .inr fun L a1 w1 n h K hK => ?_
      have e0 : a1.eval (.tmp 15) = vv := h.dep n 4 15 (by kernel_rfl) rfl
      refine st_call 37 _ _ #[vv] rfl Tryz.call37 ?_ (items_h w1 vv 0 [] none none nilP (hH.later h.inv.1) (by decide)) ?_
      · simp only [List.map_toArray, List.map_cons, List.map_nil, e0]
      · rintro e w3 ⟨rfl, b9⟩
        exact ⟨_, rfl, hK _ w3 rfl (JA.grow h.inv b9 rfl rfl rfl)⟩
    · refine .inl ⟨by kernel_rfl, fun L a1 w1 n h => ⟨.pointer (some ⟨g3, 5, none⟩), rfl, ?_⟩⟩
      have e0 : a1.eval (.tmp 3) = _ := h.var n 3 (by kernel_rfl)
      unfold execOp
      simp only [e0]
      go_simp
    · exact .inl ⟨by kernel_rfl, fun L a1 w1 n h => ⟨_, rfl, run_load1 70 (.tmp 17) g3 5 _ rfl Tryz.isAgg70 (h.dep n 6 17 (by kernel_rfl) rfl) ((r3.later h.inv.1).cell rfl)⟩⟩
    · refine .inl ⟨by kernel_rfl, fun L a1 w1 n h => ⟨.pointer (some ⟨g3, 5, none⟩), rfl, ?_⟩⟩
      have e0 : a1.eval (.tmp 3) = _ := h.var n 3 (by kernel_rfl)
      unfold execOp
      simp only [e0]
      go_simp
    · exact .inl ⟨by kernel_rfl, fun L a1 w1 n h => ⟨_, rfl, run_load1 70 (.tmp 19) g3 5 _ rfl Tryz.isAgg70 (h.dep n 8 19 (by kernel_rfl) rfl) ((r3.later h.inv.1).cell rfl)⟩⟩
    · refine .inr fun L a1 w1 n h K hK => ?_
      have e0 : a1.eval (.tmp 20) = nilP := h.dep n 9 20 (by kernel_rfl) rfl
      refine st_call 90 _ _ #[nilP] rfl Tryz.call90 ?_ (len_no w1 nilP (.inl rfl)) ?_
      · simp only [List.map_toArray, List.map_cons, List.map_nil, e0]
      · rintro e w3 ⟨rfl, h9⟩
        exact ⟨_, rfl, hK _ w3 rfl (JA.grow h.inv (by rw [← h9]; exact Below.refl _ _) rfl rfl rfl)⟩
    · refine .inr fun L a1 w1 n h K hK => ?_
      have e0 : a1.eval (.tmp 18) = nilP := h.dep n 7 18 (by kernel_rfl) rfl
      have e2 : a1.eval (.tmp 21) = .int .i64 0 := h.dep n 10 21 (by kernel_rfl) rfl
      refine st_call 89 _ _ #[nilP, .int .i64 0, .int .i64 0] rfl Tryz.call89 ?_ (range_nos w1 nilP 0 0 (.inl rfl)) ?_
      · simp only [List.map_toArray, List.map_cons, List.map_nil, e0, e2]; rfl
      · rintro e w3 ⟨rfl, b9⟩
        exact ⟨_, rfl, hK _ w3 rfl (JA.grow h.inv b9 rfl rfl rfl)⟩
    · refine .inl ⟨by kernel_rfl, fun L a1 w1 n h => ⟨.agg plC0.toArray, rfl, ?_⟩⟩
      have e0 : a1.eval (.tmp 12) = _ := h.dep n 1 12 (by kernel_rfl) rfl
      have e1 : a1.eval (.tmp 14) = _ := h.dep n 3 14 (by kernel_rfl) rfl
      have e2 : a1.eval (.tmp 16) = _ := h.dep n 5 16 (by kernel_rfl) rfl
      have e3 : a1.eval (.tmp 22) = _ := h.dep n 11 22 (by kernel_rfl) rfl
      exact run_buildX 26 [(0, .tmp 12), (1, .tmp 14), (3, .tmp 16), (4, .tmp 22)] rfl [(0, .int .i64 0), (1, encStr []), (3, nilS), (4, nilS)] (by simp only [List.map_cons, List.map_nil, e0, e1, e2, e3]) _ (builtPl 0 [] none none 0 0 0 0)
    · refine .inr fun L a1 w1 n h K hK => ?_
      have no : L.getD 14 false = false := n.later (by kernel_rfl)
      refine st_alloc 26 _ _ rfl zeroVl rfl ?_
      intro g7 w3 r7 a7 l7 b7
      exact hK _ _ trivial (JA.made h.inv b7 r7 a7 rfl no)
    · refine .inr fun L a1 w1 n h K hK => ?_
      have yes : L.getD 13 false = true := n.dep (by kernel_rfl)
      have no : L.getD 14 false = false := n.not_yet
      obtain ⟨g7, p7, n7, r7⟩ := h.inv.2 yes
      have r7' : Row w1 26 g7 (bif L.getD 14 false then plC0 else _) := r7
      rw [no, cond_false] at r7'
      refine st_store_row 26 (.tmp 4) (.tmp 23) g7 26 _ (plC0) rfl p7 (h.dep n 12 23 (by kernel_rfl) rfl) r7' (szVl ⟨0, [], [], [], []⟩ nilS nilS nilS) (rfl) (onePl0) ?_
      intro w3 r3 o3
      exact hK undef w3 trivial (JA.filled h.inv o3 n7 r3 p7 rfl)
  case he2 =>
    intro V w5 hV hJ
    obtain ⟨g4, e4, p4, r4⟩ := hJ.2 rfl
    have e4 : V 13 = ptr g4 := e4
    have r4 : Row w5 26 g4 plC0 := r4
    have b5 : Below w4.heap.size w4 w5 := hJ.1
    clear hV hJ
    simp only [putOps, List.setIfInBounds_toArray, List.set_cons_succ, List.set_cons_zero, Nat.reduceAdd]
    rw [e4]
    refine hK6 _ _ ?_
    have B5 := B4.trans (b5.mono B4.size)
    have r25 := r24.later b5
    have r35 : Row w5 TV g3 ([.int .i64 0, encStr []] ++ ([.map none] ++ [nilS, .map none, nilP])) := r3.later b5
    generalize V 0 = v0
    generalize V 1 = v1
    generalize V 2 = v2
    generalize V 3 = v3
    generalize V 4 = v4
    generalize V 5 = v5
    generalize V 6 = v6
    generalize V 7 = v7
    generalize V 8 = v8
    generalize V 9 = v9
    generalize V 10 = v10
    generalize V 11 = v11
    generalize V 12 = v12
    clear e4 r2 r22 r3 b2 b1 b3 b4
    go_wp2_with (first
      | (with_reducible refine wl_load_part (o := ⟨some 25, _, _, _, _, _⟩) rfl 66 (.tmp 24) g3 2 72 [.int .i64 0, encStr []] [.map none] [nilS, .map none, nilP] _ rfl rfl r35 rfl Tryz.underlying66 rfl (by kernel_rfl) ?_))
    refine (textsP_nil w5).mono ?_
    rintro e w6 ⟨rfl, b6⟩
    have B6 := B5.trans (b6.mono B5.size)
    have r26 := r25.later b6
    have r46 := r4.later b6
    go_wp2_with fail
    go_loopw [28] (fun iv wr => iv = .int .i64 0 ∧ wr = w6) (fun iv _ => 0)
    case atStart => exact ⟨rfl, rfl⟩
    case round =>
      obtain ⟨rfl, rfl⟩ := hrel
      go_wp2_with (first
        | (with_reducible refine wl_load_row (o := ⟨some 46, _, _, _, _, _⟩) rfl 26 (.tmp 4) g4 26 plC0 _ rfl rfl r46 Tryz.underlying26 rfl (by kernel_rfl) ?_)
        | ((with_reducible refine wl_store_row rfl 26 (.tmp 2) (.tmp 46) g2 26 _ plC0 rfl rfl rfl r26 (by kernel_rfl) rfl onePl0 ?_); intro w7 r7 o7))
      refine bodyPost_ret (v := .agg plC0.toArray) ?_ rfl ⟨rfl, B6.trans ((o7.below hg2').mono (Nat.le_refl _))⟩
      exact results_cell_row Tryz.results25 _ _ g2 26 _ (0, 0) _ rfl r7 Tryz.underlying26 rfl (by kernel_rfl)
end Go.Proofs.YtpbkejmffddelaaGreat

/-
  The law ValueNobody. Own work.
-/
namespace Go.Proofs.YtpbkejmffddelaaGreat
open Go.RowKit Go.Shelf Go.Maps
theorem actI : ∃ i, Tryz.prog.info? 54 = some i ∧ i.zero = some (.agg [.int .u8 0, encStr [], encStr [], .int .i64 0, nilS].toArray) ∧ i.size = 5 ∧ i.bytes = 72 :=
  info_partsV (show (Tryz.prog.info? 54).map (fun i => (i.zero, i.size, i.bytes)) = some (some (.agg [.int .u8 0, encStr [], encStr [], .int .i64 0, nilS].toArray), 5, 72) by kernel_rfl)
theorem vpI : ∃ i, Tryz.prog.info? 48 = some i ∧ i.zero = some (.pointer none) ∧ i.size = 1 ∧ i.bytes = 8 :=
  info_partsV (show (Tryz.prog.info? 48).map (fun i => (i.zero, i.size, i.bytes)) = some (some (.pointer none), 1, 8) by kernel_rfl)
theorem builtVlZ : Tryz.prog.built 26 [] = some plC0.toArray := by kernel_rfl
theorem szAct (a : VA) (lv : Value) : (Tryz.prog.info? 54).map (·.size) = some (a.cells lv).length := by kernel_rfl
theorem Row.acts1 {w : World} {g : Nat} {a : VA} {lv : Value} (h : Row w 54 g (a.cells lv)) (hl : SlV cS 1 w w.heap.size lv a.l) : VActs w w.heap.size (.slice (some ⟨g, 0, none⟩) 1 1) [a] := by
  refine ⟨_, 1, rfl, fun _ => ⟨g, 0, rfl, h.lt, fun i x hi => ?_⟩⟩
  match i with
  | 0 =>
    obtain rfl : a = x := by simpa using hi
    refine ⟨lv, hl, fun j u hj => ?_⟩
    rw [show 0 + 0 * 5 + j = j by omega]
    exact h.cell hj
  | k + 1 => simp at hi
abbrev x00 : Vl := ⟨0, [], [], [], []⟩
theorem x00_fits : x00.Fits := ⟨by decide, by decide, by decide, by decide⟩
set_option maxRecDepth 100000 in
set_option maxHeartbeats 4000000 in
theorem valueNobody_any (w : World) (a : VA) (lv : Value) (hl : SlV cS 1 w w.heap.size lv a.l) (ha : a.a.length ≤ 140737488355328 ∧ a.b.length ≤ 140737488355328) :
    Calls Tryz.prog 8 #[.agg (a.cells lv).toArray] w fun e w' => e = .returned (.bool true) ∧ Below w.heap.size w w' := by
  have HA := awake_any
  obtain ⟨ia, hia, hiz, his, hib⟩ := actI
  obtain ⟨ip, hip, hpz, hps, hpb⟩ := vpI
  have hb0 := builtVv0
  have h05 : 0 < 5 := by decide
  obtain ⟨LA, LC, rfl⟩ := hl.sl
  have hsz := szAct a (.slice LA a.l.length LC)
  go_enter Tryz.func8, Tryz.ntmps8
  go_wp2_with (first
    | ((with_reducible refine wl_box (o := ⟨some 1, _, _, _, _, _⟩) rfl 54 (.tmp 0) _ (a.cells (.slice LA a.l.length LC)) rfl rfl rfl ?_); intro g1 w1 r1 p1 l1 b1)
    | (with_reducible refine wl_load_row (o := ⟨some 8, _, _, _, _, _⟩) rfl 54 (.tmp 1) g1 54 (a.cells (.slice LA a.l.length LC)) _ rfl rfl r1 Tryz.underlying54 rfl hsz ?_)
    | ((with_reducible refine wl_build1B (o := ⟨some 9, _, _, _, _, _⟩) rfl 47 (.tmp 8) rfl 54 ia _ (a.cells (.slice LA a.l.length LC)) 5 Tryz.underlying47 hia hiz rfl his rfl h05 (by decide) rfl ?_); intro g9 w2 r9 p9 l9 b9))
  have B2 := b1.trans (b9.mono b1.size)
  refine (few_any w2 _ [a] (Row.acts1 r9 (hl.later B2)) (by intro x hx; simp only [List.mem_singleton] at hx; subst hx; exact ha)).mono ?_
  rintro e w3 ⟨⟨b, rfl, hfew⟩, b3⟩
  have B3 := B2.trans (b3.mono B2.size)
  cases b with
  | false =>
    go_wp2_with fail
    refine (HA w3).mono ?_
    rintro e w5 ⟨rfl, b5⟩
    go_wp2_with fail
    go_ret
    exact ⟨rfl, B3.trans (b5.mono B3.size)⟩
  | true =>
    have hab := ((hfew rfl).2 a (List.mem_singleton.2 rfl)).1
    have hA : a.a.length ≤ maxLen := by simp only [maxLen]; omega
    have hA2 := hide hA
    have r13 := (r1.later b9).later b3
    clear hfew hab hA r1 r9 ha hl
    go_wp2_with (first
      | (with_reducible refine wl_build (o := ⟨some 13, _, _, _, _, _⟩) rfl 72 [] rfl [] rfl (vC 0 [] none nilS none nilP) hb0 ?_)
      | ((with_reducible refine wl_box (o := ⟨some 14, _, _, _, _, _⟩) rfl 72 (.tmp 13) _ (vC 0 [] none nilS none nilP) rfl rfl rfl ?_); intro g2 w4 r2 q2 l2 b4; have r14 := r13.later b4)
      | ((with_reducible refine wl_build2P (o := ⟨some 15, _, _, _, _, _⟩) rfl 73 (.const (.pointer none)) (.tmp 14) rfl 48 ip (.pointer none) (.pointer none) (ptr g2) Tryz.underlying73 hip hpz hps rfl rfl rfl rfl rfl ?_); intro gs w5 rs q3 l3 b5; have r15 := r14.later b5; have r25 := r2.later b5))
    have B5 := B3.trans ((b4.trans (b5.mono b4.size)).mono B3.size)
    have v2 : VRow w5 g2 0 [] none nilS none nilP := ⟨r25, one0 0⟩
    go_loopw [4] (fun iv wr => ∃ i : Nat, i ≤ 2 ∧ iv = .int .i64 (i : Int) ∧ Row wr 54 g1 (a.cells (.slice LA a.l.length LC)) ∧ VRow wr g2 0 [] none nilS none nilP ∧ Row wr 48 gs [.pointer none, ptr g2] ∧ Below w.heap.size w wr) (fun iv _ => 2 - (intOf iv).toNat)
    case atStart => exact ⟨0, by omega, rfl, r15, v2, rs, B5⟩
    case round =>
      clear r13 r14 r15 r2 r25 v2 rs B5 B3 B2 b1 b9 b3 b4 b5
      obtain ⟨i, hi2, rfl, r1, v2, rs, hB⟩ := hrel
      by_cases hi : i < 2
      · obtain ⟨u0, hu0, hv⟩ : ∃ u0, [Value.pointer none, ptr g2][i]? = some u0 ∧ Held wr u0 0 [] none nilS none nilP := by
          match i, hi with
          | 0, _ => exact ⟨_, rfl, .inl ⟨rfl, rfl, rfl, rfl, rfl, rfl, rfl⟩⟩
          | 1, _ => exact ⟨_, rfl, .inr ⟨g2, rfl, v2⟩⟩
        have hvi := rs.cell hu0
        have c1 := r1.cell (j := 1) rfl
        have c2 := r1.cell (j := 2) rfl
        have c4 := r1.cell (j := 4) rfl
        have BR := Below.refl wr.heap.size wr
        clear hu0
        go_wp2_with fail
        refine (setText_no wr u0 0 [] none nilS none nilP _ hv (by decide)).mono ?_
        rintro e z1 ⟨rfl, b9⟩
        replace hv := hv.later b9
        replace r1 := r1.later b9
        replace BR := BR.trans (b9.mono BR.size)
        clear b9 c1 c2 c4
        have c1 := r1.cell (j := 1) rfl
        have c2 := r1.cell (j := 2) rfl
        have c4 := r1.cell (j := 4) rfl
        go_wp2_with fail
        refine (setItems_no z1 u0 0 [] none nilS none nilP _ hv (by decide) (by decide)).mono ?_
        rintro e z2 ⟨rfl, b9⟩
        replace hv := hv.later b9
        replace r1 := r1.later b9
        replace BR := BR.trans (b9.mono BR.size)
        clear b9 c1 c2 c4
        have c1 := r1.cell (j := 1) rfl
        have c2 := r1.cell (j := 2) rfl
        have c4 := r1.cell (j := 4) rfl
        go_wp2_with fail
        refine (field_nil z2 u0 0 [] nilS none nilP a.a hA2.out hv).mono ?_
        rintro e z3 ⟨rfl, b9⟩
        replace hv := hv.later b9
        replace r1 := r1.later b9
        replace BR := BR.trans (b9.mono BR.size)
        clear b9 c1 c2 c4
        have c1 := r1.cell (j := 1) rfl
        have c2 := r1.cell (j := 2) rfl
        have c4 := r1.cell (j := 4) rfl
        go_wp2_with fail
        refine (setField_no z3 u0 0 [] none nilS none nilP _ _ hv (by decide)).mono ?_
        rintro e z4 ⟨rfl, b9⟩
        replace hv := hv.later b9
        replace r1 := r1.later b9
        replace BR := BR.trans (b9.mono BR.size)
        clear b9 c1 c2 c4
        have c1 := r1.cell (j := 1) rfl
        have c2 := r1.cell (j := 2) rfl
        have c4 := r1.cell (j := 4) rfl
        go_wp2_with fail
        refine (cutField_nil z4 u0 0 [] nilS none nilP a.a hA2.out hv).mono ?_
        rintro e z5 ⟨rfl, b9⟩
        replace hv := hv.later b9
        replace r1 := r1.later b9
        replace BR := BR.trans (b9.mono BR.size)
        clear b9 c1 c2 c4
        have c1 := r1.cell (j := 1) rfl
        have c2 := r1.cell (j := 2) rfl
        have c4 := r1.cell (j := 4) rfl
        go_wp2_with fail
        refine (add_no z5 u0 0 [] none nilS none nilP _ hv (by decide)).mono ?_
        rintro e z6 ⟨rfl, b9⟩
        replace hv := hv.later b9
        replace r1 := r1.later b9
        replace BR := BR.trans (b9.mono BR.size)
        clear b9 c1 c2 c4
        have c1 := r1.cell (j := 1) rfl
        have c2 := r1.cell (j := 2) rfl
        have c4 := r1.cell (j := 4) rfl
        go_wp2_with fail
        refine (cut_nil z6 u0 0 [] none nilS nilP a.a hA2.out hv).mono ?_
        rintro e z7 ⟨rfl, b9⟩
        replace hv := hv.later b9
        replace r1 := r1.later b9
        replace BR := BR.trans (b9.mono BR.size)
        clear b9 c1 c2 c4
        have c1 := r1.cell (j := 1) rfl
        have c2 := r1.cell (j := 2) rfl
        have c4 := r1.cell (j := 4) rfl
        go_wp2_with fail
        refine (has_nil z7 u0 0 [] none nilS nilP a.a hA2.out hv).mono ?_
        rintro e z8 ⟨rfl, b9⟩
        replace hv := hv.later b9
        replace r1 := r1.later b9
        replace BR := BR.trans (b9.mono BR.size)
        clear b9 c1 c2 c4
        have c1 := r1.cell (j := 1) rfl
        have c2 := r1.cell (j := 2) rfl
        have c4 := r1.cell (j := 4) rfl
        go_wp2_with fail
        refine (text_ev z8 u0 0 [] none nilS none nilP hv).mono ?_
        rintro e z9 ⟨rfl, b9⟩
        replace hv := hv.later b9
        replace r1 := r1.later b9
        replace BR := BR.trans (b9.mono BR.size)
        clear b9 c1 c2 c4
        have c1 := r1.cell (j := 1) rfl
        have c2 := r1.cell (j := 2) rfl
        have c4 := r1.cell (j := 4) rfl
        go_wp2_with fail
        refine (len_none z9 u0 hv).mono ?_
        rintro e z10 ⟨rfl, b9⟩
        replace hv := hv.later b9
        replace r1 := r1.later b9
        replace BR := BR.trans (b9.mono BR.size)
        clear b9 c1 c2 c4
        have c1 := r1.cell (j := 1) rfl
        have c2 := r1.cell (j := 2) rfl
        have c4 := r1.cell (j := 4) rfl
        go_wp2_with fail
        refine (kind_ev z10 u0 0 [] none nilS none nilP hv).mono ?_
        rintro e z11 ⟨rfl, b9⟩
        replace hv := hv.later b9
        replace r1 := r1.later b9
        replace BR := BR.trans (b9.mono BR.size)
        clear b9 c1 c2 c4
        have c1 := r1.cell (j := 1) rfl
        have c2 := r1.cell (j := 2) rfl
        have c4 := r1.cell (j := 4) rfl
        go_wp2_with fail
        refine (items_h z11 u0 0 [] none none nilP hv (by decide)).mono ?_
        rintro e z12 ⟨rfl, b9⟩
        replace hv := hv.later b9
        replace r1 := r1.later b9
        replace BR := BR.trans (b9.mono BR.size)
        clear b9 c1 c2 c4
        have c1 := r1.cell (j := 1) rfl
        have c2 := r1.cell (j := 2) rfl
        have c4 := r1.cell (j := 4) rfl
        go_wp2_with fail
        refine (sorted_ev z12 u0 0 [] none nilS none nilP hv).mono ?_
        rintro e z13 ⟨rfl, b9⟩
        replace hv := hv.later b9
        replace r1 := r1.later b9
        replace BR := BR.trans (b9.mono BR.size)
        clear b9 c1 c2 c4
        have c1 := r1.cell (j := 1) rfl
        have c2 := r1.cell (j := 2) rfl
        have c4 := r1.cell (j := 4) rfl
        go_wp2_with fail
        refine (plain_none z13 u0 hv).mono ?_
        rintro e z14 ⟨rfl, b9⟩
        replace hv := hv.later b9
        replace r1 := r1.later b9
        replace BR := BR.trans (b9.mono BR.size)
        clear b9 c1 c2 c4
        have c1 := r1.cell (j := 1) rfl
        have c2 := r1.cell (j := 2) rfl
        have c4 := r1.cell (j := 4) rfl
        go_wp2_with (first
          | (with_reducible refine wg_run (o := ⟨some 103, _, _, _, _, _⟩) 59 false 100 rfl rfl rfl (.agg plC0.toArray) (run_buildX 26 [] rfl [] rfl plC0 builtVlZ) ?_))
        refine (rsameV_any z14 x00 x00 nilS nilS nilS nilS nilS nilS ⟨SlV.nil _ _, SlV.nil _ _, SlV.nil _ _⟩ ⟨SlV.nil _ _, SlV.nil _ _, SlV.nil _ _⟩ x00_fits x00_fits).mono ?_
        rintro e z15 ⟨rfl, b9⟩
        replace hv := hv.later b9
        replace r1 := r1.later b9
        replace BR := BR.trans (b9.mono BR.size)
        clear b9 c1 c2 c4
        have c1 := r1.cell (j := 1) rfl
        have c2 := r1.cell (j := 2) rfl
        have c4 := r1.cell (j := 4) rfl
        go_wp2_with fail
        go_roundw
        case rel => exact ⟨i + 1, by omega, by go_num, r1, v2.later BR, rs.later BR, hB.trans (BR.mono hB.size)⟩
        case measure => simp [intOf]; omega
      · obtain rfl : i = 2 := by omega
        have hvi := rs.cell (j := 0) rfl
        go_wp2_with fail
        refine (clone_no wr nilP [] none nilS none nilP (.inl ⟨rfl, rfl, rfl, rfl, rfl, rfl, rfl⟩)).mono ?_
        rintro en w4 ⟨rfl, b4⟩
        have B4 := hB.trans (b4.mono hB.size)
        go_wp2_with fail
        refine (HA w4).mono ?_
        rintro en w6 ⟨rfl, b6⟩
        go_wp2_with fail
        go_ret
        exact ⟨rfl, B4.trans (b6.mono B4.size)⟩
end Go.Proofs.YtpbkejmffddelaaGreat

/-
  An act that came in as an argument. Own work.
-/
namespace Go.Proofs.YtpbkejmffddelaaGreat
open Go.RowKit Go.Shelf Go.ChangeShapes Go.WideShapes
section
variable {H : Type} {enc : TypeId × Value → H} {w : World} {spare : Nat → Bool} {held : Bool}
set_option maxRecDepth 100000 in
theorem open_act {fuel : Nat} {cs : List Value} {x : DataW H × List MemPlace} (h : DataW.trod enc Tryz.prog w 0 spare held fuel 54 cs = some x) (hz : ∀ n ∈ x.1.weights Tryz.prog 54, n ≤ reachBytes) :
    ∃ (q : VA) (lv : Value), cs = q.cells lv ∧ SlV cS 1 w w.heap.size lv q.l ∧ q.a.length ≤ 140737488355328 ∧ q.b.length ≤ 140737488355328 := by
  obtain ⟨xs, n, _, rfl, hl, hlen, hf⟩ := DataW.trod_struct (fs := Tryz.prog.fieldsOf 54) Tryz.underlying54 h
  rw [show Tryz.prog.cellsOf 54 = 5 by kernel_rfl] at hl
  have hzz : ∀ n ∈ DataW.weightsEach Tryz.prog ((Tryz.prog.fieldsOf 54).toList.map (·.type)) (xs.map (·.1)), n ≤ reachBytes := by
    intro n hn
    refine hz n ?_
    show n ∈ DataW.weights Tryz.prog 54 (.agg (xs.map (·.1)))
    simp only [DataW.weights, Tryz.underlying54]
    exact hn
  have wt : ∀ (i : Nat) (t : TypeId) (d : DataW H), ((Tryz.prog.fieldsOf 54).toList.map (·.type))[i]? = some t → (xs.map (·.1))[i]? = some d → ∀ n ∈ d.weights Tryz.prog t, n ≤ reachBytes :=
    fun i t d ht hd n hn => hzz n (DataW.weights_mem_each ht hd n hn)
  obtain ⟨v0, x0, g0, h0, d0⟩ := field_two hlen hf 0 (show (Tryz.prog.fieldsOf 54)[0]?.map (fun f => (f.offset, f.type)) = some (0, 5) by kernel_rfl) (by kernel_rfl) (by omega)
  obtain ⟨v1, x1, g1, h1, d1⟩ := field_two hlen hf 1 (show (Tryz.prog.fieldsOf 54)[1]?.map (fun f => (f.offset, f.type)) = some (1, 9) by kernel_rfl) (by kernel_rfl) (by omega)
  obtain ⟨v2, x2, g2, h2, d2⟩ := field_two hlen hf 2 (show (Tryz.prog.fieldsOf 54)[2]?.map (fun f => (f.offset, f.type)) = some (2, 9) by kernel_rfl) (by kernel_rfl) (by omega)
  obtain ⟨v3, x3, g3, h3, d3⟩ := field_two hlen hf 3 (show (Tryz.prog.fieldsOf 54)[3]?.map (fun f => (f.offset, f.type)) = some (3, 3) by kernel_rfl) (by kernel_rfl) (by omega)
  obtain ⟨v4, x4, g4, h4, d4⟩ := field_two hlen hf 4 (show (Tryz.prog.fieldsOf 54)[4]?.map (fun f => (f.offset, f.type)) = some (4, 23) by kernel_rfl) (by kernel_rfl) (by omega)
  obtain ⟨z0, e0, _, hz0⟩ := DataW.trod_int Tryz.underlying5 h0
  obtain ⟨s1, e1, ex1, _⟩ := DataW.trod_string Tryz.underlying9 h1
  obtain ⟨s2, e2, ex2, _⟩ := DataW.trod_string Tryz.underlying9 h2
  obtain ⟨z3, e3, _, hz3⟩ := DataW.trod_int Tryz.underlying3 h3
  obtain ⟨ls, hls, hll, _⟩ := open_slW h4 (wt 4 _ _ (by kernel_rfl) d4)
  have ht1 := wt 1 9 _ (by kernel_rfl) d1 s1.data.toList.length (by rw [ex1]; simp [DataW.weights])
  have ht2 := wt 2 9 _ (by kernel_rfl) d2 s2.data.toList.length (by rw [ex2]; simp [DataW.weights])
  simp only [reachBytes] at ht1 ht2
  refine ⟨⟨z0, s1.data.toList, s2.data.toList, z3, ls⟩, v4, ?_, hls, by show s1.data.toList.length ≤ _; omega, by show s2.data.toList.length ≤ _; omega⟩
  simp only [List.cons.injEq, and_true] at e0 e1 e2 e3
  subst e0 e1 e2 e3
  match cs, hl with
  | [u0, u1, u2, u3, u4], _ =>
    simp at g0 g1 g2 g3 g4
    rw [g0, g1, g2, g3, g4]
end
end Go.Proofs.YtpbkejmffddelaaGreat

/-
  The document's count: the walk. Own work.
-/
import Derived.Test.YthjcmgjmdjihnaaDoorRespU
namespace Go.Proofs.YthjcmgjmdjihnaaDoor
open Go.RowKit Go.Shelf
set_option linter.unusedVariables false
set_option linter.unusedSimpArgs false
def SCn15 (s : Wd) (x i n1 : Nat) (opn : Nat) (v : Value) : Prop :=
  match opn with
  | 0 | 5 => v = .int .i64 (x : Int)
  | 1 => v = encStr s
  | 2 => v = .int .i64 (i : Int)
  | 3 => v = .int .i64 (n1 : Int)
  | 4 | 6 => v = encStr (s.drop n1)
  | 7 => v = .int .i64 0
  | _ => True

theorem run_lenZ {P : Program} {w : World} {a : Act} {o : Oper} (t : TypeId) (x : Operand) (l : List UInt8) {n : Nat} (ho : o.op = .call { callee := .builtin .len, args := #[x], argTypes := #[t] }) (hu : P.underlying t = some .string) (hx : a.eval x = encStr l) (hn : l.length = n) : (execOp a.eval o).run P w = .ok (.value (.int .i64 (n : Int))) w := by
  subst hn
  exact run_lenStr t x l ho hu hx
theorem run_sliceStrR1 {P : Program} {w : World} {a : Act} {o : Oper} (t : TypeId) (x z : Operand) (l T : List UInt8)
    (ho : o.op = .slice t x none (some z) none) (hu : P.underlying t = some .string) (hx : a.eval x = encStr l) (hz : a.eval z = .int .i64 1) (hj : 1 ≤ l.length) (hT : l.take 1 = T) :
    (execOp a.eval o).run P w = .ok (.value (encStr T)) w := by
  subst hT
  exact run_sliceStrR t x z l 1 ho hu hx hz hj
theorem run_sliceStr1 {P : Program} {w : World} {a : Act} {o : Oper} (t : TypeId) (x y z : Operand) (l D : List UInt8) (j : Nat)
    (ho : o.op = .slice t x (some y) (some z) none) (hu : P.underlying t = some .string) (hx : a.eval x = encStr l) (hy : a.eval y = .int .i64 1) (hz : a.eval z = .int .i64 j) (hij : 1 ≤ j) (hj : j ≤ l.length) (hD : (l.take j).drop 1 = D) :
    (execOp a.eval o).run P w = .ok (.value (encStr D)) w := by
  subst hD
  exact run_sliceStr t x y z l 1 j ho hu hx hy hz hij hj
theorem run_lssZ {P : Program} {w : World} {a : Act} {o : Oper} {t s : Nat} {u v : Int} {b : Bool} (x y : Operand) (ho : o.op = .binOp .lss t x y s) (hx : a.eval x = .int .i64 u) (hy : a.eval y = .int .i64 v) (hb : decide (u < v) = b) :
    (execOp a.eval o).run P w = .ok (.value (.bool b)) w := by
  subst hb
  unfold execOp
  simp only [ho, hx, hy]
  go_simp
theorem run_gtrZ {P : Program} {w : World} {a : Act} {o : Oper} {t s : Nat} {u v : Int} {b : Bool} (x y : Operand) (ho : o.op = .binOp .gtr t x y s) (hx : a.eval x = .int .i64 u) (hy : a.eval y = .int .i64 v) (hb : decide (v < u) = b) :
    (execOp a.eval o).run P w = .ok (.value (.bool b)) w := by
  subst hb
  unfold execOp
  simp only [ho, hx, hy]
  go_simp
theorem cntR_err {sg : UInt8} {most e : Nat} {s : Wd} (h : cntL sg most s = .error e) : cntR (cntL sg most s) = (0, [], e) := by rw [h]; rfl
theorem cntR_ok {sg : UInt8} {most k : Nat} {s r : Wd} (h : cntL sg most s = .ok (k, r)) : cntR (cntL sg most s) = (k, r, 0) := by rw [h]; rfl
theorem take_min {s : Wd} : s.take (min s.length 16) = s.take 16 := by
  rcases Nat.le_total s.length 16 with h | h
  · rw [Nat.min_eq_left h, List.take_length, List.take_of_length_le h]
  · rw [Nat.min_eq_right h]
set_option maxRecDepth 100000 in
set_option maxHeartbeats 2000000 in
theorem rcnt_any (s : Wd) (sg : UInt8) (most : Nat) (w : World) (hs : s.length ≤ 1000000) (hm : most ≤ 1000) : Calls Tryd.prog 27 #[encStr s, encStr [sg], .int .i64 (most : Int)] w fun e w' =>
    e = .returned (.tuple #[.int .i64 ((cntR (cntL sg most s)).1 : Int), encStr (cntR (cntL sg most s)).2.1, .int .i64 ((cntR (cntL sg most s)).2.2 : Int)]) ∧ Below w.heap.size w w' := by
  obtain ⟨N16, hN⟩ : ∃ n, n = min s.length 16 := ⟨_, rfl⟩
  have hmn := hide (show min (s.length : Int) 16 = (N16 : Int) by omega)
  have hN16 := hide (show N16 ≤ s.length by omega)
  have HF := rfind_any (s.take N16) w (by rw [List.length_take]; omega)
  obtain ⟨L0, hL⟩ : ∃ n, n = s.length := ⟨_, rfl⟩
  rw [← hL] at hmn
  have hL0 := hide hL.symm
  have hN2 : s.take N16 = s.take 16 := by rw [hN, take_min]
  have hnl : (s.take N16).findIdx? (· == 10) = nlAt s := by rw [hN2]; rfl
  rw [hnl] at HF
  clear hN2 hnl
  cases hq : nlAt s with
  | none =>
    rw [hq] at HF
    have hc : cntL sg most s = .error (if s.length < 16 then 4 else 3) := by unfold cntL; rw [hq]
    by_cases h16 : s.length < 16
    · rw [if_pos h16] at hc
      have hcI : ¬ (16 : Int) ≤ (L0 : Int) := by omega
      replace hc := hide (cntR_err hc)
      clear hs hm hN hL h16
      go_enter Tryd.func27, Tryd.ntmps27
      go_wp2_with (first
        | (with_reducible refine wl_run (o := ⟨some 16, _, _, _, _, _⟩) rfl (.int .i64 (L0 : Int)) (run_lenZ 9 (.tmp 15) s rfl Tryd.underlying9 rfl hL0.out) ?_)
        | (with_reducible refine wl_run (o := ⟨some 17, _, _, _, _, _⟩) rfl (.int .i64 (N16 : Int)) (run_min2 (.tmp 16) (.const (.int .i64 16)) 3 3 rfl rfl rfl hmn.out) ?_)
        | (with_reducible refine wl_run (o := ⟨some 18, _, _, _, _, _⟩) rfl (encStr (s.take N16)) (run_sliceStrR 9 (.tmp 14) (.tmp 17) s N16 rfl Tryd.underlying9 rfl rfl hN16.out) ?_))
      refine HF.mono ?_
      rintro e w1 ⟨rfl, rfl⟩
      clear HF
      simp only [oInt]
      go_wp2_with (first
        | (with_reducible refine wg_run (o := ⟨some 24, _, _, _, _, _⟩) 2 true 22 rfl rfl rfl (.int .i64 (L0 : Int)) (run_lenZ 9 (.tmp 23) s rfl Tryd.underlying9 rfl hL0.out) ?_))
      go_ret3
      rw [hc.out]
      exact ⟨rfl, Below.refl _ _⟩
    · rw [if_neg h16] at hc
      have hcI : (16 : Int) ≤ (L0 : Int) := by omega
      replace hc := hide (cntR_err hc)
      clear hs hm hN hL h16
      go_enter Tryd.func27, Tryd.ntmps27
      go_wp2_with (first
        | (with_reducible refine wl_run (o := ⟨some 16, _, _, _, _, _⟩) rfl (.int .i64 (L0 : Int)) (run_lenZ 9 (.tmp 15) s rfl Tryd.underlying9 rfl hL0.out) ?_)
        | (with_reducible refine wl_run (o := ⟨some 17, _, _, _, _, _⟩) rfl (.int .i64 (N16 : Int)) (run_min2 (.tmp 16) (.const (.int .i64 16)) 3 3 rfl rfl rfl hmn.out) ?_)
        | (with_reducible refine wl_run (o := ⟨some 18, _, _, _, _, _⟩) rfl (encStr (s.take N16)) (run_sliceStrR 9 (.tmp 14) (.tmp 17) s N16 rfl Tryd.underlying9 rfl rfl hN16.out) ?_))
      refine HF.mono ?_
      rintro e w1 ⟨rfl, rfl⟩
      clear HF
      simp only [oInt]
      go_wp2_with (first
        | (with_reducible refine wg_run (o := ⟨some 24, _, _, _, _, _⟩) 2 true 22 rfl rfl rfl (.int .i64 (L0 : Int)) (run_lenZ 9 (.tmp 23) s rfl Tryd.underlying9 rfl hL0.out) ?_))
      go_ret3
      rw [hc.out]
      exact ⟨rfl, Below.refl _ _⟩
  | some i =>
    rw [hq] at HF
    obtain ⟨q1, q2, _, _⟩ := nlAt_some hq
    have hno := fun h => hide (cntR_err (cnt_no (sg := sg) (most := most) hq h))
    have hlo := hide (line_ok (sg := sg) hq)
    have hi0 : ¬ (i : Int) < 0 := by omega
    obtain ⟨n1, hn1⟩ : ∃ n, n = i + 1 := ⟨_, rfl⟩
    obtain ⟨n3, hn3⟩ : ∃ n, n = i - 1 := ⟨_, rfl⟩
    have hadd := hide (show IntKind.i64.wrap ((i : Int) + 1) = (n1 : Int) from wrap_id (by omega) (by omega) (by omega))
    have hn1s := hide (show n1 ≤ s.length by omega)
    obtain ⟨line, hline0⟩ : ∃ l, l = s.take n1 := ⟨_, rfl⟩
    have hll := hide (show line.length = n1 by rw [hline0, List.length_take]; omega)
    have hline := hide hline0.symm
    have h1l := hide (show 1 ≤ line.length by rw [hll.out]; omega)
    have hln : line.take n3 = s.take (i - 1) := by rw [hline0, List.take_take, hn3]; congr 1; omega
    have hnum := hide (show intL ((line.take n3).drop 1) = numAt s i by rw [hln]; rfl)
    have hl1 := hide (show line.take 1 = s.take 1 by rw [hline0, List.take_take]; congr 1; omega)
    have hl3 := hide (show line.drop n3 = (s.take (i + 1)).drop (i - 1) by rw [hline0, hn1, hn3])
    have h3l := hide (show n3 ≤ line.length by rw [hll.out]; omega)
    obtain ⟨T1, hT10⟩ : ∃ l, l = line.take 1 := ⟨_, rfl⟩
    obtain ⟨T3, hT30⟩ : ∃ l, l = line.drop n3 := ⟨_, rfl⟩
    obtain ⟨D1, hD10⟩ : ∃ l, l = (line.take n3).drop 1 := ⟨_, rfl⟩
    rw [← hT10] at hl1
    rw [← hT30] at hl3
    rw [← hD10] at hnum
    have hT1 := hide hT10.symm
    have hT3 := hide hT30.symm
    have hD1 := hide hD10.symm
    clear hline0 hln hT10 hT30 hD10
    by_cases c1 : n1 < 4
    · have hcI : (n1 : Int) < 4 := by omega
      have hc := hno (fun h => by have := (hlo.out.1 h).1; omega)
      clear hno hlo hn1 hn3 hs hm hN hL q1 q2 c1
      go_enter Tryd.func27, Tryd.ntmps27
      go_wp2_with (first
        | (with_reducible refine wl_run (o := ⟨some 16, _, _, _, _, _⟩) rfl (.int .i64 (L0 : Int)) (run_lenZ 9 (.tmp 15) s rfl Tryd.underlying9 rfl hL0.out) ?_)
        | (with_reducible refine wl_run (o := ⟨some 17, _, _, _, _, _⟩) rfl (.int .i64 (N16 : Int)) (run_min2 (.tmp 16) (.const (.int .i64 16)) 3 3 rfl rfl rfl hmn.out) ?_)
        | (with_reducible refine wl_run (o := ⟨some 18, _, _, _, _, _⟩) rfl (encStr (s.take N16)) (run_sliceStrR 9 (.tmp 14) (.tmp 17) s N16 rfl Tryd.underlying9 rfl rfl hN16.out) ?_))
      refine HF.mono ?_
      rintro e w1 ⟨rfl, rfl⟩
      clear HF
      simp only [oInt]
      go_wp2_with (first
        | (with_reducible refine wl_run (o := ⟨some 31, _, _, _, _, _⟩) rfl (.int .i64 (n1 : Int)) (run_addZ (.tmp 30) (.const (.int .i64 1)) rfl rfl rfl hadd.out) ?_)
        | (with_reducible refine wl_run (o := ⟨some 32, _, _, _, _, _⟩) rfl (encStr (s.take n1)) (run_sliceStrR 9 (.tmp 29) (.tmp 31) s n1 rfl Tryd.underlying9 rfl rfl hn1s.out) ?_; rw [hline.out])
        | (with_reducible refine wl_run (o := ⟨some 34, _, _, _, _, _⟩) rfl (.int .i64 (n1 : Int)) (run_lenZ 9 (.tmp 33) line rfl Tryd.underlying9 rfl hll.out) ?_)
        | (with_reducible refine wg_run (o := ⟨some 43, _, _, _, _, _⟩) 6 false 41 rfl rfl rfl (encStr T1) (run_sliceStrR1 9 (.tmp 42) (.const (.int .i64 1)) line T1 rfl Tryd.underlying9 rfl rfl h1l.out hT1.out) ?_)
        | (with_reducible refine wg_run (o := ⟨some 50, _, _, _, _, _⟩) 12 false 47 rfl rfl rfl (.int .i64 (n3 : Int)) (run_subZ (.tmp 49) (.const (.int .i64 2)) rfl rfl rfl hsub.out) ?_)
        | (with_reducible refine wg_run (o := ⟨some 51, _, _, _, _, _⟩) 12 false 47 rfl rfl rfl (encStr (line.drop n3)) (run_sliceStrL 9 (.tmp 48) (.tmp 50) line n3 rfl Tryd.underlying9 rfl rfl h3l.out) ?_; rw [hT3.out])
        | (with_reducible refine wl_run (o := ⟨some 57, _, _, _, _, _⟩) rfl (.int .i64 (n3 : Int)) (run_subZ (.tmp 56) (.const (.int .i64 2)) rfl rfl rfl hsub.out) ?_)
        | (with_reducible refine wl_run (o := ⟨some 58, _, _, _, _, _⟩) rfl (encStr D1) (run_sliceStr1 9 (.tmp 55) (.const (.int .i64 1)) (.tmp 57) line D1 n3 rfl Tryd.underlying9 rfl rfl rfl h13.out h3l.out hD1.out) ?_))
      go_ret3
      rw [hc.out]
      exact ⟨rfl, Below.refl _ _⟩
    · have hcI : ¬ (n1 : Int) < 4 := by omega
      have hsub := hide (show IntKind.i64.wrap ((n1 : Int) - 2) = (n3 : Int) from wrap_id (by omega) (by omega) (by omega))
      have h13 := hide (show 1 ≤ n3 by omega)
      by_cases c2 : 12 < n1
      · have hcJ : (12 : Int) < (n1 : Int) := by omega
        have hc := hno (fun h => by have := (hlo.out.1 h).2.1; omega)
        clear hno hlo hn1 hn3 hs hm hN hL q1 q2 c1 c2
        go_enter Tryd.func27, Tryd.ntmps27
        go_wp2_with (first
          | (with_reducible refine wl_run (o := ⟨some 16, _, _, _, _, _⟩) rfl (.int .i64 (L0 : Int)) (run_lenZ 9 (.tmp 15) s rfl Tryd.underlying9 rfl hL0.out) ?_)
          | (with_reducible refine wl_run (o := ⟨some 17, _, _, _, _, _⟩) rfl (.int .i64 (N16 : Int)) (run_min2 (.tmp 16) (.const (.int .i64 16)) 3 3 rfl rfl rfl hmn.out) ?_)
          | (with_reducible refine wl_run (o := ⟨some 18, _, _, _, _, _⟩) rfl (encStr (s.take N16)) (run_sliceStrR 9 (.tmp 14) (.tmp 17) s N16 rfl Tryd.underlying9 rfl rfl hN16.out) ?_))
        refine HF.mono ?_
        rintro e w1 ⟨rfl, rfl⟩
        clear HF
        simp only [oInt]
        go_wp2_with (first
          | (with_reducible refine wl_run (o := ⟨some 31, _, _, _, _, _⟩) rfl (.int .i64 (n1 : Int)) (run_addZ (.tmp 30) (.const (.int .i64 1)) rfl rfl rfl hadd.out) ?_)
          | (with_reducible refine wl_run (o := ⟨some 32, _, _, _, _, _⟩) rfl (encStr (s.take n1)) (run_sliceStrR 9 (.tmp 29) (.tmp 31) s n1 rfl Tryd.underlying9 rfl rfl hn1s.out) ?_; rw [hline.out])
          | (with_reducible refine wl_run (o := ⟨some 34, _, _, _, _, _⟩) rfl (.int .i64 (n1 : Int)) (run_lenZ 9 (.tmp 33) line rfl Tryd.underlying9 rfl hll.out) ?_)
          | (with_reducible refine wg_run (o := ⟨some 43, _, _, _, _, _⟩) 6 false 41 rfl rfl rfl (encStr T1) (run_sliceStrR1 9 (.tmp 42) (.const (.int .i64 1)) line T1 rfl Tryd.underlying9 rfl rfl h1l.out hT1.out) ?_)
          | (with_reducible refine wg_run (o := ⟨some 50, _, _, _, _, _⟩) 12 false 47 rfl rfl rfl (.int .i64 (n3 : Int)) (run_subZ (.tmp 49) (.const (.int .i64 2)) rfl rfl rfl hsub.out) ?_)
          | (with_reducible refine wg_run (o := ⟨some 51, _, _, _, _, _⟩) 12 false 47 rfl rfl rfl (encStr (line.drop n3)) (run_sliceStrL 9 (.tmp 48) (.tmp 50) line n3 rfl Tryd.underlying9 rfl rfl h3l.out) ?_; rw [hT3.out])
          | (with_reducible refine wl_run (o := ⟨some 57, _, _, _, _, _⟩) rfl (.int .i64 (n3 : Int)) (run_subZ (.tmp 56) (.const (.int .i64 2)) rfl rfl rfl hsub.out) ?_)
          | (with_reducible refine wl_run (o := ⟨some 58, _, _, _, _, _⟩) rfl (encStr D1) (run_sliceStr1 9 (.tmp 55) (.const (.int .i64 1)) (.tmp 57) line D1 n3 rfl Tryd.underlying9 rfl rfl rfl h13.out h3l.out hD1.out) ?_))
        go_ret3
        rw [hc.out]
        exact ⟨rfl, Below.refl _ _⟩
      · have hk4 := hide (show decide ((n1 : Int) < 4) = false from decide_eq_false hcI)
        have hk12 := hide (show decide ((12 : Int) < (n1 : Int)) = false from decide_eq_false (by omega))
        clear hcI
        by_cases c3 : T1 = [sg]
        case neg =>
          have hh := hide (show (!decide (T1 = [sg])) = true by rw [decide_eq_false c3]; rfl)
          have hc := hno (fun h => c3 (hl1.out.trans (hlo.out.1 h).2.2.1))
          clear hno hlo hn1 hn3 hs hm hN hL q1 q2 c1 c2 c3
          go_enter Tryd.func27, Tryd.ntmps27
          go_wp2_with (first
            | (with_reducible refine wl_run (o := ⟨some 16, _, _, _, _, _⟩) rfl (.int .i64 (L0 : Int)) (run_lenZ 9 (.tmp 15) s rfl Tryd.underlying9 rfl hL0.out) ?_)
            | (with_reducible refine wl_run (o := ⟨some 17, _, _, _, _, _⟩) rfl (.int .i64 (N16 : Int)) (run_min2 (.tmp 16) (.const (.int .i64 16)) 3 3 rfl rfl rfl hmn.out) ?_)
            | (with_reducible refine wl_run (o := ⟨some 18, _, _, _, _, _⟩) rfl (encStr (s.take N16)) (run_sliceStrR 9 (.tmp 14) (.tmp 17) s N16 rfl Tryd.underlying9 rfl rfl hN16.out) ?_))
          refine HF.mono ?_
          rintro e w1 ⟨rfl, rfl⟩
          clear HF
          simp only [oInt]
          go_wp2_with (first
            | (with_reducible refine wl_run (o := ⟨some 31, _, _, _, _, _⟩) rfl (.int .i64 (n1 : Int)) (run_addZ (.tmp 30) (.const (.int .i64 1)) rfl rfl rfl hadd.out) ?_)
            | (with_reducible refine wl_run (o := ⟨some 32, _, _, _, _, _⟩) rfl (encStr (s.take n1)) (run_sliceStrR 9 (.tmp 29) (.tmp 31) s n1 rfl Tryd.underlying9 rfl rfl hn1s.out) ?_; rw [hline.out])
            | (with_reducible refine wl_run (o := ⟨some 34, _, _, _, _, _⟩) rfl (.int .i64 (n1 : Int)) (run_lenZ 9 (.tmp 33) line rfl Tryd.underlying9 rfl hll.out) ?_)
            | (with_reducible refine wg_run (o := ⟨some 43, _, _, _, _, _⟩) 6 false 41 rfl rfl rfl (encStr T1) (run_sliceStrR1 9 (.tmp 42) (.const (.int .i64 1)) line T1 rfl Tryd.underlying9 rfl rfl h1l.out hT1.out) ?_)
            | (with_reducible refine wg_run (o := ⟨some 50, _, _, _, _, _⟩) 12 false 47 rfl rfl rfl (.int .i64 (n3 : Int)) (run_subZ (.tmp 49) (.const (.int .i64 2)) rfl rfl rfl hsub.out) ?_)
            | (with_reducible refine wg_run (o := ⟨some 51, _, _, _, _, _⟩) 12 false 47 rfl rfl rfl (encStr (line.drop n3)) (run_sliceStrL 9 (.tmp 48) (.tmp 50) line n3 rfl Tryd.underlying9 rfl rfl h3l.out) ?_; rw [hT3.out])
            | (with_reducible refine wl_run (o := ⟨some 57, _, _, _, _, _⟩) rfl (.int .i64 (n3 : Int)) (run_subZ (.tmp 56) (.const (.int .i64 2)) rfl rfl rfl hsub.out) ?_)
            | (with_reducible refine wl_run (o := ⟨some 58, _, _, _, _, _⟩) rfl (encStr D1) (run_sliceStr1 9 (.tmp 55) (.const (.int .i64 1)) (.tmp 57) line D1 n3 rfl Tryd.underlying9 rfl rfl rfl h13.out h3l.out hD1.out) ?_)
            | (with_reducible refine wl_run (o := ⟨some 36, _, _, _, _, _⟩) rfl (.bool false) (run_lssZ (.tmp 35) (.const (.int .i64 4)) rfl rfl rfl hk4.out) ?_)
            | (with_reducible refine wg_run (o := ⟨some 39, _, _, _, _, _⟩) 2 false 37 rfl rfl rfl (.bool false) (run_gtrZ (.tmp 38) (.const (.int .i64 12)) rfl rfl rfl hk12.out) ?_)
            | (with_reducible refine wg_run (o := ⟨some 45, _, _, _, _, _⟩) 6 false 41 rfl rfl rfl (.bool true) (run_neStr (.tmp 43) (.tmp 44) rfl rfl rfl hh.out) ?_))
          go_ret3
          rw [hc.out]
          exact ⟨rfl, Below.refl _ _⟩
        case pos =>
          have hh := hide (show (!decide (T1 = [sg])) = false by rw [decide_eq_true c3]; rfl)
          by_cases c4 : T3 = [13, 10]
          case neg =>
            have ht := hide (show (!decide (T3 = [13, 10])) = true by rw [decide_eq_false c4]; rfl)
            have hc := hno (fun h => c4 (hl3.out.trans (hlo.out.1 h).2.2.2.1))
            clear hno hlo hn1 hn3 hs hm hN hL q1 q2 c1 c2 c3 c4
            go_enter Tryd.func27, Tryd.ntmps27
            go_wp2_with (first
              | (with_reducible refine wl_run (o := ⟨some 16, _, _, _, _, _⟩) rfl (.int .i64 (L0 : Int)) (run_lenZ 9 (.tmp 15) s rfl Tryd.underlying9 rfl hL0.out) ?_)
              | (with_reducible refine wl_run (o := ⟨some 17, _, _, _, _, _⟩) rfl (.int .i64 (N16 : Int)) (run_min2 (.tmp 16) (.const (.int .i64 16)) 3 3 rfl rfl rfl hmn.out) ?_)
              | (with_reducible refine wl_run (o := ⟨some 18, _, _, _, _, _⟩) rfl (encStr (s.take N16)) (run_sliceStrR 9 (.tmp 14) (.tmp 17) s N16 rfl Tryd.underlying9 rfl rfl hN16.out) ?_))
            refine HF.mono ?_
            rintro e w1 ⟨rfl, rfl⟩
            clear HF
            simp only [oInt]
            go_wp2_with (first
              | (with_reducible refine wl_run (o := ⟨some 31, _, _, _, _, _⟩) rfl (.int .i64 (n1 : Int)) (run_addZ (.tmp 30) (.const (.int .i64 1)) rfl rfl rfl hadd.out) ?_)
              | (with_reducible refine wl_run (o := ⟨some 32, _, _, _, _, _⟩) rfl (encStr (s.take n1)) (run_sliceStrR 9 (.tmp 29) (.tmp 31) s n1 rfl Tryd.underlying9 rfl rfl hn1s.out) ?_; rw [hline.out])
              | (with_reducible refine wl_run (o := ⟨some 34, _, _, _, _, _⟩) rfl (.int .i64 (n1 : Int)) (run_lenZ 9 (.tmp 33) line rfl Tryd.underlying9 rfl hll.out) ?_)
              | (with_reducible refine wg_run (o := ⟨some 43, _, _, _, _, _⟩) 6 false 41 rfl rfl rfl (encStr T1) (run_sliceStrR1 9 (.tmp 42) (.const (.int .i64 1)) line T1 rfl Tryd.underlying9 rfl rfl h1l.out hT1.out) ?_)
              | (with_reducible refine wg_run (o := ⟨some 50, _, _, _, _, _⟩) 12 false 47 rfl rfl rfl (.int .i64 (n3 : Int)) (run_subZ (.tmp 49) (.const (.int .i64 2)) rfl rfl rfl hsub.out) ?_)
              | (with_reducible refine wg_run (o := ⟨some 51, _, _, _, _, _⟩) 12 false 47 rfl rfl rfl (encStr (line.drop n3)) (run_sliceStrL 9 (.tmp 48) (.tmp 50) line n3 rfl Tryd.underlying9 rfl rfl h3l.out) ?_; rw [hT3.out])
              | (with_reducible refine wl_run (o := ⟨some 57, _, _, _, _, _⟩) rfl (.int .i64 (n3 : Int)) (run_subZ (.tmp 56) (.const (.int .i64 2)) rfl rfl rfl hsub.out) ?_)
              | (with_reducible refine wl_run (o := ⟨some 58, _, _, _, _, _⟩) rfl (encStr D1) (run_sliceStr1 9 (.tmp 55) (.const (.int .i64 1)) (.tmp 57) line D1 n3 rfl Tryd.underlying9 rfl rfl rfl h13.out h3l.out hD1.out) ?_)
              | (with_reducible refine wl_run (o := ⟨some 36, _, _, _, _, _⟩) rfl (.bool false) (run_lssZ (.tmp 35) (.const (.int .i64 4)) rfl rfl rfl hk4.out) ?_)
              | (with_reducible refine wg_run (o := ⟨some 39, _, _, _, _, _⟩) 2 false 37 rfl rfl rfl (.bool false) (run_gtrZ (.tmp 38) (.const (.int .i64 12)) rfl rfl rfl hk12.out) ?_)
              | (with_reducible refine wg_run (o := ⟨some 45, _, _, _, _, _⟩) 6 false 41 rfl rfl rfl (.bool false) (run_neStr (.tmp 43) (.tmp 44) rfl rfl rfl hh.out) ?_)
              | (with_reducible refine wg_run (o := ⟨some 52, _, _, _, _, _⟩) 12 false 47 rfl rfl rfl (.bool true) (run_neStr (.tmp 51) (.const (.string ⟨#[13, 10]⟩)) rfl rfl rfl ht.out) ?_))
            go_ret3
            rw [hc.out]
            exact ⟨rfl, Below.refl _ _⟩
          case pos =>
            have ht := hide (show (!decide (T3 = [13, 10])) = false by rw [decide_eq_true c4]; rfl)
            have HI := rint_any D1 w
            rw [hnum.out] at HI
            obtain ⟨x0, x1⟩ := intL_bounds ((s.take (i - 1)).drop 1)
            have hl2 : LineOk sg s i ↔ (numAt s i).2 = true ∧ 0 ≤ (numAt s i).1 := hlo.out.trans ⟨fun h => ⟨h.2.2.2.2.1, h.2.2.2.2.2⟩, fun h => ⟨by omega, by omega, hl1.out.symm.trans c3, hl3.out.symm.trans c4, h.1, h.2⟩⟩
            have hyes : LineOk sg s i → cntL sg most s = if most < (numAt s i).1.toNat then .error 5 else .ok ((numAt s i).1.toNat, s.drop (i + 1)) := by
              intro h
              unfold cntL
              rw [hq]
              exact if_pos h
            change -9223372036854775808 ≤ (numAt s i).1 at x0
            change (numAt s i).1 ≤ 9223372036854775807 at x1
            obtain ⟨X, hX⟩ : ∃ X, X = numAt s i := ⟨_, rfl⟩
            rw [← hX] at HI hl2 hyes x0 x1
            obtain ⟨xv, ok⟩ := X
            simp only at HI hl2 hyes x0 x1
            cases ok with
            | false =>
              have hc := hno (fun h => by have := (hl2.1 h).1; cases this)
              clear hno hlo hn1 hn3 hl2 hyes hs hm hN hL q1 q2 c1 c2 c3 c4 hX x0 x1
              go_enter Tryd.func27, Tryd.ntmps27
              go_wp2_with (first
                | (with_reducible refine wl_run (o := ⟨some 16, _, _, _, _, _⟩) rfl (.int .i64 (L0 : Int)) (run_lenZ 9 (.tmp 15) s rfl Tryd.underlying9 rfl hL0.out) ?_)
                | (with_reducible refine wl_run (o := ⟨some 17, _, _, _, _, _⟩) rfl (.int .i64 (N16 : Int)) (run_min2 (.tmp 16) (.const (.int .i64 16)) 3 3 rfl rfl rfl hmn.out) ?_)
                | (with_reducible refine wl_run (o := ⟨some 18, _, _, _, _, _⟩) rfl (encStr (s.take N16)) (run_sliceStrR 9 (.tmp 14) (.tmp 17) s N16 rfl Tryd.underlying9 rfl rfl hN16.out) ?_))
              refine HF.mono ?_
              rintro e w1 ⟨rfl, rfl⟩
              clear HF
              simp only [oInt]
              go_wp2_with (first
                | (with_reducible refine wl_run (o := ⟨some 31, _, _, _, _, _⟩) rfl (.int .i64 (n1 : Int)) (run_addZ (.tmp 30) (.const (.int .i64 1)) rfl rfl rfl hadd.out) ?_)
                | (with_reducible refine wl_run (o := ⟨some 32, _, _, _, _, _⟩) rfl (encStr (s.take n1)) (run_sliceStrR 9 (.tmp 29) (.tmp 31) s n1 rfl Tryd.underlying9 rfl rfl hn1s.out) ?_; rw [hline.out])
                | (with_reducible refine wl_run (o := ⟨some 34, _, _, _, _, _⟩) rfl (.int .i64 (n1 : Int)) (run_lenZ 9 (.tmp 33) line rfl Tryd.underlying9 rfl hll.out) ?_)
                | (with_reducible refine wg_run (o := ⟨some 43, _, _, _, _, _⟩) 6 false 41 rfl rfl rfl (encStr T1) (run_sliceStrR1 9 (.tmp 42) (.const (.int .i64 1)) line T1 rfl Tryd.underlying9 rfl rfl h1l.out hT1.out) ?_)
                | (with_reducible refine wg_run (o := ⟨some 50, _, _, _, _, _⟩) 12 false 47 rfl rfl rfl (.int .i64 (n3 : Int)) (run_subZ (.tmp 49) (.const (.int .i64 2)) rfl rfl rfl hsub.out) ?_)
                | (with_reducible refine wg_run (o := ⟨some 51, _, _, _, _, _⟩) 12 false 47 rfl rfl rfl (encStr (line.drop n3)) (run_sliceStrL 9 (.tmp 48) (.tmp 50) line n3 rfl Tryd.underlying9 rfl rfl h3l.out) ?_; rw [hT3.out])
                | (with_reducible refine wl_run (o := ⟨some 57, _, _, _, _, _⟩) rfl (.int .i64 (n3 : Int)) (run_subZ (.tmp 56) (.const (.int .i64 2)) rfl rfl rfl hsub.out) ?_)
                | (with_reducible refine wl_run (o := ⟨some 58, _, _, _, _, _⟩) rfl (encStr D1) (run_sliceStr1 9 (.tmp 55) (.const (.int .i64 1)) (.tmp 57) line D1 n3 rfl Tryd.underlying9 rfl rfl rfl h13.out h3l.out hD1.out) ?_)
                | (with_reducible refine wl_run (o := ⟨some 36, _, _, _, _, _⟩) rfl (.bool false) (run_lssZ (.tmp 35) (.const (.int .i64 4)) rfl rfl rfl hk4.out) ?_)
                | (with_reducible refine wg_run (o := ⟨some 39, _, _, _, _, _⟩) 2 false 37 rfl rfl rfl (.bool false) (run_gtrZ (.tmp 38) (.const (.int .i64 12)) rfl rfl rfl hk12.out) ?_)
                | (with_reducible refine wg_run (o := ⟨some 45, _, _, _, _, _⟩) 6 false 41 rfl rfl rfl (.bool false) (run_neStr (.tmp 43) (.tmp 44) rfl rfl rfl hh.out) ?_)
                | (with_reducible refine wg_run (o := ⟨some 52, _, _, _, _, _⟩) 12 false 47 rfl rfl rfl (.bool false) (run_neStr (.tmp 51) (.const (.string ⟨#[13, 10]⟩)) rfl rfl rfl ht.out) ?_))
              refine HI.mono ?_
              rintro e w2 ⟨rfl, b2⟩
              clear HI
              go_wp2_with fail
              go_ret3
              rw [hc.out]
              exact ⟨rfl, b2⟩
            | true =>
              by_cases c5 : xv < 0
              · have hc := hno (fun h => by have := (hl2.1 h).2; omega)
                clear hno hlo hn1 hn3 hl2 hyes hs hm hN hL q1 q2 c1 c2 c3 c4 hX x0 x1
                go_enter Tryd.func27, Tryd.ntmps27
                go_wp2_with (first
                  | (with_reducible refine wl_run (o := ⟨some 16, _, _, _, _, _⟩) rfl (.int .i64 (L0 : Int)) (run_lenZ 9 (.tmp 15) s rfl Tryd.underlying9 rfl hL0.out) ?_)
                  | (with_reducible refine wl_run (o := ⟨some 17, _, _, _, _, _⟩) rfl (.int .i64 (N16 : Int)) (run_min2 (.tmp 16) (.const (.int .i64 16)) 3 3 rfl rfl rfl hmn.out) ?_)
                  | (with_reducible refine wl_run (o := ⟨some 18, _, _, _, _, _⟩) rfl (encStr (s.take N16)) (run_sliceStrR 9 (.tmp 14) (.tmp 17) s N16 rfl Tryd.underlying9 rfl rfl hN16.out) ?_))
                refine HF.mono ?_
                rintro e w1 ⟨rfl, rfl⟩
                clear HF
                simp only [oInt]
                go_wp2_with (first
                  | (with_reducible refine wl_run (o := ⟨some 31, _, _, _, _, _⟩) rfl (.int .i64 (n1 : Int)) (run_addZ (.tmp 30) (.const (.int .i64 1)) rfl rfl rfl hadd.out) ?_)
                  | (with_reducible refine wl_run (o := ⟨some 32, _, _, _, _, _⟩) rfl (encStr (s.take n1)) (run_sliceStrR 9 (.tmp 29) (.tmp 31) s n1 rfl Tryd.underlying9 rfl rfl hn1s.out) ?_; rw [hline.out])
                  | (with_reducible refine wl_run (o := ⟨some 34, _, _, _, _, _⟩) rfl (.int .i64 (n1 : Int)) (run_lenZ 9 (.tmp 33) line rfl Tryd.underlying9 rfl hll.out) ?_)
                  | (with_reducible refine wg_run (o := ⟨some 43, _, _, _, _, _⟩) 6 false 41 rfl rfl rfl (encStr T1) (run_sliceStrR1 9 (.tmp 42) (.const (.int .i64 1)) line T1 rfl Tryd.underlying9 rfl rfl h1l.out hT1.out) ?_)
                  | (with_reducible refine wg_run (o := ⟨some 50, _, _, _, _, _⟩) 12 false 47 rfl rfl rfl (.int .i64 (n3 : Int)) (run_subZ (.tmp 49) (.const (.int .i64 2)) rfl rfl rfl hsub.out) ?_)
                  | (with_reducible refine wg_run (o := ⟨some 51, _, _, _, _, _⟩) 12 false 47 rfl rfl rfl (encStr (line.drop n3)) (run_sliceStrL 9 (.tmp 48) (.tmp 50) line n3 rfl Tryd.underlying9 rfl rfl h3l.out) ?_; rw [hT3.out])
                  | (with_reducible refine wl_run (o := ⟨some 57, _, _, _, _, _⟩) rfl (.int .i64 (n3 : Int)) (run_subZ (.tmp 56) (.const (.int .i64 2)) rfl rfl rfl hsub.out) ?_)
                  | (with_reducible refine wl_run (o := ⟨some 58, _, _, _, _, _⟩) rfl (encStr D1) (run_sliceStr1 9 (.tmp 55) (.const (.int .i64 1)) (.tmp 57) line D1 n3 rfl Tryd.underlying9 rfl rfl rfl h13.out h3l.out hD1.out) ?_)
                  | (with_reducible refine wl_run (o := ⟨some 36, _, _, _, _, _⟩) rfl (.bool false) (run_lssZ (.tmp 35) (.const (.int .i64 4)) rfl rfl rfl hk4.out) ?_)
                  | (with_reducible refine wg_run (o := ⟨some 39, _, _, _, _, _⟩) 2 false 37 rfl rfl rfl (.bool false) (run_gtrZ (.tmp 38) (.const (.int .i64 12)) rfl rfl rfl hk12.out) ?_)
                  | (with_reducible refine wg_run (o := ⟨some 45, _, _, _, _, _⟩) 6 false 41 rfl rfl rfl (.bool false) (run_neStr (.tmp 43) (.tmp 44) rfl rfl rfl hh.out) ?_)
                  | (with_reducible refine wg_run (o := ⟨some 52, _, _, _, _, _⟩) 12 false 47 rfl rfl rfl (.bool false) (run_neStr (.tmp 51) (.const (.string ⟨#[13, 10]⟩)) rfl rfl rfl ht.out) ?_))
                refine HI.mono ?_
                rintro e w2 ⟨rfl, b2⟩
                clear HI
                go_wp2_with fail
                go_ret3
                rw [hc.out]
                exact ⟨rfl, b2⟩
              · obtain ⟨x, rfl⟩ : ∃ x : Nat, xv = (x : Int) := ⟨xv.toNat, by omega⟩
                have hy := hyes (hl2.2 ⟨rfl, by omega⟩)
                rw [Int.toNat_natCast] at hy
                have hx0 : ¬ (x : Int) < 0 := by omega
                by_cases c6 : most < x
                · rw [if_pos c6] at hy
                  have hc := hide (cntR_err hy)
                  have hxm : (most : Int) < (x : Int) := by omega
                  clear hno hlo hn1 hn3 hl2 hyes hs hm hN hL q1 q2 c1 c2 c3 c4 c5 c6 hX x0 x1 hy
                  go_enter Tryd.func27, Tryd.ntmps27
                  go_wp2_with (first
                    | (with_reducible refine wl_run (o := ⟨some 16, _, _, _, _, _⟩) rfl (.int .i64 (L0 : Int)) (run_lenZ 9 (.tmp 15) s rfl Tryd.underlying9 rfl hL0.out) ?_)
                    | (with_reducible refine wl_run (o := ⟨some 17, _, _, _, _, _⟩) rfl (.int .i64 (N16 : Int)) (run_min2 (.tmp 16) (.const (.int .i64 16)) 3 3 rfl rfl rfl hmn.out) ?_)
                    | (with_reducible refine wl_run (o := ⟨some 18, _, _, _, _, _⟩) rfl (encStr (s.take N16)) (run_sliceStrR 9 (.tmp 14) (.tmp 17) s N16 rfl Tryd.underlying9 rfl rfl hN16.out) ?_))
                  refine HF.mono ?_
                  rintro e w1 ⟨rfl, rfl⟩
                  clear HF
                  simp only [oInt]
                  go_wp2_with (first
                    | (with_reducible refine wl_run (o := ⟨some 31, _, _, _, _, _⟩) rfl (.int .i64 (n1 : Int)) (run_addZ (.tmp 30) (.const (.int .i64 1)) rfl rfl rfl hadd.out) ?_)
                    | (with_reducible refine wl_run (o := ⟨some 32, _, _, _, _, _⟩) rfl (encStr (s.take n1)) (run_sliceStrR 9 (.tmp 29) (.tmp 31) s n1 rfl Tryd.underlying9 rfl rfl hn1s.out) ?_; rw [hline.out])
                    | (with_reducible refine wl_run (o := ⟨some 34, _, _, _, _, _⟩) rfl (.int .i64 (n1 : Int)) (run_lenZ 9 (.tmp 33) line rfl Tryd.underlying9 rfl hll.out) ?_)
                    | (with_reducible refine wg_run (o := ⟨some 43, _, _, _, _, _⟩) 6 false 41 rfl rfl rfl (encStr T1) (run_sliceStrR1 9 (.tmp 42) (.const (.int .i64 1)) line T1 rfl Tryd.underlying9 rfl rfl h1l.out hT1.out) ?_)
                    | (with_reducible refine wg_run (o := ⟨some 50, _, _, _, _, _⟩) 12 false 47 rfl rfl rfl (.int .i64 (n3 : Int)) (run_subZ (.tmp 49) (.const (.int .i64 2)) rfl rfl rfl hsub.out) ?_)
                    | (with_reducible refine wg_run (o := ⟨some 51, _, _, _, _, _⟩) 12 false 47 rfl rfl rfl (encStr (line.drop n3)) (run_sliceStrL 9 (.tmp 48) (.tmp 50) line n3 rfl Tryd.underlying9 rfl rfl h3l.out) ?_; rw [hT3.out])
                    | (with_reducible refine wl_run (o := ⟨some 57, _, _, _, _, _⟩) rfl (.int .i64 (n3 : Int)) (run_subZ (.tmp 56) (.const (.int .i64 2)) rfl rfl rfl hsub.out) ?_)
                    | (with_reducible refine wl_run (o := ⟨some 58, _, _, _, _, _⟩) rfl (encStr D1) (run_sliceStr1 9 (.tmp 55) (.const (.int .i64 1)) (.tmp 57) line D1 n3 rfl Tryd.underlying9 rfl rfl rfl h13.out h3l.out hD1.out) ?_)
                    | (with_reducible refine wl_run (o := ⟨some 36, _, _, _, _, _⟩) rfl (.bool false) (run_lssZ (.tmp 35) (.const (.int .i64 4)) rfl rfl rfl hk4.out) ?_)
                    | (with_reducible refine wg_run (o := ⟨some 39, _, _, _, _, _⟩) 2 false 37 rfl rfl rfl (.bool false) (run_gtrZ (.tmp 38) (.const (.int .i64 12)) rfl rfl rfl hk12.out) ?_)
                    | (with_reducible refine wg_run (o := ⟨some 45, _, _, _, _, _⟩) 6 false 41 rfl rfl rfl (.bool false) (run_neStr (.tmp 43) (.tmp 44) rfl rfl rfl hh.out) ?_)
                    | (with_reducible refine wg_run (o := ⟨some 52, _, _, _, _, _⟩) 12 false 47 rfl rfl rfl (.bool false) (run_neStr (.tmp 51) (.const (.string ⟨#[13, 10]⟩)) rfl rfl rfl ht.out) ?_))
                  refine HI.mono ?_
                  rintro e w2 ⟨rfl, b2⟩
                  clear HI
                  go_wp2_with fail
                  go_ret3
                  rw [hc.out]
                  exact ⟨rfl, b2⟩
                · rw [if_neg c6, ← hn1] at hy
                  have hc := hide (cntR_ok hy)
                  have hxm : ¬ (most : Int) < (x : Int) := by omega
                  clear hno hlo hn1 hn3 hl2 hyes hs hm hN hL q1 q2 c1 c2 c3 c4 c5 c6 hX x0 x1 hy
                  go_enter Tryd.func27, Tryd.ntmps27
                  go_wp2_with (first
                    | (with_reducible refine wl_run (o := ⟨some 16, _, _, _, _, _⟩) rfl (.int .i64 (L0 : Int)) (run_lenZ 9 (.tmp 15) s rfl Tryd.underlying9 rfl hL0.out) ?_)
                    | (with_reducible refine wl_run (o := ⟨some 17, _, _, _, _, _⟩) rfl (.int .i64 (N16 : Int)) (run_min2 (.tmp 16) (.const (.int .i64 16)) 3 3 rfl rfl rfl hmn.out) ?_)
                    | (with_reducible refine wl_run (o := ⟨some 18, _, _, _, _, _⟩) rfl (encStr (s.take N16)) (run_sliceStrR 9 (.tmp 14) (.tmp 17) s N16 rfl Tryd.underlying9 rfl rfl hN16.out) ?_))
                  refine HF.mono ?_
                  rintro e w1 ⟨rfl, rfl⟩
                  clear HF
                  simp only [oInt]
                  go_wp2_with (first
                    | (with_reducible refine wl_run (o := ⟨some 31, _, _, _, _, _⟩) rfl (.int .i64 (n1 : Int)) (run_addZ (.tmp 30) (.const (.int .i64 1)) rfl rfl rfl hadd.out) ?_)
                    | (with_reducible refine wl_run (o := ⟨some 32, _, _, _, _, _⟩) rfl (encStr (s.take n1)) (run_sliceStrR 9 (.tmp 29) (.tmp 31) s n1 rfl Tryd.underlying9 rfl rfl hn1s.out) ?_; rw [hline.out])
                    | (with_reducible refine wl_run (o := ⟨some 34, _, _, _, _, _⟩) rfl (.int .i64 (n1 : Int)) (run_lenZ 9 (.tmp 33) line rfl Tryd.underlying9 rfl hll.out) ?_)
                    | (with_reducible refine wg_run (o := ⟨some 43, _, _, _, _, _⟩) 6 false 41 rfl rfl rfl (encStr T1) (run_sliceStrR1 9 (.tmp 42) (.const (.int .i64 1)) line T1 rfl Tryd.underlying9 rfl rfl h1l.out hT1.out) ?_)
                    | (with_reducible refine wg_run (o := ⟨some 50, _, _, _, _, _⟩) 12 false 47 rfl rfl rfl (.int .i64 (n3 : Int)) (run_subZ (.tmp 49) (.const (.int .i64 2)) rfl rfl rfl hsub.out) ?_)
                    | (with_reducible refine wg_run (o := ⟨some 51, _, _, _, _, _⟩) 12 false 47 rfl rfl rfl (encStr (line.drop n3)) (run_sliceStrL 9 (.tmp 48) (.tmp 50) line n3 rfl Tryd.underlying9 rfl rfl h3l.out) ?_; rw [hT3.out])
                    | (with_reducible refine wl_run (o := ⟨some 57, _, _, _, _, _⟩) rfl (.int .i64 (n3 : Int)) (run_subZ (.tmp 56) (.const (.int .i64 2)) rfl rfl rfl hsub.out) ?_)
                    | (with_reducible refine wl_run (o := ⟨some 58, _, _, _, _, _⟩) rfl (encStr D1) (run_sliceStr1 9 (.tmp 55) (.const (.int .i64 1)) (.tmp 57) line D1 n3 rfl Tryd.underlying9 rfl rfl rfl h13.out h3l.out hD1.out) ?_)
                    | (with_reducible refine wl_run (o := ⟨some 36, _, _, _, _, _⟩) rfl (.bool false) (run_lssZ (.tmp 35) (.const (.int .i64 4)) rfl rfl rfl hk4.out) ?_)
                    | (with_reducible refine wg_run (o := ⟨some 39, _, _, _, _, _⟩) 2 false 37 rfl rfl rfl (.bool false) (run_gtrZ (.tmp 38) (.const (.int .i64 12)) rfl rfl rfl hk12.out) ?_)
                    | (with_reducible refine wg_run (o := ⟨some 45, _, _, _, _, _⟩) 6 false 41 rfl rfl rfl (.bool false) (run_neStr (.tmp 43) (.tmp 44) rfl rfl rfl hh.out) ?_)
                    | (with_reducible refine wg_run (o := ⟨some 52, _, _, _, _, _⟩) 12 false 47 rfl rfl rfl (.bool false) (run_neStr (.tmp 51) (.const (.string ⟨#[13, 10]⟩)) rfl rfl rfl ht.out) ?_))
                  refine HI.mono ?_
                  rintro e w2 ⟨rfl, b2⟩
                  clear HI
                  go_wp2_with fail
                  rename_i K6 hK6
                  refine wp_region_vals [] (SCn15 s x i n1) (fun _ _ wz => Below w2.heap.size w2 wz) (by kernel_rfl) (by kernel_rfl) (by kernel_rfl) (by kernel_rfl) (by kernel_rfl) ((Below.refl _ _).drew) ?obs6 ?he6
                  case obs6 =>
                    refine ⟨?_, ?_, ?_, ?_, ?_, ?_, ?_, ?_, trivial⟩
                    · exact .inl ⟨by kernel_rfl, fun L a1 w1 n h => ⟨_, rfl, run_move (.tmp 12) rfl (h.var n 12 (by kernel_rfl))⟩⟩
                    · exact .inl ⟨by kernel_rfl, fun L a1 w1 n h => ⟨_, rfl, run_move (.tmp 0) rfl (h.var n 0 (by kernel_rfl))⟩⟩
                    · exact .inl ⟨by kernel_rfl, fun L a1 w1 n h => ⟨_, rfl, run_move (.tmp 9) rfl (h.var n 9 (by kernel_rfl))⟩⟩
                    · exact .inl ⟨by kernel_rfl, fun L a1 w1 n h => ⟨_, rfl, run_addZ (.tmp 73) (.const (.int .i64 1)) rfl (h.dep n 2 73 (by kernel_rfl) rfl) rfl hadd.out⟩⟩
                    · exact .inl ⟨by kernel_rfl, fun L a1 w1 n h => ⟨_, rfl, run_sliceStrL 9 (.tmp 72) (.tmp 74) s n1 rfl Tryd.underlying9 (h.dep n 1 72 (by kernel_rfl) rfl) (h.dep n 3 74 (by kernel_rfl) rfl) hn1s.out⟩⟩
                    · exact .inl ⟨by kernel_rfl, fun L a1 w1 n h => ⟨_, rfl, run_assign (.tmp 71) rfl (h.dep n 0 71 (by kernel_rfl) rfl)⟩⟩
                    · exact .inl ⟨by kernel_rfl, fun L a1 w1 n h => ⟨_, rfl, run_assign (.tmp 75) rfl (h.dep n 4 75 (by kernel_rfl) rfl)⟩⟩
                    · exact .inl ⟨by kernel_rfl, fun L a1 w1 n h => ⟨_, rfl, run_assign (.const (.int .i64 0)) rfl rfl⟩⟩
                  case he6 =>
                    intro V w7 hV hJ
                    have b7 : Below w2.heap.size w2 w7 := hJ
                    have e5 : V 5 = .int .i64 (x : Int) := hV 5 _ rfl
                    have e6 : V 6 = encStr (s.drop n1) := hV 6 _ rfl
                    have e7 : V 7 = .int .i64 0 := hV 7 _ rfl
                    clear hV hJ
                    simp only [putOps, List.setIfInBounds_toArray, List.set_cons_succ, List.set_cons_zero, Nat.reduceAdd]
                    rw [e5, e6, e7]
                    go_wp2_with fail
                    go_ret3
                    rw [hc.out]
                    exact ⟨rfl, b2.trans (b7.mono b2.size)⟩
end Go.Proofs.YthjcmgjmdjihnaaDoor

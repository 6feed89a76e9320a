/-
  Patterns: which bytes brackets tell; a class; a part. Contracts. Own work.
-/
import Derived.Test.YtolmomnocfkhoaaDoorRows
import Derived.Test.YtolmomnocfkhoaaDoorChecked
import Derived.Test.YtolmomnocfkhoaaDoorBuildA
import Derived.Test.YtolmomnocfkhoaaDoorRun
import Derived.Test.YtolmomnocfkhoaaDoorVerbM
import Derived.BigQuiet
namespace Go.Proofs.YtolmomnocfkhoaaDoor
open Go.RowKit
set_option linter.unusedVariables false
set_option linter.unusedSimpArgs false
theorem u8_le (a c : UInt8) : ((a.toNat : Int) ≤ (c.toNat : Int)) ↔ a ≤ c := by rw [UInt8.le_iff_toNat_le]; omega
theorem u8_lt (a : UInt8) : (a.toNat : Int) < 256 := by have := a.toNat_lt; omega
theorem tells_long (a x b : UInt8) (r : List UInt8) (c : UInt8) (h : x = 45) : tellsL (a :: x :: b :: r) c = ((decide (a ≤ c) && decide (c ≤ b)) || tellsL r c) := by rw [tellsL, if_pos h]
theorem self_tells (a c : UInt8) : (a == c) = (decide (a ≤ c) && decide (c ≤ a)) := by
  rw [Bool.eq_iff_iff]
  simp only [beq_iff_eq, Bool.and_eq_true, decide_eq_true_eq, UInt8.le_iff_toNat_le, ← UInt8.toNat_inj]
  omega
theorem tells_short (a : UInt8) (r : List UInt8) (c : UInt8) (h : ¬ (2 < (a :: r).length ∧ r[0]? = some 45)) : tellsL (a :: r) c = ((decide (a ≤ c) && decide (c ≤ a)) || tellsL r c) := by
  rw [← self_tells]
  match r, h with
  | [], h => simp [tellsL]
  | [x], h => simp [tellsL]
  | x :: b :: r, h =>
    rw [tellsL, if_neg (fun e => h ⟨by simp, by simp [e]⟩)]
def TL2 (a : UInt8) (r : List UInt8) (opn : Nat) (v : Value) : Prop :=
  match opn with
  | 0 | 2 | 4 => v = encStr (a :: r)
  | 1 | 3 | 6 | 7 => v = .int .u8 (a.toNat : Int)
  | 5 | 8 => v = encStr r
  | _ => True

def TL4 (a b : UInt8) (r : List UInt8) (opn : Nat) (v : Value) : Prop :=
  match opn with
  | 0 | 2 => v = encStr (a :: 45 :: b :: r)
  | 1 | 4 => v = .int .u8 (b.toNat : Int)
  | 3 | 5 => v = encStr r
  | _ => True

theorem isBool (b : Bool) : ∃ c : Bool, c = b := ⟨b, rfl⟩
set_option maxRecDepth 100000 in
set_option maxHeartbeats 1000000 in
theorem tells_any (w : World) (l : List UInt8) (c : UInt8) (hl : l.length ≤ 1000000) :
    Calls Tryd.prog 50 #[encStr l, .int .u8 (c.toNat : Int)] w fun e w' => e = .returned (.bool (tellsL l c)) ∧ Below w.heap.size w w' := by
  have hc := u8_lt c
  have hc0 : (0 : Int) ≤ (c.toNat : Int) := by omega
  go_enter Tryd.func50, Tryd.ntmps50
  go_wp2_with fail
  go_loopw [0] (fun sv wr => ∃ r : List UInt8, sv = encStr r ∧ r.length ≤ 1000000 ∧ tellsL r c = tellsL l c ∧ Below w.heap.size w wr) (fun sv _ => match sv with | .string s => s.size | _ => 0)
  case atStart => exact ⟨l, rfl, hl, rfl, Below.refl _ _⟩
  case round =>
    obtain ⟨r, rfl, hr, ht, bw⟩ := hrel
    replace ht := hide ht
    cases r with
    | nil =>
      go_wp2_with (first
        | (with_reducible refine wl_run (o := ⟨some 9, _, _, _, _, _⟩) rfl (.bool false) (run_neStr (.tmp 8) (.const (.string ⟨#[]⟩)) rfl rfl rfl (by simp)) ?_))
      go_ret
      exact ⟨by rw [← ht.out]; rfl, bw⟩
    | cons a r =>
      have ha := u8_lt a
      go_wp2_with (first
        | (with_reducible refine wl_run (o := ⟨some 9, _, _, _, _, _⟩) rfl (.bool true) (run_neStr (.tmp 8) (.const (.string ⟨#[]⟩)) rfl rfl rfl (by simp)) ?_))
      rename_i K2 hK2
      refine wp_region_vals [] (TL2 a r) (fun _ _ wz => Below wr.heap.size wr wz) (by kernel_rfl) (by kernel_rfl) (by kernel_rfl) (by kernel_rfl) (by kernel_rfl) ((Below.refl _ _).drew) ?obs2 ?he2
      case obs2 =>
        refine ⟨?_, ?_, ?_, ?_, ?_, ?_, ?_, ?_, ?_, trivial⟩
        · exact .inl ⟨by kernel_rfl, fun L a1 w1 n h => ⟨_, rfl, run_move (.tmp 0) rfl (h.var n 0 (by kernel_rfl))⟩⟩
        · exact .inl ⟨by kernel_rfl, fun L a1 w1 n h => ⟨_, rfl, run_idxStr 9 (.tmp 10) (.const (.int .i64 0)) (a :: r) 0 a rfl Tryd.underlying9 (h.dep n 0 10 (by kernel_rfl) rfl) rfl rfl⟩⟩
        · exact .inl ⟨by kernel_rfl, fun L a1 w1 n h => ⟨_, rfl, run_move (.tmp 0) rfl (h.var n 0 (by kernel_rfl))⟩⟩
        · exact .inl ⟨by kernel_rfl, fun L a1 w1 n h => ⟨_, rfl, run_idxStr 9 (.tmp 12) (.const (.int .i64 0)) (a :: r) 0 a rfl Tryd.underlying9 (h.dep n 2 12 (by kernel_rfl) rfl) rfl rfl⟩⟩
        · exact .inl ⟨by kernel_rfl, fun L a1 w1 n h => ⟨_, rfl, run_move (.tmp 0) rfl (h.var n 0 (by kernel_rfl))⟩⟩
        · exact .inl ⟨by kernel_rfl, fun L a1 w1 n h => ⟨_, rfl, run_sliceStrL 9 (.tmp 14) (.const (.int .i64 1)) (a :: r) 1 rfl Tryd.underlying9 (h.dep n 4 14 (by kernel_rfl) rfl) rfl (by simp)⟩⟩
        · exact .inl ⟨by kernel_rfl, fun L a1 w1 n h => ⟨_, rfl, run_assign (.tmp 11) rfl (h.dep n 1 11 (by kernel_rfl) rfl)⟩⟩
        · exact .inl ⟨by kernel_rfl, fun L a1 w1 n h => ⟨_, rfl, run_assign (.tmp 13) rfl (h.dep n 3 13 (by kernel_rfl) rfl)⟩⟩
        · exact .inl ⟨by kernel_rfl, fun L a1 w1 n h => ⟨_, rfl, run_assign (.tmp 15) rfl (h.dep n 5 15 (by kernel_rfl) rfl)⟩⟩
      case he2 =>
        intro V w1 hV hJ
        have b1 : Below wr.heap.size wr w1 := hJ
        have h1 : V 6 = .int .u8 (a.toNat : Int) := hV 6 _ rfl
        have h2 : V 7 = .int .u8 (a.toNat : Int) := hV 7 _ rfl
        have h3 : V 8 = encStr r := hV 8 _ rfl
        clear hV hJ
        simp only [putOps, List.setIfInBounds_toArray, List.set_cons_succ, List.set_cons_zero, Nat.reduceAdd]
        rw [h1, h2, h3]
        clear h1 h2 h3
        refine hK2 _ _ ?_
        have bw := bw.trans (b1.mono bw.size)
        clear b1
        by_cases hg : 2 < (a :: r).length ∧ r[0]? = some 45
        · obtain ⟨x, b, r, rfl⟩ : ∃ x b q, r = x :: b :: q := by
            match r, hg with
            | x :: b :: q, _ => exact ⟨x, b, q, rfl⟩
            | [x], h => simp at h
            | [], h => simp at h
          obtain rfl : x = 45 := by simpa using hg.2
          have hb := u8_lt b
          have e9 := hide (tells_long a 45 b r c rfl)
          clear hg
          have hlen := hide (str_len (a :: 45 :: b :: r))
          have hz : (2 : Int) < ((a :: 45 :: b :: r).length : Int) := by simp; omega
          go_wp2_with (first
            | (refine wg_run (o := ⟨some 21, _, _, _, _, _⟩) 3 true 19 rfl rfl rfl (.int .u8 ((45 : UInt8).toNat : Int)) (run_idxStr 9 (.tmp 20) (.const (.int .i64 1)) (a :: 45 :: b :: r) 1 45 rfl Tryd.underlying9 rfl rfl rfl) ?_))
          rename_i K4 hK4 h24
          refine wp_region_vals [] (TL4 a b r) (fun _ _ wz => Below w1.heap.size w1 wz) (by kernel_rfl) (by kernel_rfl) (by kernel_rfl) (by kernel_rfl) (by kernel_rfl) ((Below.refl _ _).drew) ?obs4 ?he4
          case obs4 =>
            refine ⟨?_, ?_, ?_, ?_, ?_, ?_, trivial⟩
            · exact .inl ⟨by kernel_rfl, fun L a1 w1 n h => ⟨_, rfl, run_move (.tmp 0) rfl (h.var n 0 (by kernel_rfl))⟩⟩
            · exact .inl ⟨by kernel_rfl, fun L a1 w1 n h => ⟨_, rfl, run_idxStr 9 (.tmp 24) (.const (.int .i64 2)) (a :: 45 :: b :: r) 2 b rfl Tryd.underlying9 (h.dep n 0 24 (by kernel_rfl) rfl) rfl rfl⟩⟩
            · exact .inl ⟨by kernel_rfl, fun L a1 w1 n h => ⟨_, rfl, run_move (.tmp 0) rfl (h.var n 0 (by kernel_rfl))⟩⟩
            · exact .inl ⟨by kernel_rfl, fun L a1 w1 n h => ⟨_, rfl, run_sliceStrL 9 (.tmp 26) (.const (.int .i64 3)) (a :: 45 :: b :: r) 3 rfl Tryd.underlying9 (h.dep n 2 26 (by kernel_rfl) rfl) rfl (by simp)⟩⟩
            · exact .inl ⟨by kernel_rfl, fun L a1 w1 n h => ⟨_, rfl, run_assign (.tmp 25) rfl (h.dep n 1 25 (by kernel_rfl) rfl)⟩⟩
            · exact .inl ⟨by kernel_rfl, fun L a1 w1 n h => ⟨_, rfl, run_assign (.tmp 27) rfl (h.dep n 3 27 (by kernel_rfl) rfl)⟩⟩
          case he4 =>
            intro V w2 hV hJ
            have b2 : Below w1.heap.size w1 w2 := hJ
            have h1 : V 4 = .int .u8 (b.toNat : Int) := hV 4 _ rfl
            have h2 : V 5 = encStr r := hV 5 _ rfl
            clear hV hJ
            simp only [putOps, List.setIfInBounds_toArray, List.set_cons_succ, List.set_cons_zero, Nat.reduceAdd]
            rw [h1, h2]
            clear h1 h2
            refine hK4 _ _ ?_
            have bw := bw.trans (b2.mono bw.size)
            clear b2
            by_cases q1 : (a.toNat : Int) ≤ (c.toNat : Int)
            · by_cases q2 : (c.toNat : Int) ≤ (b.toNat : Int)
              · go_wp2_with fail
                go_ret
                exact ⟨by rw [← ht.out, e9.out, decide_eq_true ((u8_le _ _).1 q1), decide_eq_true ((u8_le _ _).1 q2)]; rfl, bw⟩
              · have e8 : tellsL l c = tellsL r c := by rw [← ht.out, e9.out, decide_eq_false (fun h => q2 ((u8_le _ _).2 h)), Bool.and_false, Bool.false_or]
                replace e8 := hide e8
                go_wp2_with fail
                go_roundw
                case rel => exact ⟨r, rfl, by first | (simp at hr; omega) | (simp at hr ⊢; omega) | simp, e8.out.symm, bw⟩
                case measure => first | (simp [ByteArray.size]; done) | (simp [ByteArray.size]; omega)
            · have e8 : tellsL l c = tellsL r c := by rw [← ht.out, e9.out, decide_eq_false (fun h => q1 ((u8_le _ _).2 h)), Bool.false_and, Bool.false_or]
              replace e8 := hide e8
              go_wp2_with fail
              go_roundw
              case rel => exact ⟨r, rfl, by first | (simp at hr; omega) | (simp at hr ⊢; omega) | simp, e8.out.symm, bw⟩
              case measure => first | (simp [ByteArray.size]; done) | (simp [ByteArray.size]; omega)
        · have e9 := hide (tells_short a r c hg)
          have hgl : r = [] ∨ (∃ x, r = [x]) ∨ ∃ x b q, r = x :: b :: q ∧ x ≠ 45 := by
            match r, hg with
            | [], _ => exact .inl rfl
            | [x], _ => exact .inr (.inl ⟨x, rfl⟩)
            | x :: b :: q, h => exact .inr (.inr ⟨x, b, q, rfl, fun e => h ⟨by simp, by simp [e]⟩⟩)
          clear hg
          rcases hgl with rfl | ⟨x, rfl⟩ | ⟨x, b, r, rfl, hx⟩
          · have hlen := hide (str_len [a])
            by_cases q1 : (a.toNat : Int) ≤ (c.toNat : Int)
            · by_cases q2 : (c.toNat : Int) ≤ (a.toNat : Int)
              · go_wp2_with fail
                go_ret
                exact ⟨by rw [← ht.out, e9.out, decide_eq_true ((u8_le _ _).1 q1), decide_eq_true ((u8_le _ _).1 q2)]; rfl, bw⟩
              · have e8 : tellsL l c = tellsL [] c := by rw [← ht.out, e9.out, decide_eq_false (fun h => q2 ((u8_le _ _).2 h)), Bool.and_false, Bool.false_or]
                replace e8 := hide e8
                go_wp2_with fail
                go_roundw
                case rel => exact ⟨[], rfl, by first | (simp at hr; omega) | (simp at hr ⊢; omega) | simp, e8.out.symm, bw⟩
                case measure => first | (simp [ByteArray.size]; done) | (simp [ByteArray.size]; omega)
            · have e8 : tellsL l c = tellsL [] c := by rw [← ht.out, e9.out, decide_eq_false (fun h => q1 ((u8_le _ _).2 h)), Bool.false_and, Bool.false_or]
              replace e8 := hide e8
              go_wp2_with fail
              go_roundw
              case rel => exact ⟨[], rfl, by first | (simp at hr; omega) | (simp at hr ⊢; omega) | simp, e8.out.symm, bw⟩
              case measure => first | (simp [ByteArray.size]; done) | (simp [ByteArray.size]; omega)
          · have hlen := hide (str_len [a, x])
            by_cases q1 : (a.toNat : Int) ≤ (c.toNat : Int)
            · by_cases q2 : (c.toNat : Int) ≤ (a.toNat : Int)
              · go_wp2_with fail
                go_ret
                exact ⟨by rw [← ht.out, e9.out, decide_eq_true ((u8_le _ _).1 q1), decide_eq_true ((u8_le _ _).1 q2)]; rfl, bw⟩
              · have e8 : tellsL l c = tellsL [x] c := by rw [← ht.out, e9.out, decide_eq_false (fun h => q2 ((u8_le _ _).2 h)), Bool.and_false, Bool.false_or]
                replace e8 := hide e8
                go_wp2_with fail
                go_roundw
                case rel => exact ⟨[x], rfl, by first | (simp at hr; omega) | (simp at hr ⊢; omega) | simp, e8.out.symm, bw⟩
                case measure => first | (simp [ByteArray.size]; done) | (simp [ByteArray.size]; omega)
            · have e8 : tellsL l c = tellsL [x] c := by rw [← ht.out, e9.out, decide_eq_false (fun h => q1 ((u8_le _ _).2 h)), Bool.false_and, Bool.false_or]
              replace e8 := hide e8
              go_wp2_with fail
              go_roundw
              case rel => exact ⟨[x], rfl, by first | (simp at hr; omega) | (simp at hr ⊢; omega) | simp, e8.out.symm, bw⟩
              case measure => first | (simp [ByteArray.size]; done) | (simp [ByteArray.size]; omega)
          · have hx5 : ((x.toNat : Int) == 45) = false := by
              rw [Bool.eq_false_iff]
              intro h
              have h : (x.toNat : Int) = 45 := by simpa using h
              exact hx (UInt8.toNat_inj.1 (by show x.toNat = 45; omega))
            have hz : (2 : Int) < ((a :: x :: b :: r).length : Int) := by simp; omega
            by_cases q1 : (a.toNat : Int) ≤ (c.toNat : Int)
            · by_cases q2 : (c.toNat : Int) ≤ (a.toNat : Int)
              · go_wp2_with (first
                | (refine wg_run (o := ⟨some 21, _, _, _, _, _⟩) 3 true 19 rfl rfl rfl (.int .u8 (x.toNat : Int)) (run_idxStr 9 (.tmp 20) (.const (.int .i64 1)) (a :: x :: b :: r) 1 x rfl Tryd.underlying9 rfl rfl rfl) ?_))
                go_ret
                exact ⟨by rw [← ht.out, e9.out, decide_eq_true ((u8_le _ _).1 q1), decide_eq_true ((u8_le _ _).1 q2)]; rfl, bw⟩
              · have e8 : tellsL l c = tellsL (x :: b :: r) c := by rw [← ht.out, e9.out, decide_eq_false (fun h => q2 ((u8_le _ _).2 h)), Bool.and_false, Bool.false_or]
                replace e8 := hide e8
                go_wp2_with (first
                | (refine wg_run (o := ⟨some 21, _, _, _, _, _⟩) 3 true 19 rfl rfl rfl (.int .u8 (x.toNat : Int)) (run_idxStr 9 (.tmp 20) (.const (.int .i64 1)) (a :: x :: b :: r) 1 x rfl Tryd.underlying9 rfl rfl rfl) ?_))
                go_roundw
                case rel => exact ⟨(x :: b :: r), rfl, by first | (simp at hr; omega) | (simp at hr ⊢; omega) | simp, e8.out.symm, bw⟩
                case measure => first | (simp [ByteArray.size]; done) | (simp [ByteArray.size]; omega)
            · have e8 : tellsL l c = tellsL (x :: b :: r) c := by rw [← ht.out, e9.out, decide_eq_false (fun h => q1 ((u8_le _ _).2 h)), Bool.false_and, Bool.false_or]
              replace e8 := hide e8
              go_wp2_with (first
                | (refine wg_run (o := ⟨some 21, _, _, _, _, _⟩) 3 true 19 rfl rfl rfl (.int .u8 (x.toNat : Int)) (run_idxStr 9 (.tmp 20) (.const (.int .i64 1)) (a :: x :: b :: r) 1 x rfl Tryd.underlying9 rfl rfl rfl) ?_))
              go_roundw
              case rel => exact ⟨(x :: b :: r), rfl, by first | (simp at hr; omega) | (simp at hr ⊢; omega) | simp, e8.out.symm, bw⟩
              case measure => first | (simp [ByteArray.size]; done) | (simp [ByteArray.size]; omega)
end Go.Proofs.YtolmomnocfkhoaaDoor

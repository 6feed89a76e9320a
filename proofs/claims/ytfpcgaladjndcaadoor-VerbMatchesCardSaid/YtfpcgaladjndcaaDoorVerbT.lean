/-
  Patterns: the document's side: a first part. Contract. Own work.
-/
import Derived.Test.YtfpcgaladjndcaaDoorVerbS
namespace Go.Proofs.YtfpcgaladjndcaaDoor
open Go.RowKit
set_option linter.unusedVariables false
set_option linter.unusedSimpArgs false
def FstRes (p : List UInt8) (q : Pt × List UInt8) (c : UInt8) (w : World) (e : Ending) (w' : World) : Prop := ∃ n : Nat, e = .returned (.tuple #[.bool (q.1.takes c), .int .i64 (n : Int)]) ∧ p.drop n = q.2 ∧ 1 ≤ n ∧ n ≤ p.length ∧ w = w'
theorem takes0 (d c : UInt8) : Pt.takes ⟨0, [d]⟩ c = (d == c) := by
  unfold Pt.takes
  rw [if_pos rfl]
  rfl
theorem u8_eqI (d c : UInt8) : ((d.toNat : Int) == (c.toNat : Int)) = (d == c) := by
  rw [Bool.eq_iff_iff]
  simp only [beq_iff_eq, ← UInt8.toNat_inj]
  omega
set_option maxRecDepth 100000 in
set_option maxHeartbeats 4000000 in
theorem first_any (w : World) (a : UInt8) (rest : List UInt8) (c : UInt8) (h42 : a.toNat ≠ 42) (hl : rest.length ≤ 1000) :
    Calls Tryd.prog 38 #[encStr (a :: rest), .int .u8 (c.toNat : Int)] w (FstRes (a :: rest) (cutPartL a rest) c w) := by
  have hab := u8_lt a
  have hcb := u8_lt c
  have n42 : a ≠ 42 := fun e => h42 (by rw [e]; rfl)
  have hlI : (rest.length : Int) ≤ 1000 := by omega
  by_cases h63 : a.toNat = 63
  · have hv : cutPartL a rest = (⟨2, []⟩, rest) ∧ True := ⟨by
      obtain rfl : a = 63 := UInt8.toNat_inj.1 h63
      rfl, trivial⟩
    have q63 : ((a.toNat : Int) == 63) = true := by rw [beq_iff_eq]; omega
    replace hv := hide hv
    go_enter Tryd.func38, Tryd.ntmps38
    go_wp2_with (first
      | (with_reducible refine wl_run (o := ⟨some 8, _, _, _, _, _⟩) rfl (.int .u8 (a.toNat : Int)) (run_idxStr 9 (.tmp 7) (.const (.int .i64 0)) (a :: rest) 0 a rfl Tryd.underlying9 rfl rfl rfl) ?_)
      | (with_reducible refine wl_run (o := ⟨some 11, _, _, _, _, _⟩) rfl (.int .u8 (a.toNat : Int)) (run_idxStr 9 (.tmp 10) (.const (.int .i64 0)) (a :: rest) 0 a rfl Tryd.underlying9 rfl rfl rfl) ?_)
      | (with_reducible refine wl_run (o := ⟨some 23, _, _, _, _, _⟩) rfl (.int .u8 (a.toNat : Int)) (run_idxStr 9 (.tmp 22) (.const (.int .i64 0)) (a :: rest) 0 a rfl Tryd.underlying9 rfl rfl rfl) ?_)
      | (with_reducible refine wl_run (o := ⟨some 30, _, _, _, _, _⟩) rfl (.int .u8 (a.toNat : Int)) (run_idxStr 9 (.tmp 29) (.const (.int .i64 0)) (a :: rest) 0 a rfl Tryd.underlying9 rfl rfl rfl) ?_))
    go_ret2
    exact ⟨1, by rw [hv.out.1]; rfl, by rw [hv.out.1]; rfl, Nat.le_refl _, by simp, rfl⟩
  by_cases h92 : a.toNat = 92
  · cases rest with
    | nil =>
      have hv : cutPartL a [] = (⟨0, [a]⟩, []) ∧ True := ⟨by
        obtain rfl : a = 92 := UInt8.toNat_inj.1 h92
        rfl, trivial⟩
      have q63 : ((a.toNat : Int) == 63) = false := beq_eq_false_iff_ne.2 (by omega)
      have q92 : ((a.toNat : Int) == 92) = true := by rw [beq_iff_eq]; omega
      have q91 : ((a.toNat : Int) == 91) = false := beq_eq_false_iff_ne.2 (by omega)
      obtain ⟨E, hE⟩ : ∃ E, E = (a == c) := ⟨_, rfl⟩
      have hEI : ((a.toNat : Int) == (c.toNat : Int)) = E := by rw [u8_eqI, hE]
      replace hE := hide hE
      replace hv := hide hv
      clear h92 h63
      go_enter Tryd.func38, Tryd.ntmps38
      go_wp2_with (first
        | (with_reducible refine wl_run (o := ⟨some 8, _, _, _, _, _⟩) rfl (.int .u8 (a.toNat : Int)) (run_idxStr 9 (.tmp 7) (.const (.int .i64 0)) [a] 0 a rfl Tryd.underlying9 rfl rfl rfl) ?_)
        | (with_reducible refine wl_run (o := ⟨some 11, _, _, _, _, _⟩) rfl (.int .u8 (a.toNat : Int)) (run_idxStr 9 (.tmp 10) (.const (.int .i64 0)) [a] 0 a rfl Tryd.underlying9 rfl rfl rfl) ?_)
        | (with_reducible refine wl_run (o := ⟨some 23, _, _, _, _, _⟩) rfl (.int .u8 (a.toNat : Int)) (run_idxStr 9 (.tmp 22) (.const (.int .i64 0)) [a] 0 a rfl Tryd.underlying9 rfl rfl rfl) ?_)
        | (with_reducible refine wl_run (o := ⟨some 30, _, _, _, _, _⟩) rfl (.int .u8 (a.toNat : Int)) (run_idxStr 9 (.tmp 29) (.const (.int .i64 0)) [a] 0 a rfl Tryd.underlying9 rfl rfl rfl) ?_)
        | (refine wg_run (o := ⟨some 15, _, _, _, _, _⟩) 3 true 13 rfl rfl rfl (.int .i64 1) (run_lenStr 9 (.tmp 14) [a] rfl Tryd.underlying9 rfl) ?_))
      go_ret2
      exact ⟨1, by rw [hv.out.1, takes0, ← hE.out]; rfl, by rw [hv.out.1]; rfl, Nat.le_refl _, by simp, rfl⟩
    | cons d r =>
      have hv : cutPartL a (d :: r) = (⟨0, [d]⟩, r) ∧ True := ⟨by
        obtain rfl : a = 92 := UInt8.toNat_inj.1 h92
        rfl, trivial⟩
      have q63 : ((a.toNat : Int) == 63) = false := beq_eq_false_iff_ne.2 (by omega)
      have q92 : ((a.toNat : Int) == 92) = true := by rw [beq_iff_eq]; omega
      obtain ⟨E, hE⟩ : ∃ E, E = (d == c) := ⟨_, rfl⟩
      have hEI : ((d.toNat : Int) == (c.toNat : Int)) = E := by rw [u8_eqI, hE]
      replace hE := hide hE
      replace hv := hide hv
      have hln : (1 : Int) < ((a :: d :: r).length : Int) := by simp; omega
      go_enter Tryd.func38, Tryd.ntmps38
      go_wp2_with (first
        | (with_reducible refine wl_run (o := ⟨some 8, _, _, _, _, _⟩) rfl (.int .u8 (a.toNat : Int)) (run_idxStr 9 (.tmp 7) (.const (.int .i64 0)) (a :: d :: r) 0 a rfl Tryd.underlying9 rfl rfl rfl) ?_)
        | (with_reducible refine wl_run (o := ⟨some 11, _, _, _, _, _⟩) rfl (.int .u8 (a.toNat : Int)) (run_idxStr 9 (.tmp 10) (.const (.int .i64 0)) (a :: d :: r) 0 a rfl Tryd.underlying9 rfl rfl rfl) ?_)
        | (with_reducible refine wl_run (o := ⟨some 23, _, _, _, _, _⟩) rfl (.int .u8 (a.toNat : Int)) (run_idxStr 9 (.tmp 22) (.const (.int .i64 0)) (a :: d :: r) 0 a rfl Tryd.underlying9 rfl rfl rfl) ?_)
        | (with_reducible refine wl_run (o := ⟨some 30, _, _, _, _, _⟩) rfl (.int .u8 (a.toNat : Int)) (run_idxStr 9 (.tmp 29) (.const (.int .i64 0)) (a :: d :: r) 0 a rfl Tryd.underlying9 rfl rfl rfl) ?_)
        | (with_reducible refine wl_run (o := ⟨some 19, _, _, _, _, _⟩) rfl (.int .u8 (d.toNat : Int)) (run_idxStr 9 (.tmp 18) (.const (.int .i64 1)) (a :: d :: r) 1 d rfl Tryd.underlying9 rfl rfl rfl) ?_)
        | (refine wg_run (o := ⟨some 15, _, _, _, _, _⟩) 3 true 13 rfl rfl rfl (.int .i64 ((a :: d :: r).length : Int)) (run_lenStr 9 (.tmp 14) (a :: d :: r) rfl Tryd.underlying9 rfl) ?_))
      go_ret2
      exact ⟨2, by rw [hv.out.1, takes0, ← hE.out]; rfl, by rw [hv.out.1]; rfl, by decide, by simp, rfl⟩
  by_cases h91 : a.toNat = 91
  · have e91 : a = 91 := UInt8.toNat_inj.1 h91
    have q63 : ((a.toNat : Int) == 63) = false := beq_eq_false_iff_ne.2 (by omega)
    have q92 : ((a.toNat : Int) == 92) = false := beq_eq_false_iff_ne.2 (by omega)
    have q91 : ((a.toNat : Int) == 91) = true := by rw [beq_iff_eq]; omega
    replace e91 := hide e91
    clear h91 h63 h92
    obtain ⟨fr, hfr⟩ : ∃ fr, fr = if (a :: rest : List UInt8)[1]? = some 94 then 2 else 1 := ⟨_, rfl⟩
    have hEd := fun w => endW w (a :: rest) fr hfr (by simp; omega)
    obtain ⟨ng, hng⟩ : ∃ ng : Bool, cutClassL rest = classAt ng ((a :: rest : List UInt8).drop fr) ∧ fr = (if ng then 2 else 1) ∧ (ng = true ↔ (a :: rest : List UInt8)[1]? = some 94) := by
      cases rest with
      | nil => exact ⟨false, by rw [hfr]; rfl, by rw [hfr]; rfl, by simp⟩
      | cons x t =>
        by_cases hx : x = 94
        · subst hx
          exact ⟨true, by rw [hfr]; rfl, by rw [hfr]; rfl, by simp⟩
        · exact ⟨false, by rw [cutClassL_no (by simpa using hx), hfr]; simp [hx], by rw [hfr]; simp [hx], by simp [hx]⟩
    obtain ⟨hcl, hfr2, hng2⟩ := hng
    have hcls := endF_class (p := a :: rest) (fr := fr) ng (by rw [hfr2]; split <;> omega)
    rw [← hcl] at hcls
    generalize endF fr (a :: rest) = k at *
    rcases hcls with ⟨rfl, hnone⟩ | ⟨hk1, hk2, hsome⟩
    · have hv : cutPartL a rest = (⟨0, [a]⟩, rest) ∧ True := ⟨by
        rw [e91.out]
        show (match cutClassL rest with | some q => q | none => _) = _
        rw [hnone], trivial⟩
      obtain ⟨E, hE⟩ : ∃ E, E = (a == c) := ⟨_, rfl⟩
      have hEI : ((a.toNat : Int) == (c.toNat : Int)) = E := by rw [u8_eqI, hE]
      replace hE := hide hE
      replace hv := hide hv
      clear hcl hnone hfr hfr2 hng2
      have q0 : (((0 : Nat) : Int) == 0) = true := rfl
      go_enter Tryd.func38, Tryd.ntmps38
      go_wp2_with (first
        | (with_reducible refine wl_run (o := ⟨some 8, _, _, _, _, _⟩) rfl (.int .u8 (a.toNat : Int)) (run_idxStr 9 (.tmp 7) (.const (.int .i64 0)) (a :: rest) 0 a rfl Tryd.underlying9 rfl rfl rfl) ?_)
        | (with_reducible refine wl_run (o := ⟨some 11, _, _, _, _, _⟩) rfl (.int .u8 (a.toNat : Int)) (run_idxStr 9 (.tmp 10) (.const (.int .i64 0)) (a :: rest) 0 a rfl Tryd.underlying9 rfl rfl rfl) ?_)
        | (with_reducible refine wl_run (o := ⟨some 23, _, _, _, _, _⟩) rfl (.int .u8 (a.toNat : Int)) (run_idxStr 9 (.tmp 22) (.const (.int .i64 0)) (a :: rest) 0 a rfl Tryd.underlying9 rfl rfl rfl) ?_)
        | (with_reducible refine wl_run (o := ⟨some 30, _, _, _, _, _⟩) rfl (.int .u8 (a.toNat : Int)) (run_idxStr 9 (.tmp 29) (.const (.int .i64 0)) (a :: rest) 0 a rfl Tryd.underlying9 rfl rfl rfl) ?_))
      refine (hEd w).mono ?_
      rintro e w3 ⟨rfl, rfl⟩
      go_wp2_with (first
        | (with_reducible refine wl_run (o := ⟨some 8, _, _, _, _, _⟩) rfl (.int .u8 (a.toNat : Int)) (run_idxStr 9 (.tmp 7) (.const (.int .i64 0)) (a :: rest) 0 a rfl Tryd.underlying9 rfl rfl rfl) ?_)
        | (with_reducible refine wl_run (o := ⟨some 11, _, _, _, _, _⟩) rfl (.int .u8 (a.toNat : Int)) (run_idxStr 9 (.tmp 10) (.const (.int .i64 0)) (a :: rest) 0 a rfl Tryd.underlying9 rfl rfl rfl) ?_)
        | (with_reducible refine wl_run (o := ⟨some 23, _, _, _, _, _⟩) rfl (.int .u8 (a.toNat : Int)) (run_idxStr 9 (.tmp 22) (.const (.int .i64 0)) (a :: rest) 0 a rfl Tryd.underlying9 rfl rfl rfl) ?_)
        | (with_reducible refine wl_run (o := ⟨some 30, _, _, _, _, _⟩) rfl (.int .u8 (a.toNat : Int)) (run_idxStr 9 (.tmp 29) (.const (.int .i64 0)) (a :: rest) 0 a rfl Tryd.underlying9 rfl rfl rfl) ?_))
      go_ret2
      exact ⟨1, by rw [hv.out.1, takes0, ← hE.out]; rfl, by rw [hv.out.1]; rfl, Nat.le_refl _, by simp, rfl⟩
    · have hv : cutPartL a rest = (⟨if ng then 1 else 0, ((a :: rest : List UInt8).take k).drop fr⟩, (a :: rest : List UInt8).drop (k + 1)) ∧ True := ⟨by
        rw [show cutPartL a rest = (match cutClassL rest with | some q => q | none => (⟨0, [a]⟩, rest)) by rw [e91.out]; rfl, hsome], trivial⟩
      have hIn := fun w => in_any w (((a :: rest : List UInt8).take k).drop fr) c (by simp; omega)
      obtain ⟨x, hx⟩ : ∃ x, (a :: rest : List UInt8)[1]? = some x := ⟨_, List.getElem?_eq_getElem (by have : 0 < fr := by { rw [hfr2]; split <;> omega }; omega)⟩
      have hxq : ((x.toNat : Int) == 94) = ng := by
        rw [hx] at hng2
        rw [Bool.eq_iff_iff, hng2, beq_iff_eq]
        simp only [Option.some.injEq, ← UInt8.toNat_inj]
        show _ ↔ x.toNat = 94
        omega
      have hk0 : ((k : Int) == 0) = false := beq_eq_false_iff_ne.2 (by omega)
      have hkI : (k : Int) ≤ 1001 := by simp at hk2; omega
      have hk0' : (0 : Int) ≤ (k : Int) := by omega
      have hkl := hide (Nat.le_of_lt hk2)
      have hk1' := hide (Nat.le_of_lt hk1)
      have hkz := hide (show IntKind.i64.wrap ((k : Int) + 1) = ((k + 1 : Nat) : Int) from wrap_id (by omega) (by omega) (by omega))
      replace hx := hide hx
      have hk2' := hide hk2
      clear hcl hsome hfr hng2 hk1 hk2
      obtain ⟨P, hP⟩ : ∃ P, P = (a :: rest : List UInt8) := ⟨_, rfl⟩
      have hP0 := hide (show P[0]? = some a by rw [hP]; rfl)
      rw [← hP] at hEd hv hIn hkl hx hk2'
      rw [← hP]
      clear hP
      obtain ⟨SL, hSL⟩ : ∃ SL, SL = (P.take k).drop fr := ⟨_, rfl⟩
      rw [← hSL] at hIn hv
      replace hSL := hide hSL
      obtain ⟨TT, hTT⟩ : ∃ TT, TT = tellsL SL c := ⟨_, rfl⟩
      rw [← hTT] at hIn
      replace hTT := hide hTT
      replace hv := hide hv
      cases ng with
      | true =>
        obtain rfl : fr = 2 := hfr2
        have hfin : (cutPartL a rest).1.takes c = !TT := by
          rw [hv.out.1, hTT.out]
          unfold Pt.takes
          simp
        replace hfin := hide hfin
        go_enter Tryd.func38, Tryd.ntmps38
        go_wp2_with (first
          | (with_reducible refine wl_run (o := ⟨some 8, _, _, _, _, _⟩) rfl (.int .u8 (a.toNat : Int)) (run_idxStr 9 (.tmp 7) (.const (.int .i64 0)) P 0 a rfl Tryd.underlying9 rfl rfl hP0.out) ?_)
          | (with_reducible refine wl_run (o := ⟨some 11, _, _, _, _, _⟩) rfl (.int .u8 (a.toNat : Int)) (run_idxStr 9 (.tmp 10) (.const (.int .i64 0)) P 0 a rfl Tryd.underlying9 rfl rfl hP0.out) ?_)
          | (with_reducible refine wl_run (o := ⟨some 23, _, _, _, _, _⟩) rfl (.int .u8 (a.toNat : Int)) (run_idxStr 9 (.tmp 22) (.const (.int .i64 0)) P 0 a rfl Tryd.underlying9 rfl rfl hP0.out) ?_)
          | (with_reducible refine wl_run (o := ⟨some 30, _, _, _, _, _⟩) rfl (.int .u8 (a.toNat : Int)) (run_idxStr 9 (.tmp 29) (.const (.int .i64 0)) P 0 a rfl Tryd.underlying9 rfl rfl hP0.out) ?_))
        refine (hEd w).mono ?_
        rintro e w3 ⟨rfl, rfl⟩
        go_wp2_with (first
          | (with_reducible refine wl_run (o := ⟨some 8, _, _, _, _, _⟩) rfl (.int .u8 (a.toNat : Int)) (run_idxStr 9 (.tmp 7) (.const (.int .i64 0)) P 0 a rfl Tryd.underlying9 rfl rfl hP0.out) ?_)
          | (with_reducible refine wl_run (o := ⟨some 11, _, _, _, _, _⟩) rfl (.int .u8 (a.toNat : Int)) (run_idxStr 9 (.tmp 10) (.const (.int .i64 0)) P 0 a rfl Tryd.underlying9 rfl rfl hP0.out) ?_)
          | (with_reducible refine wl_run (o := ⟨some 23, _, _, _, _, _⟩) rfl (.int .u8 (a.toNat : Int)) (run_idxStr 9 (.tmp 22) (.const (.int .i64 0)) P 0 a rfl Tryd.underlying9 rfl rfl hP0.out) ?_)
          | (with_reducible refine wl_run (o := ⟨some 30, _, _, _, _, _⟩) rfl (.int .u8 (a.toNat : Int)) (run_idxStr 9 (.tmp 29) (.const (.int .i64 0)) P 0 a rfl Tryd.underlying9 rfl rfl hP0.out) ?_)
          | (with_reducible refine wl_run (o := ⟨some 34, _, _, _, _, _⟩) rfl (.int .u8 (x.toNat : Int)) (run_idxStr 9 (.tmp 33) (.const (.int .i64 1)) P 1 x rfl Tryd.underlying9 rfl rfl hx.out) ?_)
          | (refine wl_run (o := ⟨some 38, _, _, _, _, _⟩) rfl (encStr SL) ((run_sliceStr 9 (.tmp 36) (.const (.int .i64 2)) (.tmp 37) P 2 k rfl Tryd.underlying9 rfl rfl rfl hk1'.out hkl.out).trans (by rw [hSL.out])) ?_))
        refine (hIn w).mono ?_
        rintro e w4 ⟨rfl, rfl⟩
        go_wp2_with (first
          | (with_reducible refine wl_run (o := ⟨some 43, _, _, _, _, _⟩) rfl (.int .i64 ((k + 1 : Nat) : Int)) (run_addZ (.tmp 42) (.const (.int .i64 1)) rfl rfl rfl hkz.out) ?_))
        go_ret2
        exact ⟨k + 1, by rw [hfin.out]; rfl, by rw [hv.out.1], by omega, hk2'.out, rfl⟩
      | false =>
        obtain rfl : fr = 1 := hfr2
        have hfin : (cutPartL a rest).1.takes c = TT := by
          rw [hv.out.1, hTT.out]
          unfold Pt.takes
          simp
        replace hfin := hide hfin
        go_enter Tryd.func38, Tryd.ntmps38
        go_wp2_with (first
          | (with_reducible refine wl_run (o := ⟨some 8, _, _, _, _, _⟩) rfl (.int .u8 (a.toNat : Int)) (run_idxStr 9 (.tmp 7) (.const (.int .i64 0)) P 0 a rfl Tryd.underlying9 rfl rfl hP0.out) ?_)
          | (with_reducible refine wl_run (o := ⟨some 11, _, _, _, _, _⟩) rfl (.int .u8 (a.toNat : Int)) (run_idxStr 9 (.tmp 10) (.const (.int .i64 0)) P 0 a rfl Tryd.underlying9 rfl rfl hP0.out) ?_)
          | (with_reducible refine wl_run (o := ⟨some 23, _, _, _, _, _⟩) rfl (.int .u8 (a.toNat : Int)) (run_idxStr 9 (.tmp 22) (.const (.int .i64 0)) P 0 a rfl Tryd.underlying9 rfl rfl hP0.out) ?_)
          | (with_reducible refine wl_run (o := ⟨some 30, _, _, _, _, _⟩) rfl (.int .u8 (a.toNat : Int)) (run_idxStr 9 (.tmp 29) (.const (.int .i64 0)) P 0 a rfl Tryd.underlying9 rfl rfl hP0.out) ?_))
        refine (hEd w).mono ?_
        rintro e w3 ⟨rfl, rfl⟩
        go_wp2_with (first
          | (with_reducible refine wl_run (o := ⟨some 8, _, _, _, _, _⟩) rfl (.int .u8 (a.toNat : Int)) (run_idxStr 9 (.tmp 7) (.const (.int .i64 0)) P 0 a rfl Tryd.underlying9 rfl rfl hP0.out) ?_)
          | (with_reducible refine wl_run (o := ⟨some 11, _, _, _, _, _⟩) rfl (.int .u8 (a.toNat : Int)) (run_idxStr 9 (.tmp 10) (.const (.int .i64 0)) P 0 a rfl Tryd.underlying9 rfl rfl hP0.out) ?_)
          | (with_reducible refine wl_run (o := ⟨some 23, _, _, _, _, _⟩) rfl (.int .u8 (a.toNat : Int)) (run_idxStr 9 (.tmp 22) (.const (.int .i64 0)) P 0 a rfl Tryd.underlying9 rfl rfl hP0.out) ?_)
          | (with_reducible refine wl_run (o := ⟨some 30, _, _, _, _, _⟩) rfl (.int .u8 (a.toNat : Int)) (run_idxStr 9 (.tmp 29) (.const (.int .i64 0)) P 0 a rfl Tryd.underlying9 rfl rfl hP0.out) ?_)
          | (with_reducible refine wl_run (o := ⟨some 34, _, _, _, _, _⟩) rfl (.int .u8 (x.toNat : Int)) (run_idxStr 9 (.tmp 33) (.const (.int .i64 1)) P 1 x rfl Tryd.underlying9 rfl rfl hx.out) ?_)
          | (refine wl_run (o := ⟨some 46, _, _, _, _, _⟩) rfl (encStr SL) ((run_sliceStr 9 (.tmp 44) (.const (.int .i64 1)) (.tmp 45) P 1 k rfl Tryd.underlying9 rfl rfl rfl hk1'.out hkl.out).trans (by rw [hSL.out])) ?_))
        refine (hIn w).mono ?_
        rintro e w4 ⟨rfl, rfl⟩
        go_wp2_with (first
          | (with_reducible refine wl_run (o := ⟨some 50, _, _, _, _, _⟩) rfl (.int .i64 ((k + 1 : Nat) : Int)) (run_addZ (.tmp 49) (.const (.int .i64 1)) rfl rfl rfl hkz.out) ?_))
        go_ret2
        exact ⟨k + 1, by rw [hfin.out]; rfl, by rw [hv.out.1], by omega, hk2'.out, rfl⟩
  have hv : cutPartL a rest = (⟨0, [a]⟩, rest) ∧ True := ⟨by
    have a2 : a ≠ 63 := fun e => h63 (by rw [e]; rfl)
    have a3 : a ≠ 91 := fun e => h91 (by rw [e]; rfl)
    have a4 : a ≠ 92 := fun e => h92 (by rw [e]; rfl)
    unfold cutPartL
    rw [if_neg n42, if_neg a2, if_neg a3, if_neg a4], trivial⟩
  have q63 : ((a.toNat : Int) == 63) = false := beq_eq_false_iff_ne.2 (by omega)
  have q92 : ((a.toNat : Int) == 92) = false := beq_eq_false_iff_ne.2 (by omega)
  have q91 : ((a.toNat : Int) == 91) = false := beq_eq_false_iff_ne.2 (by omega)
  obtain ⟨E, hE⟩ : ∃ E, E = (a == c) := ⟨_, rfl⟩
  have hEI : ((a.toNat : Int) == (c.toNat : Int)) = E := by rw [u8_eqI, hE]
  replace hE := hide hE
  replace hv := hide hv
  go_enter Tryd.func38, Tryd.ntmps38
  go_wp2_with (first
    | (with_reducible refine wl_run (o := ⟨some 8, _, _, _, _, _⟩) rfl (.int .u8 (a.toNat : Int)) (run_idxStr 9 (.tmp 7) (.const (.int .i64 0)) (a :: rest) 0 a rfl Tryd.underlying9 rfl rfl rfl) ?_)
    | (with_reducible refine wl_run (o := ⟨some 11, _, _, _, _, _⟩) rfl (.int .u8 (a.toNat : Int)) (run_idxStr 9 (.tmp 10) (.const (.int .i64 0)) (a :: rest) 0 a rfl Tryd.underlying9 rfl rfl rfl) ?_)
    | (with_reducible refine wl_run (o := ⟨some 23, _, _, _, _, _⟩) rfl (.int .u8 (a.toNat : Int)) (run_idxStr 9 (.tmp 22) (.const (.int .i64 0)) (a :: rest) 0 a rfl Tryd.underlying9 rfl rfl rfl) ?_)
    | (with_reducible refine wl_run (o := ⟨some 30, _, _, _, _, _⟩) rfl (.int .u8 (a.toNat : Int)) (run_idxStr 9 (.tmp 29) (.const (.int .i64 0)) (a :: rest) 0 a rfl Tryd.underlying9 rfl rfl rfl) ?_))
  go_ret2
  exact ⟨1, by rw [hv.out.1, takes0, ← hE.out]; rfl, by rw [hv.out.1]; rfl, Nat.le_refl _, by simp, rfl⟩
end Go.Proofs.YtfpcgaladjndcaaDoor

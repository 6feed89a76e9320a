/-
  Patterns: the document's side: where brackets end, a first part. Contracts. Own work.
-/
import Derived.Test.YtfpcgaladjndcaaDoorVerbR
namespace Go.Proofs.YtfpcgaladjndcaaDoor
open Go.RowKit
set_option linter.unusedVariables false
set_option linter.unusedSimpArgs false
theorem idx_yes : ∀ (l : List UInt8) (c : UInt8) (m : Nat), l[m]? = some c → (∀ j, j < m → l[j]? ≠ some c) → Lib.indexByte l c = (m : Int)
  | [], c, m, h, _ => by simp at h
  | b :: l, c, 0, h, _ => by
    obtain rfl : b = c := by simpa using h
    unfold Lib.indexByte
    simp
  | b :: l, c, m + 1, h, hn => by
    have hb : b ≠ c := fun e => hn 0 (by omega) (by simp [e])
    have ih := idx_yes l c m (by simpa using h) (fun j hj e => hn (j + 1) (by omega) (by simpa using e))
    unfold Lib.indexByte
    rw [if_neg (by simpa using hb), ih, if_neg (by simp)]
    omega
theorem idx_no : ∀ (l : List UInt8) (c : UInt8), (∀ j : Nat, l[j]? ≠ some c) → Lib.indexByte l c = -1
  | [], c, _ => rfl
  | b :: l, c, hn => by
    have hb : b ≠ c := fun e => hn 0 (by simp [e])
    have ih := idx_no l c (fun j e => hn (j + 1) (by simpa using e))
    unfold Lib.indexByte
    rw [if_neg (by simpa using hb), ih]
    rfl
/-- Where a ] stands behind a first byte; 0: nowhere. -/
def endF (fr : Nat) (p : List UInt8) : Nat := match p.drop fr with
  | [] => 0
  | _ :: tl => if Lib.indexByte tl 93 = -1 then 0 else fr + 1 + (Lib.indexByte tl 93).toNat
theorem drop_tl {p : List UInt8} {fr : Nat} {a : UInt8} {tl : List UInt8} (h : p.drop fr = a :: tl) : tl = p.drop (fr + 1) := by
  have := congrArg (List.drop 1) h
  rw [List.drop_drop] at this
  simpa using this.symm
theorem endF_yes {fr i : Nat} {p : List UInt8} (h : fr + 1 ≤ i) (hi : p[i]? = some 93) (hn : ∀ j, fr + 1 ≤ j → j < i → p[j]? ≠ some 93) : endF fr p = i := by
  have hl := lt_of_get hi
  unfold endF
  split
  · rename_i he
    have := congrArg List.length he
    simp at this; omega
  · rename_i a tl he
    have ht := drop_tl he
    have e := idx_yes tl 93 (i - (fr + 1)) (by rw [ht, List.getElem?_drop, show fr + 1 + (i - (fr + 1)) = i by omega]; exact hi) (fun j hj e => hn (fr + 1 + j) (by omega) (by omega) (by rw [ht, List.getElem?_drop] at e; exact e))
    rw [e, if_neg (by omega)]
    omega
theorem endF_no {fr : Nat} {p : List UInt8} (hn : ∀ j, fr + 1 ≤ j → p[j]? ≠ some 93) : endF fr p = 0 := by
  unfold endF
  split
  · rfl
  · rename_i a tl he
    have ht := drop_tl he
    rw [idx_no tl 93 (fun j e => hn (fr + 1 + j) (by omega) (by rw [ht, List.getElem?_drop] at e; exact e)), if_pos rfl]
theorem endF_class {fr : Nat} {p : List UInt8} (ng : Bool) (h0 : 0 < fr) : (endF fr p = 0 ∧ classAt ng (p.drop fr) = none) ∨ (fr < endF fr p ∧ endF fr p < p.length ∧ classAt ng (p.drop fr) = some (⟨if ng then 1 else 0, (p.take (endF fr p)).drop fr⟩, p.drop (endF fr p + 1))) := by
  unfold endF
  split
  · rename_i he
    exact .inl ⟨rfl, by rw [he]; rfl⟩
  · rename_i a tl he
    have ht := drop_tl he
    rw [he]
    simp only [classAt]
    by_cases hz : Lib.indexByte tl 93 = -1
    · exact .inl ⟨by rw [if_pos hz], by rw [if_pos hz]⟩
    · have hge := Lib.indexByte_ge tl 93
      have hlt := indexByte_lt tl 93 hz
      have hl2 : tl.length = p.length - (fr + 1) := by rw [ht, List.length_drop]
      have hlp : fr < p.length := by
        have := congrArg List.length he
        simp at this; omega
      right
      rw [if_neg hz, if_neg hz]
      refine ⟨by omega, by omega, ?_⟩
      rw [List.drop_take, he, show fr + 1 + (Lib.indexByte tl 93).toNat - fr = (Lib.indexByte tl 93).toNat + 1 by omega]
      congr 2
      rw [← he, List.drop_drop]
      congr 1
      omega
set_option maxRecDepth 100000 in
set_option maxHeartbeats 1000000 in
theorem endW (w : World) (p : List UInt8) (fr : Nat) (hfr : fr = if p[1]? = some 94 then 2 else 1) (hl : p.length ≤ 1000000) :
    Calls Tryd.prog 51 #[encStr p] w fun e w' => e = .returned (.int .i64 (endF fr p : Int)) ∧ w = w' := by
  have hlI : (p.length : Int) ≤ 1000000 := by omega
  obtain ⟨R, hR⟩ : ∃ R, R = endF fr p := ⟨_, rfl⟩
  rw [← hR]
  replace hR := hide hR
  have hf2 : fr ≤ 2 := by rw [hfr]; split <;> omega
  by_cases h1 : 1 < p.length
  · have h1I : (1 : Int) < (p.length : Int) := by omega
    obtain ⟨c, hc⟩ : ∃ c, p[1]? = some c := ⟨_, List.getElem?_eq_getElem h1⟩
    obtain ⟨B, hB⟩ : ∃ B : Bool, B = decide (c = 94) := ⟨_, rfl⟩
    have hBI : ((c.toNat : Int) == 94) = B := by
      rw [hB, Bool.eq_iff_iff, beq_iff_eq, decide_eq_true_eq, ← UInt8.toNat_inj]
      show _ ↔ c.toNat = 94
      omega
    have hfB : fr = if B then 2 else 1 := by rw [hfr, hc, hB]; simp
    clear hB hfr
    replace hc := hide hc
    cases B with
    | true =>
      obtain rfl : fr = 2 := hfB
      go_enter Tryd.func51, Tryd.ntmps51
      go_wp2_with (first
        | (with_reducible refine wl_run (o := ⟨some 6, _, _, _, _, _⟩) rfl (.int .i64 (p.length : Int)) (run_lenStr 9 (.tmp 5) p rfl Tryd.underlying9 rfl) ?_)
        | (refine wg_run (o := ⟨some 10, _, _, _, _, _⟩) 3 true 8 rfl rfl rfl (.int .u8 (c.toNat : Int)) (run_idxStr 9 (.tmp 9) (.const (.int .i64 1)) p 1 c rfl Tryd.underlying9 rfl rfl hc.out) ?_))
      go_loopw [4] (fun iv wr => ∃ i : Nat, iv = .int .i64 (i : Int) ∧ 2 + 1 ≤ i ∧ i ≤ p.length + 3 ∧ (∀ j, 2 + 1 ≤ j → j < i → p[j]? ≠ some 93) ∧ w = wr) (fun iv _ => p.length - (intOf iv).toNat)
      case atStart => exact ⟨2 + 1, rfl, Nat.le_refl _, by omega, fun j h1 h2 => by omega, rfl⟩
      case round =>
        obtain ⟨i, rfl, hi1, hi3, hno, rfl⟩ := hrel
        replace hno := hide hno
        by_cases hi : i < p.length
        · have hiI : (i : Int) < (p.length : Int) := by omega
          obtain ⟨d, hd⟩ : ∃ d, p[i]? = some d := ⟨_, List.getElem?_eq_getElem hi⟩
          have hdb := u8_lt d
          by_cases h93 : d.toNat = 93
          · have q93 : ((d.toNat : Int) == 93) = true := by rw [beq_iff_eq]; omega
            have hRi : R = i := by
              obtain rfl : d = 93 := UInt8.toNat_inj.1 h93
              rw [hR.out, endF_yes hi1 hd hno.out]
            subst hRi
            replace hd := hide hd
            go_wp2_with (first
              | (with_reducible refine wl_run (o := ⟨some 17, _, _, _, _, _⟩) rfl (.int .i64 (p.length : Int)) (run_lenStr 9 (.tmp 16) p rfl Tryd.underlying9 rfl) ?_)
              | (with_reducible refine wl_run (o := ⟨some 23, _, _, _, _, _⟩) rfl (.int .u8 (d.toNat : Int)) (run_idxStr 9 (.tmp 21) (.tmp 22) p R d rfl Tryd.underlying9 rfl rfl hd.out) ?_))
            go_ret
            exact ⟨rfl, rfl⟩
          · have q93 : ((d.toNat : Int) == 93) = false := beq_eq_false_iff_ne.2 (by omega)
            have hno2 : ∀ j, 2 + 1 ≤ j → j < i + 1 → p[j]? ≠ some 93 := fun j h1 h2 => by
              rcases Nat.lt_or_ge j i with e | e
              · exact hno.out j h1 e
              · obtain rfl : j = i := by omega
                rw [hd]
                intro e2
                injection e2 with e2
                exact h93 (by rw [e2]; rfl)
            replace hno2 := hide hno2
            replace hd := hide hd
            go_wp2_with (first
              | (with_reducible refine wl_run (o := ⟨some 17, _, _, _, _, _⟩) rfl (.int .i64 (p.length : Int)) (run_lenStr 9 (.tmp 16) p rfl Tryd.underlying9 rfl) ?_)
              | (with_reducible refine wl_run (o := ⟨some 23, _, _, _, _, _⟩) rfl (.int .u8 (d.toNat : Int)) (run_idxStr 9 (.tmp 21) (.tmp 22) p i d rfl Tryd.underlying9 rfl rfl hd.out) ?_))
            go_roundw
            case rel => exact ⟨i + 1, by go_num, by omega, by omega, hno2.out, trivial⟩
            case measure => simp [intOf]; omega
        · have hiI : ¬ (i : Int) < (p.length : Int) := by omega
          have hR0 : R = 0 := by
            rw [hR.out]
            exact endF_no fun j h1 e => by
              have := lt_of_get e
              exact hno.out j h1 (by omega) e
          subst hR0
          go_wp2_with (first
            | (with_reducible refine wl_run (o := ⟨some 17, _, _, _, _, _⟩) rfl (.int .i64 (p.length : Int)) (run_lenStr 9 (.tmp 16) p rfl Tryd.underlying9 rfl) ?_))
          go_ret
          exact ⟨rfl, rfl⟩
    | false =>
      obtain rfl : fr = 1 := hfB
      go_enter Tryd.func51, Tryd.ntmps51
      go_wp2_with (first
        | (with_reducible refine wl_run (o := ⟨some 6, _, _, _, _, _⟩) rfl (.int .i64 (p.length : Int)) (run_lenStr 9 (.tmp 5) p rfl Tryd.underlying9 rfl) ?_)
        | (refine wg_run (o := ⟨some 10, _, _, _, _, _⟩) 3 true 8 rfl rfl rfl (.int .u8 (c.toNat : Int)) (run_idxStr 9 (.tmp 9) (.const (.int .i64 1)) p 1 c rfl Tryd.underlying9 rfl rfl hc.out) ?_))
      go_loopw [4] (fun iv wr => ∃ i : Nat, iv = .int .i64 (i : Int) ∧ 1 + 1 ≤ i ∧ i ≤ p.length + 3 ∧ (∀ j, 1 + 1 ≤ j → j < i → p[j]? ≠ some 93) ∧ w = wr) (fun iv _ => p.length - (intOf iv).toNat)
      case atStart => exact ⟨1 + 1, rfl, Nat.le_refl _, by omega, fun j h1 h2 => by omega, rfl⟩
      case round =>
        obtain ⟨i, rfl, hi1, hi3, hno, rfl⟩ := hrel
        replace hno := hide hno
        by_cases hi : i < p.length
        · have hiI : (i : Int) < (p.length : Int) := by omega
          obtain ⟨d, hd⟩ : ∃ d, p[i]? = some d := ⟨_, List.getElem?_eq_getElem hi⟩
          have hdb := u8_lt d
          by_cases h93 : d.toNat = 93
          · have q93 : ((d.toNat : Int) == 93) = true := by rw [beq_iff_eq]; omega
            have hRi : R = i := by
              obtain rfl : d = 93 := UInt8.toNat_inj.1 h93
              rw [hR.out, endF_yes hi1 hd hno.out]
            subst hRi
            replace hd := hide hd
            go_wp2_with (first
              | (with_reducible refine wl_run (o := ⟨some 17, _, _, _, _, _⟩) rfl (.int .i64 (p.length : Int)) (run_lenStr 9 (.tmp 16) p rfl Tryd.underlying9 rfl) ?_)
              | (with_reducible refine wl_run (o := ⟨some 23, _, _, _, _, _⟩) rfl (.int .u8 (d.toNat : Int)) (run_idxStr 9 (.tmp 21) (.tmp 22) p R d rfl Tryd.underlying9 rfl rfl hd.out) ?_))
            go_ret
            exact ⟨rfl, rfl⟩
          · have q93 : ((d.toNat : Int) == 93) = false := beq_eq_false_iff_ne.2 (by omega)
            have hno2 : ∀ j, 1 + 1 ≤ j → j < i + 1 → p[j]? ≠ some 93 := fun j h1 h2 => by
              rcases Nat.lt_or_ge j i with e | e
              · exact hno.out j h1 e
              · obtain rfl : j = i := by omega
                rw [hd]
                intro e2
                injection e2 with e2
                exact h93 (by rw [e2]; rfl)
            replace hno2 := hide hno2
            replace hd := hide hd
            go_wp2_with (first
              | (with_reducible refine wl_run (o := ⟨some 17, _, _, _, _, _⟩) rfl (.int .i64 (p.length : Int)) (run_lenStr 9 (.tmp 16) p rfl Tryd.underlying9 rfl) ?_)
              | (with_reducible refine wl_run (o := ⟨some 23, _, _, _, _, _⟩) rfl (.int .u8 (d.toNat : Int)) (run_idxStr 9 (.tmp 21) (.tmp 22) p i d rfl Tryd.underlying9 rfl rfl hd.out) ?_))
            go_roundw
            case rel => exact ⟨i + 1, by go_num, by omega, by omega, hno2.out, trivial⟩
            case measure => simp [intOf]; omega
        · have hiI : ¬ (i : Int) < (p.length : Int) := by omega
          have hR0 : R = 0 := by
            rw [hR.out]
            exact endF_no fun j h1 e => by
              have := lt_of_get e
              exact hno.out j h1 (by omega) e
          subst hR0
          go_wp2_with (first
            | (with_reducible refine wl_run (o := ⟨some 17, _, _, _, _, _⟩) rfl (.int .i64 (p.length : Int)) (run_lenStr 9 (.tmp 16) p rfl Tryd.underlying9 rfl) ?_))
          go_ret
          exact ⟨rfl, rfl⟩
  · have h1I : ¬ (1 : Int) < (p.length : Int) := by omega
    obtain rfl : fr = 1 := by rw [hfr, List.getElem?_eq_none (by omega)]; rfl
    clear hfr
    go_enter Tryd.func51, Tryd.ntmps51
    go_wp2_with (first
      | (with_reducible refine wl_run (o := ⟨some 6, _, _, _, _, _⟩) rfl (.int .i64 (p.length : Int)) (run_lenStr 9 (.tmp 5) p rfl Tryd.underlying9 rfl) ?_))
    go_loopw [4] (fun iv wr => ∃ i : Nat, iv = .int .i64 (i : Int) ∧ 1 + 1 ≤ i ∧ i ≤ p.length + 3 ∧ (∀ j, 1 + 1 ≤ j → j < i → p[j]? ≠ some 93) ∧ w = wr) (fun iv _ => p.length - (intOf iv).toNat)
    case atStart => exact ⟨1 + 1, rfl, Nat.le_refl _, by omega, fun j h1 h2 => by omega, rfl⟩
    case round =>
      obtain ⟨i, rfl, hi1, hi3, hno, rfl⟩ := hrel
      replace hno := hide hno
      by_cases hi : i < p.length
      · have hiI : (i : Int) < (p.length : Int) := by omega
        obtain ⟨d, hd⟩ : ∃ d, p[i]? = some d := ⟨_, List.getElem?_eq_getElem hi⟩
        have hdb := u8_lt d
        by_cases h93 : d.toNat = 93
        · have q93 : ((d.toNat : Int) == 93) = true := by rw [beq_iff_eq]; omega
          have hRi : R = i := by
            obtain rfl : d = 93 := UInt8.toNat_inj.1 h93
            rw [hR.out, endF_yes hi1 hd hno.out]
          subst hRi
          replace hd := hide hd
          go_wp2_with (first
            | (with_reducible refine wl_run (o := ⟨some 17, _, _, _, _, _⟩) rfl (.int .i64 (p.length : Int)) (run_lenStr 9 (.tmp 16) p rfl Tryd.underlying9 rfl) ?_)
            | (with_reducible refine wl_run (o := ⟨some 23, _, _, _, _, _⟩) rfl (.int .u8 (d.toNat : Int)) (run_idxStr 9 (.tmp 21) (.tmp 22) p R d rfl Tryd.underlying9 rfl rfl hd.out) ?_))
          go_ret
          exact ⟨rfl, rfl⟩
        · have q93 : ((d.toNat : Int) == 93) = false := beq_eq_false_iff_ne.2 (by omega)
          have hno2 : ∀ j, 1 + 1 ≤ j → j < i + 1 → p[j]? ≠ some 93 := fun j h1 h2 => by
            rcases Nat.lt_or_ge j i with e | e
            · exact hno.out j h1 e
            · obtain rfl : j = i := by omega
              rw [hd]
              intro e2
              injection e2 with e2
              exact h93 (by rw [e2]; rfl)
          replace hno2 := hide hno2
          replace hd := hide hd
          go_wp2_with (first
            | (with_reducible refine wl_run (o := ⟨some 17, _, _, _, _, _⟩) rfl (.int .i64 (p.length : Int)) (run_lenStr 9 (.tmp 16) p rfl Tryd.underlying9 rfl) ?_)
            | (with_reducible refine wl_run (o := ⟨some 23, _, _, _, _, _⟩) rfl (.int .u8 (d.toNat : Int)) (run_idxStr 9 (.tmp 21) (.tmp 22) p i d rfl Tryd.underlying9 rfl rfl hd.out) ?_))
          go_roundw
          case rel => exact ⟨i + 1, by go_num, by omega, by omega, hno2.out, trivial⟩
          case measure => simp [intOf]; omega
      · have hiI : ¬ (i : Int) < (p.length : Int) := by omega
        have hR0 : R = 0 := by
          rw [hR.out]
          exact endF_no fun j h1 e => by
            have := lt_of_get e
            exact hno.out j h1 (by omega) e
        subst hR0
        go_wp2_with (first
          | (with_reducible refine wl_run (o := ⟨some 17, _, _, _, _, _⟩) rfl (.int .i64 (p.length : Int)) (run_lenStr 9 (.tmp 16) p rfl Tryd.underlying9 rfl) ?_))
        go_ret
        exact ⟨rfl, rfl⟩
end Go.Proofs.YtfpcgaladjndcaaDoor

/-
  Several own texts in one: ValSe, ValSf, ValSg. Own work.
-/
import Derived.Test.YtenejloailkodaaGG
set_option linter.unusedVariables false
set_option linter.unusedSimpArgs false
/-
  The document's Check. Own work.
-/
namespace Go.Proofs.Ytenejloailkodaa
open Go.RowKit Go.Shelf
def rchk (k : Int) (od : Bool) (q : Int) (tl ord : Bool) : Int := if k < 1 ∨ 5 < k ∨ od = true ∨ (1 < k ∧ q = 0) then 1 else if 200 < q then 10 else if tl = true then 5 else if ord = true then 0 else 13
/-- Why a value may not be, as the document says it. -/
def Vl.rchk (x : Vl) : Int := Go.Proofs.Ytenejloailkodaa.rchk x.k x.oddB ((x.ps.length : Int) + x.ls.length + x.ss.length) (lng x.texts) x.dord
set_option maxRecDepth 100000 in
set_option maxHeartbeats 4000000 in
theorem rcheck_any (w : World) (x : Vl) (vp vl vs : Value) (h : VlM w w.heap.size x vp vl vs) (few : x.Few) (ft : x.t.length ≤ 140737488355328) (hcp : CapS vs x.ss.length) :
    Calls Try.prog 7 #[vlV x vp vl vs] w fun e w' => e = .returned (.int .i64 x.rchk) ∧ Below w.heap.size w w' := by
  have hsz := szVl x vp vl vs
  have fx := few.fits ft
  unfold Vl.rchk
  have hlenT := texts_len x
  have hTI : (x.texts.length : Int) ≤ 881 := by have h1 := few.p; have h2 := few.l; have h3 := few.s; omega
  replace hlenT := hide hlenT
  have hcp := hide hcp
  replace hcp := hcp.out
  obtain ⟨q, hq⟩ : ∃ q, (x.ps.length : Int) + x.ls.length + x.ss.length = q := ⟨_, rfl⟩
  obtain ⟨tl, htl⟩ : ∃ tl, tl = lng x.texts := ⟨_, rfl⟩
  obtain ⟨ord, hord⟩ : ∃ ord, ord = x.dord := ⟨_, rfl⟩
  rw [hq, ← htl, ← hord]
  replace hq := hide hq
  replace htl := hide htl
  replace hord := hide hord
  by_cases k1 : x.k < 1
  · have hE : rchk x.k x.oddB q tl ord = 1 := by unfold rchk; rw [if_pos (.inl k1)]
    rw [hE]
    go_enter Try.func7, Try.ntmps7
    go_wp2_with (first
      | ((with_reducible refine wl_box (o := ⟨some 1, _, _, _, _, _⟩) rfl 26 (.tmp 0) _ (vlC x vp vl vs) rfl rfl rfl ?_); intro g1 w1 r1 p1 l1 b1; have c0 := r1.cell (j := 0) rfl))
    go_ret
    exact ⟨rfl, b1⟩
  · by_cases k5 : 5 < x.k
    · have hE : rchk x.k x.oddB q tl ord = 1 := by unfold rchk; rw [if_pos (.inr (.inl k5))]
      rw [hE]
      go_enter Try.func7, Try.ntmps7
      go_wp2_with (first
        | ((with_reducible refine wl_box (o := ⟨some 1, _, _, _, _, _⟩) rfl 26 (.tmp 0) _ (vlC x vp vl vs) rfl rfl rfl ?_); intro g1 w1 r1 p1 l1 b1; have c0 := r1.cell (j := 0) rfl))
      go_ret
      exact ⟨rfl, b1⟩
    · go_enter Try.func7, Try.ntmps7
      go_wp2_with (first
        | ((with_reducible refine wl_box (o := ⟨some 1, _, _, _, _, _⟩) rfl 26 (.tmp 0) _ (vlC x vp vl vs) rfl rfl rfl ?_); intro g1 w1 r1 p1 l1 b1; have c0 := r1.cell (j := 0) rfl)
        | (with_reducible refine wg_load_row (o := ⟨some 14, _, _, _, _, _⟩) 8 false 13 rfl rfl rfl 26 (.tmp 1) g1 26 (vlC x vp vl vs) _ rfl rfl r1 Try.underlying26 rfl hsz ?_))
      refine (odd_any w1 x vp vl vs (h.later b1)).mono ?_
      rintro e w2 ⟨rfl, b2⟩
      obtain ⟨od, hod⟩ : ∃ od, x.oddB = od := ⟨_, rfl⟩
      rw [hod]
      have B2 := b1.trans (b2.mono b1.size)
      have r2 := r1.later b2
      clear c0
      have c0 := r2.cell (j := 0) rfl
      cases od with
      | true =>
        have hE := hide (show rchk x.k x.oddB q tl ord = 1 by unfold rchk; rw [if_pos (.inr (.inr (.inl hod)))])
        replace hod := hide hod
        go_wp2_with fail
        go_ret
        exact ⟨by show Ending.returned (.int .i64 1) = _; rw [hE.out], B2⟩
      | false =>
        have hod2 : ¬ x.oddB = true := by rw [hod]; decide
        replace hod := hide hod
        replace hod2 := hide hod2
        by_cases k1' : 1 < x.k
        · go_wp2_with (first
            | (with_reducible refine wg_load_row (o := ⟨some 22, _, _, _, _, _⟩) 16 true 21 rfl rfl rfl 26 (.tmp 1) g1 26 (vlC x vp vl vs) _ rfl rfl r2 Try.underlying26 rfl hsz ?_))
          refine (rcount_any w2 x vp vl vs (h.later B2) fx).mono ?_
          rintro e w3 ⟨rfl, b3⟩
          rw [hq.out]
          have B3 := B2.trans (b3.mono B2.size)
          have r3 := r2.later b3
          by_cases hq0 : q = 0
          · have hE := hide (show rchk x.k x.oddB q tl ord = 1 by unfold rchk; rw [if_pos (.inr (.inr (.inr ⟨k1', hq0⟩)))])
            have hq1 : decide (q = 0) = true := decide_eq_true hq0
            have hq3 : (q == 0) = true := by simp [hq0]
            replace hq0 := hide hq0
            go_wp2_with fail
            go_ret
            exact ⟨by show Ending.returned (.int .i64 1) = _; rw [hE.out], B3⟩
          · have hq1 : decide (q = 0) = false := decide_eq_false hq0
            have hq3 : (q == 0) = false := beq_eq_false_iff_ne.2 hq0
            have hno := hide (show ¬ (x.k < 1 ∨ 5 < x.k ∨ x.oddB = true ∨ (1 < x.k ∧ q = 0)) by
              rintro (c | c | c | c)
              · omega
              · omega
              · exact hod2.out c
              · exact hq0 c.2)
            replace hq0 := hide hq0
            go_wp2_with (first
              | (with_reducible refine wl_load_row (o := ⟨some 27, _, _, _, _, _⟩) rfl 26 (.tmp 1) g1 26 (vlC x vp vl vs) _ rfl rfl r3 Try.underlying26 rfl hsz ?_))
            refine (rcount_any w3 x vp vl vs (h.later B3) fx).mono ?_
            rintro e w5 ⟨rfl, b5⟩
            rw [hq.out]
            have B5 := B3.trans (b5.mono B3.size)
            have r5 := r3.later b5
            by_cases hq2 : 200 < q
            · have hE := hide (show rchk x.k x.oddB q tl ord = 10 by unfold rchk; rw [if_neg hno.out, if_pos hq2])
              go_wp2_with fail
              go_ret
              exact ⟨by show Ending.returned (.int .i64 10) = _; rw [hE.out], B5⟩
            · have hE := hide (show rchk x.k x.oddB q tl ord = if tl = true then 5 else if ord = true then 0 else 13 by unfold rchk; rw [if_neg hno.out, if_neg hq2])
              go_wp2_with (first
                | (with_reducible refine wl_load_row (o := ⟨some 30, _, _, _, _, _⟩) rfl 26 (.tmp 1) g1 26 (vlC x vp vl vs) _ rfl rfl r5 Try.underlying26 rfl hsz ?_))
              refine (texts_any w5 x vp vl vs (h.later B5) few).mono ?_
              rintro e w6 ⟨v6, rfl, own6, b6⟩
              have B6 := B5.trans (b6.mono B5.size)
              have r6 := r5.later b6
              have sl6 := OwnW.slv own6
              obtain ⟨A6, C6, rfl⟩ := sl6.sl
              clear own6
              go_wp2_with fail
              go_loopw [4] (fun iv wr => ∃ i : Nat, i ≤ x.texts.length ∧ iv = .int .i64 (i : Int) ∧ lng (x.texts.take i) = false ∧ w6 = wr) (fun iv _ => x.texts.length - (intOf iv).toNat)
              case atStart => exact ⟨0, by omega, rfl, by simp [lng], rfl⟩
              case round =>
                obtain ⟨i, hi, rfl, hln, rfl⟩ := hrel
                by_cases hlt : i < x.texts.length
                · have hltI : (i : Int) < (x.texts.length : Int) := by omega
                  obtain ⟨a, ha⟩ : ∃ a, x.texts[i]? = some a := ⟨_, List.getElem?_eq_getElem hlt⟩
                  have hmore := hide (lng_more ha)
                  have hst := str_len a
                  obtain ⟨x1, ga, oa, rfl, hga, hca⟩ := sl6.at ha
                  have c0 := hca 0 _ rfl
                  rw [Nat.add_zero, Nat.mul_one] at c0
                  have hlt9 := hide hlt
                  replace hln := hide hln
                  clear x1 hga hca
                  by_cases hl : 512 < a.length
                  · have hlI : (512 : Int) < (a.length : Int) := by omega
                    have htrue : tl = true := by
                      rw [htl.out]
                      exact List.any_eq_true.2 ⟨a, List.mem_of_getElem? ha, decide_eq_true hl⟩
                    have hE := hide (show rchk x.k x.oddB q tl ord = 5 by rw [hE.out, if_pos htrue])
                    clear ha htrue hl
                    go_wp2_with (first
                      | (with_reducible refine wl_run (o := ⟨some 40, _, _, _, _, _⟩) rfl (.pointer (some ⟨ga, oa + i * 1, none⟩)) (run_idxO 23 (.tmp 38) (.tmp 39) 9 1 ga oa x.texts.length C6 i rfl Try.underlying23 Try.sizeOf9 rfl rfl hlt) ?_))
                    go_ret
                    exact ⟨by show Ending.returned (.int .i64 5) = _; rw [hE.out], B6⟩
                  · have hlI : ¬ (512 : Int) < (a.length : Int) := by omega
                    have hl9 := hide hl
                    clear ha hl
                    go_wp2_with (first
                      | (with_reducible refine wl_run (o := ⟨some 40, _, _, _, _, _⟩) rfl (.pointer (some ⟨ga, oa + i * 1, none⟩)) (run_idxO 23 (.tmp 38) (.tmp 39) 9 1 ga oa x.texts.length C6 i rfl Try.underlying23 Try.sizeOf9 rfl rfl hlt) ?_))
                    go_roundw
                    case rel => exact ⟨i + 1, by have := hlt9.out; omega, by go_num, by rw [hmore.out, hln.out, decide_eq_false hl9.out]; rfl, trivial⟩
                    case measure => have := hlt9.out; simp [intOf]; omega
                · obtain rfl : i = x.texts.length := by omega
                  rw [List.take_length] at hln
                  have htf : ¬ tl = true := by rw [htl.out, hln]; decide
                  have hE := hide (show rchk x.k x.oddB q tl ord = if ord = true then 0 else 13 by rw [hE.out, if_neg htf])
                  clear htf hln
                  go_wp2_with (first
                    | (with_reducible refine wl_load_row (o := ⟨some 44, _, _, _, _, _⟩) rfl 26 (.tmp 1) g1 26 (vlC x vp vl vs) _ rfl rfl r6 Try.underlying26 rfl hsz ?_))
                  refine (rrises_any _ x vp vl vs (h.later B6) few hcp).mono ?_
                  rintro e w7 ⟨rfl, b7⟩
                  have B7 := B6.trans (b7.mono B6.size)
                  rw [← hord.out]
                  cases ord with
                  | true =>
                    go_wp2_with fail
                    go_ret
                    exact ⟨by show Ending.returned (.int .i64 0) = _; rw [hE.out]; simp, B7⟩
                  | false =>
                    go_wp2_with fail
                    go_ret
                    exact ⟨by show Ending.returned (.int .i64 13) = _; rw [hE.out]; simp, B7⟩
        · have hno := hide (show ¬ (x.k < 1 ∨ 5 < x.k ∨ x.oddB = true ∨ (1 < x.k ∧ q = 0)) by
            rintro (c | c | c | c)
            · omega
            · omega
            · exact hod2.out c
            · exact k1' c.1)
          go_wp2_with (first
            | (with_reducible refine wl_load_row (o := ⟨some 27, _, _, _, _, _⟩) rfl 26 (.tmp 1) g1 26 (vlC x vp vl vs) _ rfl rfl r2 Try.underlying26 rfl hsz ?_))
          refine (rcount_any w2 x vp vl vs (h.later B2) fx).mono ?_
          rintro e w5 ⟨rfl, b5⟩
          rw [hq.out]
          have B5 := B2.trans (b5.mono B2.size)
          have r5 := r2.later b5
          by_cases hq2 : 200 < q
          · have hE := hide (show rchk x.k x.oddB q tl ord = 10 by unfold rchk; rw [if_neg hno.out, if_pos hq2])
            go_wp2_with fail
            go_ret
            exact ⟨by show Ending.returned (.int .i64 10) = _; rw [hE.out], B5⟩
          · have hE := hide (show rchk x.k x.oddB q tl ord = if tl = true then 5 else if ord = true then 0 else 13 by unfold rchk; rw [if_neg hno.out, if_neg hq2])
            go_wp2_with (first
              | (with_reducible refine wl_load_row (o := ⟨some 30, _, _, _, _, _⟩) rfl 26 (.tmp 1) g1 26 (vlC x vp vl vs) _ rfl rfl r5 Try.underlying26 rfl hsz ?_))
            refine (texts_any w5 x vp vl vs (h.later B5) few).mono ?_
            rintro e w6 ⟨v6, rfl, own6, b6⟩
            have B6 := B5.trans (b6.mono B5.size)
            have r6 := r5.later b6
            have sl6 := OwnW.slv own6
            obtain ⟨A6, C6, rfl⟩ := sl6.sl
            clear own6
            go_wp2_with fail
            go_loopw [4] (fun iv wr => ∃ i : Nat, i ≤ x.texts.length ∧ iv = .int .i64 (i : Int) ∧ lng (x.texts.take i) = false ∧ w6 = wr) (fun iv _ => x.texts.length - (intOf iv).toNat)
            case atStart => exact ⟨0, by omega, rfl, by simp [lng], rfl⟩
            case round =>
              obtain ⟨i, hi, rfl, hln, rfl⟩ := hrel
              by_cases hlt : i < x.texts.length
              · have hltI : (i : Int) < (x.texts.length : Int) := by omega
                obtain ⟨a, ha⟩ : ∃ a, x.texts[i]? = some a := ⟨_, List.getElem?_eq_getElem hlt⟩
                have hmore := hide (lng_more ha)
                have hst := str_len a
                obtain ⟨x1, ga, oa, rfl, hga, hca⟩ := sl6.at ha
                have c0 := hca 0 _ rfl
                rw [Nat.add_zero, Nat.mul_one] at c0
                have hlt9 := hide hlt
                replace hln := hide hln
                clear x1 hga hca
                by_cases hl : 512 < a.length
                · have hlI : (512 : Int) < (a.length : Int) := by omega
                  have htrue : tl = true := by
                    rw [htl.out]
                    exact List.any_eq_true.2 ⟨a, List.mem_of_getElem? ha, decide_eq_true hl⟩
                  have hE := hide (show rchk x.k x.oddB q tl ord = 5 by rw [hE.out, if_pos htrue])
                  clear ha htrue hl
                  go_wp2_with (first
                    | (with_reducible refine wl_run (o := ⟨some 40, _, _, _, _, _⟩) rfl (.pointer (some ⟨ga, oa + i * 1, none⟩)) (run_idxO 23 (.tmp 38) (.tmp 39) 9 1 ga oa x.texts.length C6 i rfl Try.underlying23 Try.sizeOf9 rfl rfl hlt) ?_))
                  go_ret
                  exact ⟨by show Ending.returned (.int .i64 5) = _; rw [hE.out], B6⟩
                · have hlI : ¬ (512 : Int) < (a.length : Int) := by omega
                  have hl9 := hide hl
                  clear ha hl
                  go_wp2_with (first
                    | (with_reducible refine wl_run (o := ⟨some 40, _, _, _, _, _⟩) rfl (.pointer (some ⟨ga, oa + i * 1, none⟩)) (run_idxO 23 (.tmp 38) (.tmp 39) 9 1 ga oa x.texts.length C6 i rfl Try.underlying23 Try.sizeOf9 rfl rfl hlt) ?_))
                  go_roundw
                  case rel => exact ⟨i + 1, by have := hlt9.out; omega, by go_num, by rw [hmore.out, hln.out, decide_eq_false hl9.out]; rfl, trivial⟩
                  case measure => have := hlt9.out; simp [intOf]; omega
              · obtain rfl : i = x.texts.length := by omega
                rw [List.take_length] at hln
                have htf : ¬ tl = true := by rw [htl.out, hln]; decide
                have hE := hide (show rchk x.k x.oddB q tl ord = if ord = true then 0 else 13 by rw [hE.out, if_neg htf])
                clear htf hln
                go_wp2_with (first
                  | (with_reducible refine wl_load_row (o := ⟨some 44, _, _, _, _, _⟩) rfl 26 (.tmp 1) g1 26 (vlC x vp vl vs) _ rfl rfl r6 Try.underlying26 rfl hsz ?_))
                refine (rrises_any _ x vp vl vs (h.later B6) few hcp).mono ?_
                rintro e w7 ⟨rfl, b7⟩
                have B7 := B6.trans (b7.mono B6.size)
                rw [← hord.out]
                cases ord with
                | true =>
                  go_wp2_with fail
                  go_ret
                  exact ⟨by show Ending.returned (.int .i64 0) = _; rw [hE.out]; simp, B7⟩
                | false =>
                  go_wp2_with fail
                  go_ret
                  exact ⟨by show Ending.returned (.int .i64 13) = _; rw [hE.out]; simp, B7⟩
end Go.Proofs.Ytenejloailkodaa

/-
  Entry, both; the document's Size. Own work.
-/
namespace Go.Proofs.Ytenejloailkodaa
open Go.RowKit Go.Shelf
abbrev TE : TypeId := 28
abbrev enC (key : Nm) (x : Vl) (vp vl vs : Value) (at_ : Int) : List Value := [encStr key] ++ (vlC x vp vl vs ++ [.int .i64 at_])
abbrev enV (key : Nm) (x : Vl) (vp vl vs : Value) (at_ : Int) : Value := .agg (enC key x vp vl vs at_).toArray
def entC (key : Nm) (at_ c : Int) : Int := if key.length < 1 ∨ 64 < key.length ∨ at_ < 0 ∨ 1099511627776 < at_ then 1 else c
theorem entC_bad {key : Nm} {at_ c : Int} (h : key.length < 1 ∨ 64 < key.length ∨ at_ < 0 ∨ 1099511627776 < at_) : entC key at_ c = 1 := by unfold entC; rw [if_pos h]
theorem entC_ok {key : Nm} {at_ c : Int} (h : ¬ (key.length < 1 ∨ 64 < key.length ∨ at_ < 0 ∨ 1099511627776 < at_)) : entC key at_ c = c := by unfold entC; rw [if_neg h]
set_option maxRecDepth 100000 in
set_option maxHeartbeats 2000000 in
theorem entry_any (w : World) (key : Nm) (x : Vl) (vp vl vs : Value) (at_ : Int) (HC : ∀ w1, Below w.heap.size w w1 → Calls Try.prog 8 #[vlV x vp vl vs] w1 fun e w' => e = .returned (.int .i64 x.chk) ∧ Below w1.heap.size w1 w') :
    Calls Try.prog 9 #[enV key x vp vl vs at_] w fun e w' => e = .returned (.int .i64 (entC key at_ (x.chk))) ∧ Below w.heap.size w w' := by
  have hst := str_len key
  have hsz := szVl x vp vl vs
  by_cases h1 : key.length < 1
  · have h1I : (key.length : Int) < 1 := by omega
    have hE := hide (entC_bad (key := key) (at_ := at_) (c := x.chk) (.inl h1))
    go_enter Try.func9, Try.ntmps9
    go_wp2_with (first
      | ((with_reducible refine wl_box (o := ⟨some 1, _, _, _, _, _⟩) rfl 28 (.tmp 0) _ (enC key x vp vl vs at_) rfl rfl rfl ?_); intro g1 w1 r1 p1 l1 b1; have c0 := r1.cell (j := 0) rfl; have c6 := r1.cell (j := 6) rfl))
    go_ret
    exact ⟨by show Ending.returned (.int .i64 1) = _; rw [hE.out], b1⟩
  · have h1I : ¬ (key.length : Int) < 1 := by omega
    by_cases h2 : 64 < key.length
    · have h2I : (64 : Int) < (key.length : Int) := by omega
      have hE := hide (entC_bad (key := key) (at_ := at_) (c := x.chk) (.inr (.inl h2)))
      go_enter Try.func9, Try.ntmps9
      go_wp2_with (first
        | ((with_reducible refine wl_box (o := ⟨some 1, _, _, _, _, _⟩) rfl 28 (.tmp 0) _ (enC key x vp vl vs at_) rfl rfl rfl ?_); intro g1 w1 r1 p1 l1 b1; have c0 := r1.cell (j := 0) rfl; have c6 := r1.cell (j := 6) rfl))
      go_ret
      exact ⟨by show Ending.returned (.int .i64 1) = _; rw [hE.out], b1⟩
    · have h2I : ¬ (64 : Int) < (key.length : Int) := by omega
      by_cases h3 : at_ < 0
      · have hE := hide (entC_bad (key := key) (at_ := at_) (c := x.chk) (.inr (.inr (.inl h3))))
        go_enter Try.func9, Try.ntmps9
        go_wp2_with (first
          | ((with_reducible refine wl_box (o := ⟨some 1, _, _, _, _, _⟩) rfl 28 (.tmp 0) _ (enC key x vp vl vs at_) rfl rfl rfl ?_); intro g1 w1 r1 p1 l1 b1; have c0 := r1.cell (j := 0) rfl; have c6 := r1.cell (j := 6) rfl))
        go_ret
        exact ⟨by show Ending.returned (.int .i64 1) = _; rw [hE.out], b1⟩
      · by_cases h4 : 1099511627776 < at_
        · have hE := hide (entC_bad (key := key) (at_ := at_) (c := x.chk) (.inr (.inr (.inr h4))))
          go_enter Try.func9, Try.ntmps9
          go_wp2_with (first
            | ((with_reducible refine wl_box (o := ⟨some 1, _, _, _, _, _⟩) rfl 28 (.tmp 0) _ (enC key x vp vl vs at_) rfl rfl rfl ?_); intro g1 w1 r1 p1 l1 b1; have c0 := r1.cell (j := 0) rfl; have c6 := r1.cell (j := 6) rfl))
          go_ret
          exact ⟨by show Ending.returned (.int .i64 1) = _; rw [hE.out], b1⟩
        · have hE := hide (entC_ok (key := key) (at_ := at_) (c := x.chk) (by omega))
          replace HC := hide HC
          go_enter Try.func9, Try.ntmps9
          go_wp2_with (first
            | ((with_reducible refine wl_box (o := ⟨some 1, _, _, _, _, _⟩) rfl 28 (.tmp 0) _ (enC key x vp vl vs at_) rfl rfl rfl ?_); intro g1 w1 r1 p1 l1 b1; have c0 := r1.cell (j := 0) rfl; have c6 := r1.cell (j := 6) rfl)
            | (with_reducible refine wl_load_part (o := ⟨some 24, _, _, _, _, _⟩) rfl 26 (.tmp 23) g1 1 28 [encStr key] (vlC x vp vl vs) [.int .i64 at_] _ rfl rfl r1 rfl Try.underlying26 rfl hsz ?_))
          refine (HC.out w1 b1).mono ?_
          rintro e w2 ⟨rfl, b2⟩
          go_wp2_with fail
          go_ret
          exact ⟨by rw [hE.out]; rfl, b1.trans (b2.mono b1.size)⟩

set_option maxRecDepth 100000 in
set_option maxHeartbeats 2000000 in
theorem rentry_any (w : World) (key : Nm) (x : Vl) (vp vl vs : Value) (at_ : Int) (HC : ∀ w1, Below w.heap.size w w1 → Calls Try.prog 7 #[vlV x vp vl vs] w1 fun e w' => e = .returned (.int .i64 x.rchk) ∧ Below w1.heap.size w1 w') :
    Calls Try.prog 10 #[enV key x vp vl vs at_] w fun e w' => e = .returned (.int .i64 (entC key at_ (x.rchk))) ∧ Below w.heap.size w w' := by
  have hst := str_len key
  have hsz := szVl x vp vl vs
  by_cases h1 : key.length < 1
  · have h1I : (key.length : Int) < 1 := by omega
    have hE := hide (entC_bad (key := key) (at_ := at_) (c := x.rchk) (.inl h1))
    go_enter Try.func10, Try.ntmps10
    go_wp2_with (first
      | ((with_reducible refine wl_box (o := ⟨some 1, _, _, _, _, _⟩) rfl 28 (.tmp 0) _ (enC key x vp vl vs at_) rfl rfl rfl ?_); intro g1 w1 r1 p1 l1 b1; have c0 := r1.cell (j := 0) rfl; have c6 := r1.cell (j := 6) rfl))
    go_ret
    exact ⟨by show Ending.returned (.int .i64 1) = _; rw [hE.out], b1⟩
  · have h1I : ¬ (key.length : Int) < 1 := by omega
    by_cases h2 : 64 < key.length
    · have h2I : (64 : Int) < (key.length : Int) := by omega
      have hE := hide (entC_bad (key := key) (at_ := at_) (c := x.rchk) (.inr (.inl h2)))
      go_enter Try.func10, Try.ntmps10
      go_wp2_with (first
        | ((with_reducible refine wl_box (o := ⟨some 1, _, _, _, _, _⟩) rfl 28 (.tmp 0) _ (enC key x vp vl vs at_) rfl rfl rfl ?_); intro g1 w1 r1 p1 l1 b1; have c0 := r1.cell (j := 0) rfl; have c6 := r1.cell (j := 6) rfl))
      go_ret
      exact ⟨by show Ending.returned (.int .i64 1) = _; rw [hE.out], b1⟩
    · have h2I : ¬ (64 : Int) < (key.length : Int) := by omega
      by_cases h3 : at_ < 0
      · have hE := hide (entC_bad (key := key) (at_ := at_) (c := x.rchk) (.inr (.inr (.inl h3))))
        go_enter Try.func10, Try.ntmps10
        go_wp2_with (first
          | ((with_reducible refine wl_box (o := ⟨some 1, _, _, _, _, _⟩) rfl 28 (.tmp 0) _ (enC key x vp vl vs at_) rfl rfl rfl ?_); intro g1 w1 r1 p1 l1 b1; have c0 := r1.cell (j := 0) rfl; have c6 := r1.cell (j := 6) rfl))
        go_ret
        exact ⟨by show Ending.returned (.int .i64 1) = _; rw [hE.out], b1⟩
      · by_cases h4 : 1099511627776 < at_
        · have hE := hide (entC_bad (key := key) (at_ := at_) (c := x.rchk) (.inr (.inr (.inr h4))))
          go_enter Try.func10, Try.ntmps10
          go_wp2_with (first
            | ((with_reducible refine wl_box (o := ⟨some 1, _, _, _, _, _⟩) rfl 28 (.tmp 0) _ (enC key x vp vl vs at_) rfl rfl rfl ?_); intro g1 w1 r1 p1 l1 b1; have c0 := r1.cell (j := 0) rfl; have c6 := r1.cell (j := 6) rfl))
          go_ret
          exact ⟨by show Ending.returned (.int .i64 1) = _; rw [hE.out], b1⟩
        · have hE := hide (entC_ok (key := key) (at_ := at_) (c := x.rchk) (by omega))
          replace HC := hide HC
          go_enter Try.func10, Try.ntmps10
          go_wp2_with (first
            | ((with_reducible refine wl_box (o := ⟨some 1, _, _, _, _, _⟩) rfl 28 (.tmp 0) _ (enC key x vp vl vs at_) rfl rfl rfl ?_); intro g1 w1 r1 p1 l1 b1; have c0 := r1.cell (j := 0) rfl; have c6 := r1.cell (j := 6) rfl)
            | (with_reducible refine wl_load_part (o := ⟨some 24, _, _, _, _, _⟩) rfl 26 (.tmp 23) g1 1 28 [encStr key] (vlC x vp vl vs) [.int .i64 at_] _ rfl rfl r1 rfl Try.underlying26 rfl hsz ?_))
          refine (HC.out w1 b1).mono ?_
          rintro e w2 ⟨rfl, b2⟩
          go_wp2_with fail
          go_ret
          exact ⟨by rw [hE.out]; rfl, b1.trans (b2.mono b1.size)⟩

def FSz (q : Unit) (opn : Nat) (v : Value) (w : World) : Prop :=
  match opn with
  | _ => True
theorem FSz_mono (q : Unit) : ∀ j v w w', FSz q j v w → Below w.heap.size w w' → FSz q j v w' := by
  intro j v w w' h hb
  unfold FSz at h ⊢
  split at h
  · trivial

def SSz1 (g1 C4 : Nat) (A4 : Option Addr) (x : Vl) (vp vl : Value) (q z : Int) (opn : Nat) (v : Value) : Prop :=
  match opn with
  | 0 => v = .agg (vlC x vp vl (.slice A4 x.ss.length C4)).toArray
  | 1 => v = .int .i64 q
  | 2 => v = .int .i64 (8 * q)
  | 3 => v = .int .i64 (16 + 8 * q)
  | 4 => v = .pointer (some ⟨g1, 4, none⟩)
  | 5 => v = .slice A4 x.ss.length C4
  | 6 => v = .int .i64 (x.ss.length : Int)
  | 7 => v = .int .i64 (8 * (x.ss.length : Int))
  | 8 | 9 => v = .int .i64 z
  | _ => True

/-- How much memory a value takes, as the document says it. -/
def Vl.rsize (x : Vl) : Int := 16 + 8 * ((x.ps.length : Int) + x.ls.length + x.ss.length) + 8 * (x.ss.length : Int) + tot x.texts
set_option maxRecDepth 100000 in
set_option maxHeartbeats 2000000 in
theorem rsize_any (w : World) (x : Vl) (vp vl vs : Value) (h : VlM w w.heap.size x vp vl vs) (few : x.Few) (ft : x.t.length ≤ 140737488355328) (hl : lng x.texts = false) :
    Calls Try.prog 12 #[vlV x vp vl vs] w fun e w' => e = .returned (.int .i64 x.rsize) ∧ Below w.heap.size w w' := by
  obtain ⟨A4, C4, rfl⟩ := h.s.sl
  have hsz := szVl x vp vl (.slice A4 x.ss.length C4)
  have fx := few.fits ft
  have f1 := few.p
  have f2 := few.l
  have f3 := few.s
  have hlenT := texts_len x
  have hT : x.texts.length ≤ 881 := by omega
  have hTI : (x.texts.length : Int) ≤ 881 := by omega
  obtain ⟨q, hq⟩ : ∃ q, (x.ps.length : Int) + x.ls.length + x.ss.length = q := ⟨_, rfl⟩
  obtain ⟨z, hz⟩ : ∃ z, z = (16 + 8 * q) + 8 * (x.ss.length : Int) := ⟨_, rfl⟩
  have hm1 := hide (show IntKind.i64.wrap ((8 : Int) * q) = 8 * q from wrap_id (by omega) (by omega) (by omega))
  have ha1 := hide (show IntKind.i64.wrap ((16 : Int) + 8 * q) = 16 + 8 * q from wrap_id (by omega) (by omega) (by omega))
  have hm2 := hide (show IntKind.i64.wrap ((8 : Int) * (x.ss.length : Int)) = 8 * (x.ss.length : Int) from wrap_id (by omega) (by omega) (by omega))
  have ha2 := hide (show IntKind.i64.wrap ((16 + 8 * q) + 8 * (x.ss.length : Int)) = z from wrap_id (by omega) (by omega) (by omega))
  have hz0 : 0 ≤ z := by omega
  have hz1 : z ≤ 1000000 := by omega
  have hE := hide (show x.rsize = z + tot x.texts by unfold Vl.rsize; rw [hq, hz])
  replace hq := hide hq
  clear hz
  replace hlenT := hide hlenT
  go_enter Try.func12, Try.ntmps12
  go_wp2_with (first
    | ((with_reducible refine wl_box (o := ⟨some 1, _, _, _, _, _⟩) rfl 26 (.tmp 0) _ (vlC x vp vl (.slice A4 x.ss.length C4)) rfl rfl rfl ?_); intro g1 w1 r1 p1 l1 b1))
  rename_i K6 hK6
  have hM := h.later b1
  refine wp_region_vals [1] (SSz1 g1 C4 A4 x vp vl q z) (JF w1 [1] (FSz ())) (by kernel_rfl) (by kernel_rfl) (by kernel_rfl) (by kernel_rfl) (by kernel_rfl) (JF.start _) ?obs1 ?he1
  case obs1 =>
    refine ⟨?_, ?_, ?_, ?_, ?_, ?_, ?_, ?_, ?_, ?_, trivial⟩
    · exact .inl ⟨by kernel_rfl, fun L a1 w1 n h => ⟨_, rfl, run_loadRow 26 (.tmp 1) g1 26 _ _ rfl (h.var n 1 (by kernel_rfl)) (r1.later h.inv.1) Try.underlying26 rfl (szVl x _ _ _)⟩⟩
    · refine .inr fun L a1 w1 n h K hK => ?_
      have e0 : a1.eval (.tmp 6) = vlV x vp vl (.slice A4 x.ss.length C4) := h.dep n 0 6 (by kernel_rfl) rfl
      refine JF.call (FSz_mono ()) h hK 7 rfl 15 _ _ #[vlV x vp vl (.slice A4 x.ss.length C4)] rfl Try.call15 ?_ (rcount_any w1 x _ _ _ (hM.later h.inv.1) fx) ?_
      · simp only [List.map_toArray, List.map_cons, List.map_nil, e0]
      · rintro e w3 ⟨rfl, b9⟩
        exact ⟨_, rfl, (show Value.int .i64 _ = Value.int .i64 _ by rw [hq.out]), trivial, b9⟩
    · exact .inl ⟨by kernel_rfl, fun L a1 w1 n h => ⟨_, rfl, run_mulZ (.const (.int .i64 8)) (.tmp 7) rfl rfl (h.dep n 1 7 (by kernel_rfl) rfl) hm1.out⟩⟩
    · exact .inl ⟨by kernel_rfl, fun L a1 w1 n h => ⟨_, rfl, run_addZ (.const (.int .i64 16)) (.tmp 8) rfl rfl (h.dep n 2 8 (by kernel_rfl) rfl) ha1.out⟩⟩
    · refine .inl ⟨by kernel_rfl, fun L a1 w1 n h => ⟨.pointer (some ⟨g1, 4, none⟩), rfl, ?_⟩⟩
      have e0 : a1.eval (.tmp 1) = _ := h.var n 1 (by kernel_rfl)
      unfold execOp
      simp only [e0]
      go_simp
    · exact .inl ⟨by kernel_rfl, fun L a1 w1 n h => ⟨_, rfl, run_load1 24 (.tmp 10) g1 4 _ rfl Try.isAgg24 (h.dep n 4 10 (by kernel_rfl) rfl) ((r1.later h.inv.1).cell rfl)⟩⟩
    · exact .inl ⟨by kernel_rfl, fun L a1 w1 n h => ⟨_, rfl, run_lenSl 24 (.tmp 11) A4 x.ss.length C4 rfl ⟨_, Try.underlying24⟩ (h.dep n 5 11 (by kernel_rfl) rfl)⟩⟩
    · exact .inl ⟨by kernel_rfl, fun L a1 w1 n h => ⟨_, rfl, run_mulZ (.const (.int .i64 8)) (.tmp 12) rfl rfl (h.dep n 6 12 (by kernel_rfl) rfl) hm2.out⟩⟩
    · exact .inl ⟨by kernel_rfl, fun L a1 w1 n h => ⟨_, rfl, run_addZ (.tmp 9) (.tmp 13) rfl (h.dep n 3 9 (by kernel_rfl) rfl) (h.dep n 7 13 (by kernel_rfl) rfl) ha2.out⟩⟩
    · exact .inl ⟨by kernel_rfl, fun L a1 w1 n h => ⟨_, rfl, run_assign (.tmp 14) rfl (h.dep n 8 14 (by kernel_rfl) rfl)⟩⟩
  case he1 =>
    intro V w9 hV hJ
    have b9 : Below w1.heap.size w1 w9 := hJ.1
    have hE9 : V 9 = .int .i64 z := hV 9 _ rfl
    clear hV hJ
    simp only [putOps, List.setIfInBounds_toArray, List.set_cons_succ, List.set_cons_zero, Nat.reduceAdd]
    rw [hE9]
    refine hK6 _ _ ?_
    have B9 := b1.trans (b9.mono b1.size)
    have r9 := r1.later b9
    generalize V 0 = v0
    generalize V 1 = v1
    generalize V 2 = v2
    generalize V 3 = v3
    generalize V 4 = v4
    generalize V 5 = v5
    generalize V 6 = v6
    generalize V 7 = v7
    generalize V 8 = v8
    clear r1 p1 l1 hE9
    go_wp2_with (first
      | (with_reducible refine wl_load_row (o := ⟨some 15, _, _, _, _, _⟩) rfl 26 (.tmp 1) g1 26 (vlC x vp vl (.slice A4 x.ss.length C4)) _ rfl rfl r9 Try.underlying26 rfl hsz ?_))
    refine (texts_any w9 x vp vl _ (h.later B9) few).mono ?_
    rintro e w6 ⟨v6, rfl, own6, b6⟩
    have B6 := B9.trans (b6.mono B9.size)
    have sl6 := OwnW.slv own6
    obtain ⟨A6, C6, rfl⟩ := sl6.sl
    clear own6 r9
    go_wp2_with fail
    go_loopw [3, 5] (fun sv iv wr => ∃ i : Nat, i ≤ x.texts.length ∧ iv = .int .i64 (i : Int) ∧ sv = .int .i64 (z + tot (x.texts.take i)) ∧ w6 = wr) (fun _ iv _ => x.texts.length - (intOf iv).toNat)
    case atStart => exact ⟨0, by omega, rfl, by simp [tot], rfl⟩
    case round =>
      obtain ⟨i, hi, rfl, rfl, rfl⟩ := hrel
      by_cases hlt : i < x.texts.length
      · have hltI : (i : Int) < (x.texts.length : Int) := by omega
        obtain ⟨a, ha⟩ : ∃ a, x.texts[i]? = some a := ⟨_, List.getElem?_eq_getElem hlt⟩
        have hmore := hide (tot_more ha)
        have hle := tot_le (lng_take hl i)
        rw [List.length_take] at hle
        have ha5 := lng_mem hl (List.mem_of_getElem? ha)
        obtain ⟨t0, ht0⟩ : ∃ t0, t0 = z + tot (x.texts.take i) := ⟨_, rfl⟩
        have hadd := hide (show IntKind.i64.wrap (t0 + (a.length : Int)) = t0 + a.length from wrap_id (by omega) (by omega) (by omega))
        rw [← ht0]
        have hst := str_len a
        obtain ⟨x1, ga, oa, rfl, hga, hca⟩ := sl6.at ha
        have c0 := hca 0 _ rfl
        rw [Nat.add_zero, Nat.mul_one] at c0
        have hlt9 := hide hlt
        replace ht0 := hide ht0
        clear x1 hga hca ha hle ha5
        go_wp2_with (first
          | (with_reducible refine wl_run (o := ⟨some 26, _, _, _, _, _⟩) rfl (.pointer (some ⟨ga, oa + i * 1, none⟩)) (run_idxO 23 (.tmp 24) (.tmp 25) 9 1 ga oa x.texts.length C6 i rfl Try.underlying23 Try.sizeOf9 rfl rfl hlt) ?_)
          | (with_reducible refine wl_run (o := ⟨some 29, _, _, _, _, _⟩) rfl (.int .i64 (t0 + a.length)) (run_addZ (.tmp 23) (.tmp 28) rfl rfl rfl hadd.out) ?_))
        go_roundw
        case rel => exact ⟨i + 1, by have := hlt9.out; omega, by go_num, by rw [hmore.out, Int.natCast_add, ← Int.add_assoc, ← ht0.out], trivial⟩
        case measure => have := hlt9.out; simp [intOf]; omega
      · obtain rfl : i = x.texts.length := by omega
        rw [List.take_length]
        obtain ⟨t0, ht0⟩ : ∃ t0, t0 = z + (tot x.texts : Int) := ⟨_, rfl⟩
        rw [← ht0]
        replace ht0 := hide ht0
        go_wp2_with fail
        go_ret
        exact ⟨by rw [hE.out, ← ht0.out]; rfl, B6⟩
end Go.Proofs.Ytenejloailkodaa

/-
  What the program checks is what the document checks. Own work.
-/
namespace Go.Proofs.Ytenejloailkodaa
open Go.RowKit Go.Shelf
theorem lng_app (a b : List Nm) : lng (a ++ b) = (lng a || lng b) := by simp [lng, List.any_append]
theorem lngT_app (a b : List (List Int × List Nm)) : lngT (a ++ b) = (lngT a || lngT b) := by simp [lngT, List.any_append]
structure OwnE (x : Vl) : Prop where
  t : x.t = if x.k = 1 then x.t else []
  p : x.ps = if x.k = 2 then x.ps else []
  l : x.ls = if x.k = 3 ∨ x.k = 4 then x.ls else []
  s : x.ss = if x.k = 5 then x.ss else []
theorem ownE {x : Vl} (h : x = x.own) : OwnE x := ⟨congrArg Vl.t h, congrArg Vl.ps h, congrArg Vl.ls h, congrArg Vl.ss h⟩
theorem own_of {x : Vl} (h : OwnE x) : x = x.own := by
  obtain ⟨k, t, ps, ls, ss⟩ := x
  obtain ⟨h1, h2, h3, h4⟩ := h
  simp only at h1 h2 h3 h4
  unfold Vl.own
  simp only
  rw [← h1, ← h2, ← h3, ← h4]
theorem odd_own {x : Vl} : x.oddB = false ↔ x = x.own := by
  constructor
  · intro h
    unfold Vl.oddB at h
    simp only [Bool.or_eq_false_iff, Bool.and_eq_false_iff, Bool.not_eq_false', decide_eq_true_eq, decide_eq_false_iff_not] at h
    obtain ⟨h1, h2, h3, h4⟩ := h
    refine own_of ⟨?_, ?_, ?_, ?_⟩
    · rcases h1 with h | h
      · rw [if_pos h]
      · by_cases hk : x.k = 1
        · rw [if_pos hk]
        · rw [if_neg hk]; exact h
    · rcases h2 with h | h
      · rw [if_pos h]
      · have : x.ps = [] := List.eq_nil_of_length_eq_zero (by omega)
        rw [this]; simp
    · rcases h4 with h | h | h
      · rw [if_pos (.inl h)]
      · rw [if_pos (.inr h)]
      · have : x.ls = [] := List.eq_nil_of_length_eq_zero (by omega)
        rw [this]; simp
    · rcases h3 with h | h
      · rw [if_pos h]
      · have : x.ss = [] := List.eq_nil_of_length_eq_zero (by omega)
        rw [this]; simp
  · intro h
    obtain ⟨h1, h2, h3, h4⟩ := ownE h
    unfold Vl.oddB
    simp only [Bool.or_eq_false_iff, Bool.and_eq_false_iff, Bool.not_eq_false', decide_eq_true_eq, decide_eq_false_iff_not]
    refine ⟨?_, ?_, ?_, ?_⟩
    · by_cases hk : x.k = 1
      · exact .inl hk
      · rw [if_neg hk] at h1; exact .inr h1
    · by_cases hk : x.k = 2
      · exact .inl hk
      · rw [if_neg hk] at h2; exact .inr (by rw [h2]; simp)
    · by_cases hk : x.k = 5
      · exact .inl hk
      · rw [if_neg hk] at h4; exact .inr (by rw [h4]; simp)
    · by_cases hk : x.k = 3
      · exact .inl hk
      · by_cases hk4 : x.k = 4
        · exact .inr (.inl hk4)
        · rw [if_neg (by rintro (c | c) <;> contradiction)] at h3; exact .inr (.inr (by rw [h3]; simp))
theorem lngT_p (ps : List Pr) : lngT (ps.map fun p => (([] : List Int), [p.f, p.t])) = lng (prT ps) := by
  induction ps with
  | nil => rfl
  | cons a r ih => rw [List.map_cons, show prT (a :: r) = [a.f, a.t] ++ prT r from rfl, lng_app, ← ih]; rfl
theorem lngT_l (ls : List Nm) : lngT (ls.map fun t => (([] : List Int), [t])) = lng ls := by
  induction ls with
  | nil => rfl
  | cons a r ih => rw [List.map_cons, show a :: r = [a] ++ r from rfl, lng_app, ← ih]; rfl
theorem lngT_s (ss : List Sc) : lngT (ss.map fun a => (highB (IntKind.u64.wrap a.s) 8, [a.m])) = lng (ss.map Sc.m) := by
  induction ss with
  | nil => rfl
  | cons a r ih => rw [List.map_cons, List.map_cons, show a.m :: r.map Sc.m = [a.m] ++ r.map Sc.m from rfl, lng_app, ← ih]; rfl
theorem lng_tells {x : Vl} (h : OwnE x) : lngT x.tells = lng x.texts := by
  unfold Vl.tells Vl.texts
  rw [lngT_app, lngT_app, lngT_app, lngT_p, lngT_l, lngT_s, lng_app, lng_app, lng_app]
  have : lngT (if x.k = 1 then [(([] : List Int), [x.t])] else []) = lng [x.t] := by
    by_cases hk : x.k = 1
    · rw [if_pos hk]; simp [lngT]
    · rw [if_neg hk]
      have := h.t
      rw [if_neg hk] at this
      rw [this]; rfl
  rw [this, Bool.or_assoc, Bool.or_assoc]
theorem totT_p (ps : List Pr) : totT (ps.map fun p => (([] : List Int), [p.f, p.t])) = tot (prT ps) := by
  induction ps with
  | nil => rfl
  | cons a r ih => rw [List.map_cons, show prT (a :: r) = [a.f, a.t] ++ prT r from rfl, tot_app, ← ih]; simp [totT]
theorem totT_l (ls : List Nm) : totT (ls.map fun t => (([] : List Int), [t])) = tot ls := by
  induction ls with
  | nil => rfl
  | cons a r ih => rw [List.map_cons, show a :: r = [a] ++ r from rfl, tot_app, ← ih]; simp [totT]
theorem totT_s (ss : List Sc) : totT (ss.map fun a => (highB (IntKind.u64.wrap a.s) 8, [a.m])) = 8 * ss.length + tot (ss.map Sc.m) := by
  induction ss with
  | nil => rfl
  | cons a r ih =>
    rw [List.map_cons, List.map_cons, totT, ih]
    simp only [tot, highB, List.length_reverse, lowB_length, List.length_cons]; omega
theorem tot_tells {x : Vl} (h : OwnE x) : totT x.tells = 8 * x.ss.length + tot x.texts := by
  unfold Vl.tells Vl.texts
  rw [totT_app, totT_app, totT_app, totT_p, totT_l, totT_s, tot_app, tot_app, tot_app]
  have : totT (if x.k = 1 then [(([] : List Int), [x.t])] else []) = tot [x.t] := by
    by_cases hk : x.k = 1
    · rw [if_pos hk]; simp [totT]
    · rw [if_neg hk]
      have := h.t
      rw [if_neg hk] at this
      rw [this]; rfl
  rw [this]; omega
theorem ord_dord {x : Vl} (h : OwnE x) : x.ordB = x.dord := by
  obtain ⟨h1, h2, h3, h4⟩ := h
  unfold Vl.ordB Vl.dord
  by_cases k2 : x.k = 2
  · rw [if_neg (by omega)] at h3 h4
    rw [h3, h4, if_pos k2]; simp [riseB, frB]
  · rw [if_neg k2] at h2
    rw [if_neg k2, h2]
    by_cases k4 : x.k = 4
    · rw [if_neg (by omega)] at h4
      rw [if_pos k4, h4]; simp [riseB, frB, k4]
    · rw [if_neg k4]
      by_cases k5 : x.k = 5
      · rw [if_pos k5]; simp [riseB, k4]
      · rw [if_neg k5] at h4
        rw [if_neg k5, h4]; simp [riseB, frB, k4]
theorem chk_eq (x : Vl) : x.chk = x.rchk := by
  unfold Vl.chk Vl.rchk
  by_cases hk : 1 ≤ x.k ∧ x.k ≤ 5
  · by_cases hx : x = x.own
    · have hO := ownE hx
      have hod := odd_own.2 hx
      rw [← hx, lng_tells hO, ord_dord hO, hod, decide_eq_true hk]
      generalize (x.ps.length : Int) + x.ls.length + x.ss.length = q
      unfold chk rchk
      by_cases k1 : x.k = 1
      · simp [k1]
      · have e1 : ¬ x.k < 1 := by omega
        have e5 : ¬ 5 < x.k := by omega
        have e2 : 1 < x.k := by omega
        simp [k1, e1, e5, e2]
    · have hod : x.oddB = true := by
        cases h : x.oddB with
        | true => rfl
        | false => exact absurd (odd_own.1 h) hx
      rw [hod, decide_eq_false hx]
      unfold chk rchk
      simp
  · have h1 : x.k < 1 ∨ 5 < x.k := by omega
    rw [decide_eq_false hk]
    unfold chk rchk
    rw [if_pos (by simp), if_pos (by rcases h1 with h | h; exact .inl h; exact .inr (.inl h))]
theorem rchk_ok {x : Vl} (h : x.rchk = 0) : x = x.own ∧ lng x.texts = false := by
  unfold Vl.rchk rchk at h
  split at h
  · cases h
  · rename_i hn
    split at h
    · cases h
    · split at h
      · cases h
      · rename_i ht
        refine ⟨odd_own.1 ?_, by simpa using ht⟩
        cases ho : x.oddB with
        | false => rfl
        | true => exact absurd (.inr (.inr (.inl ho))) hn
theorem size_eq {x : Vl} (h : x = x.own) : x.own.size = x.rsize := by
  have hO := ownE h
  rw [← h]
  unfold Vl.size Vl.rsize
  rw [tot_tells hO, Int.natCast_add, Int.natCast_mul]
  omega
end Go.Proofs.Ytenejloailkodaa

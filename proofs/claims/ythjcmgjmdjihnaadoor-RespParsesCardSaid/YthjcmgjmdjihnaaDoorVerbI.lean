/-
  Numbers: the document's number of a text. Contract. Own work.
-/
import Derived.Test.YthjcmgjmdjihnaaDoorVerbH
namespace Go.Proofs.YthjcmgjmdjihnaaDoor
open Go.RowKit Go.Lib
set_option linter.unusedVariables false
set_option linter.unusedSimpArgs false
theorem down_no {v cd T : Int} {c : UInt8} {l : List UInt8} (hc : (c.toNat : Int) - 48 = cd) (h : cd < 0 ∨ 9 < cd ∨ (0 ≤ cd ∧ cd ≤ 9 ∧ v < (-9223372036854775808 + cd).tdiv 10)) : downL v (c :: l) = none := by
  unfold downL
  refine if_neg ?_
  rw [hc]
  rintro ⟨h1, h2, h3⟩
  omega
theorem down_yes {v cd : Int} {c : UInt8} {l : List UInt8} (hc : (c.toNat : Int) - 48 = cd) (h0 : 0 ≤ cd) (h9 : cd ≤ 9) (h : (-9223372036854775808 + cd).tdiv 10 ≤ v) : downL v (c :: l) = downL (10 * v - cd) l := by
  rw [downL, if_pos ⟨by omega, by omega, by rw [hc]; exact h⟩, hc]
theorem drop_get {α : Type} {l : List α} {n : Nat} {x : α} (h : l[n]? = some x) : l.drop n = x :: l.drop (n + 1) := by
  have hn : n < l.length := (List.getElem?_eq_some_iff.1 h).1
  rw [List.drop_eq_getElem_cons hn, (List.getElem?_eq_some_iff.1 h).2]
set_option maxRecDepth 100000 in
set_option maxHeartbeats 4000000 in
theorem rintN_any (r : List UInt8) (S : List UInt8) (hS : S = 45 :: r) (hr : r ≠ []) (hl : S.length ≤ 20) (w : World) : Calls Tryd.prog 34 #[encStr S] w fun e w' => e = .returned (.tuple #[.int .i64 (refC true r S).1, .bool (refC true r S).2]) ∧ Below w.heap.size w w' := by
  have hSl : S.length = r.length + 1 := by rw [hS]; rfl
  have hSlI : (S.length : Int) = (r.length : Int) + 1 := by omega
  have hrl := List.length_pos_iff.2 hr
  obtain ⟨c0, hc0⟩ : ∃ c, S[0]? = some c := ⟨45, by rw [hS]; rfl⟩
  have hq0 : ((c0.toNat : Int) == 45) = true := by
    rw [hS] at hc0
    obtain rfl : (45 : UInt8) = c0 := by simpa using hc0
    rfl
  have hpos : (0 : Int) < (S.length : Int) := by omega
  replace hc0 := hide hc0
  obtain ⟨I, hI⟩ : ∃ I, I = refC true r S := ⟨_, rfl⟩
  rw [← hI]
  have hI2 : I = (match downL 0 r with | none => (0, false) | some n => if true = false ∧ n = -9223372036854775808 then (0, false) else if itoa (if true then n else -n) = S then (if true then n else -n, true) else (0, false)) := by
    rw [hI]; unfold refC; exact if_neg (by rintro (h | h); exact hr h; omega)
  have hne : ((S.length : Int) == 1) = false := beq_eq_false_iff_ne.2 (by omega)
  have hng : ¬ (20 : Int) < (S.length : Int) := by omega
  have hget : S.drop 1 = r := by rw [hS]; rfl
  have h20 : (S.length : Int) ≤ 20 := by omega
  replace hI2 := hide hI2
  replace hget := hide hget
  replace hSl := hide hSl
  replace hSlI := hide hSlI
  clear hI hS
  go_enter Tryd.func34, Tryd.ntmps34
  go_wp2_with (first
    | (with_reducible refine wl_run (o := ⟨some 9, _, _, _, _, _⟩) rfl (.int .i64 (S.length : Int)) (run_lenStr 9 (.tmp 8) S rfl Tryd.underlying9 rfl) ?_)
    | (refine wg_run (o := ⟨some 13, _, _, _, _, _⟩) 3 true 11 rfl rfl rfl (.int .u8 (c0.toNat : Int)) (run_idxStr 9 (.tmp 12) (.const (.int .i64 0)) S 0 c0 rfl Tryd.underlying9 rfl rfl hc0.out) ?_)
    | (with_reducible refine wl_run (o := ⟨some 17, _, _, _, _, _⟩) rfl (.int .i64 (S.length : Int)) (run_lenStr 9 (.tmp 16) S rfl Tryd.underlying9 rfl) ?_)
    | (refine wg_run (o := ⟨some 22, _, _, _, _, _⟩) 4 false 20 rfl rfl rfl (.int .i64 (S.length : Int)) (run_lenStr 9 (.tmp 21) S rfl Tryd.underlying9 rfl) ?_))
  go_loopw [5, 6] (fun nv iv wr => ∃ (v : Int) (j : Nat), nv = .int .i64 v ∧ iv = .int .i64 (j : Int) ∧ j ≤ S.length ∧ -9223372036854775808 ≤ v ∧ v ≤ 0 ∧ downL 0 r = downL v (S.drop j) ∧ wr = w) (fun _ iv _ => 100 - (RowKit.intOf iv).toNat)
  case atStart => exact ⟨0, 1, rfl, rfl, by have := hSl.out; omega, by decide, by decide, by rw [hget.out], rfl⟩
  case round =>
    obtain ⟨v, j, rfl, rfl, hj, hv0, hv1, hd, rfl⟩ := hrel
    replace hv0 := hide hv0
    replace hd := hide hd
    by_cases hji : j < S.length
    · have hjI : (j : Int) < (S.length : Int) := by omega
      obtain ⟨c, hc⟩ : ∃ c, S[j]? = some c := ⟨_, List.getElem?_eq_getElem hji⟩
      have hcs := hide hc
      have hd2 := hide (show downL 0 r = downL v (c :: S.drop (j + 1)) by rw [hd.out, drop_get hc])
      obtain ⟨cd, hcd⟩ : ∃ cd : Int, cd = (c.toNat : Int) - 48 := ⟨_, rfl⟩
      have hc8 := c.toNat_lt
      have hcw := hide (show IntKind.i64.wrap ((c.toNat : Int) - 48) = cd from wrap_id hcd.symm (by omega) (by omega))
      have hcb : cd ≤ 207 := by omega
      have hca : -48 ≤ cd := by omega
      replace hcd := hide hcd
      clear hc
      by_cases k1 : cd < 0
      · have hI3 : I = (0, false) := by rw [hI2.out, hd2.out, down_no (T := 0) hcd.out.symm (.inl k1)]
        subst hI3
        go_wp2_with (first
          | (with_reducible refine wl_run (o := ⟨some 28, _, _, _, _, _⟩) rfl (.int .i64 (S.length : Int)) (run_lenStr 9 (.tmp 27) S rfl Tryd.underlying9 rfl) ?_)
          | (with_reducible refine wl_run (o := ⟨some 34, _, _, _, _, _⟩) rfl (.int .u8 (c.toNat : Int)) (run_idxStr 9 (.tmp 32) (.tmp 33) S j c rfl Tryd.underlying9 rfl rfl hcs.out) ?_)
          | (with_reducible refine wl_run (o := ⟨some 36, _, _, _, _, _⟩) rfl (.int .i64 cd) (run_subZ (.tmp 35) (.const (.int .i64 48)) rfl rfl rfl hcw.out) ?_))
        go_ret2
        exact ⟨rfl, Below.refl _ _⟩
      · by_cases k2 : 9 < cd
        · have hI3 : I = (0, false) := by rw [hI2.out, hd2.out, down_no (T := 0) hcd.out.symm (.inr (.inl k2))]
          subst hI3
          go_wp2_with (first
          | (with_reducible refine wl_run (o := ⟨some 28, _, _, _, _, _⟩) rfl (.int .i64 (S.length : Int)) (run_lenStr 9 (.tmp 27) S rfl Tryd.underlying9 rfl) ?_)
          | (with_reducible refine wl_run (o := ⟨some 34, _, _, _, _, _⟩) rfl (.int .u8 (c.toNat : Int)) (run_idxStr 9 (.tmp 32) (.tmp 33) S j c rfl Tryd.underlying9 rfl rfl hcs.out) ?_)
          | (with_reducible refine wl_run (o := ⟨some 36, _, _, _, _, _⟩) rfl (.int .i64 cd) (run_subZ (.tmp 35) (.const (.int .i64 48)) rfl rfl rfl hcw.out) ?_))
          go_ret2
          exact ⟨rfl, Below.refl _ _⟩
        · obtain ⟨X, hX⟩ : ∃ X : Int, X = -9223372036854775808 + cd := ⟨_, rfl⟩
          obtain ⟨T, hT⟩ : ∃ T : Int, T = X.tdiv 10 := ⟨_, rfl⟩
          have hXw := hide (show IntKind.i64.wrap (-9223372036854775808 + cd) = X from wrap_id hX.symm (by omega) (by omega))
          have hTe : X.tdiv 10 = -((9223372036854775808 - cd) / 10) := by rw [hX]; exact tdiv_neg (by omega) (by omega)
          have hTw := hide (show IntKind.i64.wrap (X.tdiv 10) = T from wrap_id hT.symm (by omega) (by omega))
          by_cases k3 : v < T
          · have hI3 : I = (0, false) := by
              rw [hI2.out, hd2.out, down_no (T := 0) hcd.out.symm (.inr (.inr ⟨by omega, by omega, by rw [← hX, ← hT]; exact k3⟩))]
            subst hI3
            clear hX hT hTe
            go_wp2_with (first
          | (with_reducible refine wl_run (o := ⟨some 28, _, _, _, _, _⟩) rfl (.int .i64 (S.length : Int)) (run_lenStr 9 (.tmp 27) S rfl Tryd.underlying9 rfl) ?_)
          | (with_reducible refine wl_run (o := ⟨some 34, _, _, _, _, _⟩) rfl (.int .u8 (c.toNat : Int)) (run_idxStr 9 (.tmp 32) (.tmp 33) S j c rfl Tryd.underlying9 rfl rfl hcs.out) ?_)
          | (with_reducible refine wl_run (o := ⟨some 36, _, _, _, _, _⟩) rfl (.int .i64 cd) (run_subZ (.tmp 35) (.const (.int .i64 48)) rfl rfl rfl hcw.out) ?_)
          | (refine wg_run (o := ⟨some 46, _, _, _, _, _⟩) 6 false 43 rfl rfl rfl (.int .i64 X) (run_addZ (.const (.int .i64 (-9223372036854775808))) (.tmp 45) rfl rfl rfl hXw.out) ?_)
          | (refine wg_run (o := ⟨some 47, _, _, _, _, _⟩) 6 false 43 rfl rfl rfl (.int .i64 T) (run_quoZ (.tmp 46) (.const (.int .i64 10)) rfl rfl rfl (by decide) hTw.out) ?_))
            go_ret2
            exact ⟨rfl, Below.refl _ _⟩
          · have hd3 := hide (show downL 0 r = downL (10 * v - cd) (S.drop (j + 1)) by
              rw [hd2.out, down_yes hcd.out.symm (by omega) (by omega) (by rw [← hX, ← hT]; omega)])
            have e0 : -9223372036854775808 ≤ 10 * v - cd := by omega
            have e1 : 10 * v - cd ≤ 0 := by omega
            have hm0 : -9223372036854775808 ≤ 10 * v := by omega
            have hmw := hide (show IntKind.i64.wrap (10 * v) = 10 * v from wrap_id rfl (by omega) (by omega))
            have hsw := hide (show IntKind.i64.wrap (10 * v - cd) = 10 * v - cd from wrap_id rfl (by omega) (by omega))
            replace e0 := hide e0
            clear hX hT hTe hm0
            go_wp2_with (first
          | (with_reducible refine wl_run (o := ⟨some 28, _, _, _, _, _⟩) rfl (.int .i64 (S.length : Int)) (run_lenStr 9 (.tmp 27) S rfl Tryd.underlying9 rfl) ?_)
          | (with_reducible refine wl_run (o := ⟨some 34, _, _, _, _, _⟩) rfl (.int .u8 (c.toNat : Int)) (run_idxStr 9 (.tmp 32) (.tmp 33) S j c rfl Tryd.underlying9 rfl rfl hcs.out) ?_)
          | (with_reducible refine wl_run (o := ⟨some 36, _, _, _, _, _⟩) rfl (.int .i64 cd) (run_subZ (.tmp 35) (.const (.int .i64 48)) rfl rfl rfl hcw.out) ?_)
          | (refine wg_run (o := ⟨some 46, _, _, _, _, _⟩) 6 false 43 rfl rfl rfl (.int .i64 X) (run_addZ (.const (.int .i64 (-9223372036854775808))) (.tmp 45) rfl rfl rfl hXw.out) ?_)
          | (refine wg_run (o := ⟨some 47, _, _, _, _, _⟩) 6 false 43 rfl rfl rfl (.int .i64 T) (run_quoZ (.tmp 46) (.const (.int .i64 10)) rfl rfl rfl (by decide) hTw.out) ?_)
          | (with_reducible refine wl_run (o := ⟨some 51, _, _, _, _, _⟩) rfl (.int .i64 (10 * v)) (run_mulZ (.const (.int .i64 10)) (.tmp 50) rfl rfl rfl hmw.out) ?_)
          | (with_reducible refine wl_run (o := ⟨some 53, _, _, _, _, _⟩) rfl (.int .i64 (10 * v - cd)) (run_subZ (.tmp 51) (.tmp 52) rfl rfl rfl hsw.out) ?_))
            go_roundw
            case rel => exact ⟨10 * v - cd, j + 1, rfl, by go_num, hji, e0.out, e1, hd3.out, trivial⟩
            case measure => simp [RowKit.intOf]; omega
    · obtain rfl : j = S.length := by omega
      have hd2 : downL 0 r = some v := by rw [hd.out, List.drop_length]; rfl
      have hI3 : I = _ := hI2.out
      rw [hd2] at hI3
      simp only at hI3
      have HT := fun w => rtext_any (v).natAbs (v) w (Nat.le_refl _) (by have := hv0.out; omega) (by have := hv0.out; omega)
      by_cases hq : itoa (v) = S
      · have hI4 : I = (v, true) := by rw [hI3]; simp [hq]
        subst hI4
        clear hI3
        replace hq := hide (show (!decide (itoa (v) = S)) = false by rw [decide_eq_true hq]; rfl)
        go_wp2_with (first
          | (with_reducible refine wl_run (o := ⟨some 28, _, _, _, _, _⟩) rfl (.int .i64 (S.length : Int)) (run_lenStr 9 (.tmp 27) S rfl Tryd.underlying9 rfl) ?_))
        refine (HT _).mono ?_
        rintro e w2 ⟨rfl, b2⟩
        clear HT
        go_wp2_with (first
          | (with_reducible refine wl_run (o := ⟨some 63, _, _, _, _, _⟩) rfl (.bool false) (run_neStr (.tmp 61) (.tmp 62) rfl rfl rfl hq.out) ?_))
        go_ret2
        exact ⟨rfl, b2⟩
      · have hI4 : I = (0, false) := by rw [hI3]; simp [hq]
        subst hI4
        clear hI3
        replace hq := hide (show (!decide (itoa (v) = S)) = true by rw [decide_eq_false hq]; rfl)
        go_wp2_with (first
          | (with_reducible refine wl_run (o := ⟨some 28, _, _, _, _, _⟩) rfl (.int .i64 (S.length : Int)) (run_lenStr 9 (.tmp 27) S rfl Tryd.underlying9 rfl) ?_))
        refine (HT _).mono ?_
        rintro e w2 ⟨rfl, b2⟩
        clear HT
        go_wp2_with (first
          | (with_reducible refine wl_run (o := ⟨some 63, _, _, _, _, _⟩) rfl (.bool true) (run_neStr (.tmp 61) (.tmp 62) rfl rfl rfl hq.out) ?_))
        go_ret2
        exact ⟨rfl, b2⟩
set_option maxRecDepth 100000 in
set_option maxHeartbeats 4000000 in
theorem rintP_any (r : List UInt8) (S : List UInt8) (hS : S = r) (hh : S.head? ≠ some 45) (hr : r ≠ []) (hl : S.length ≤ 20) (w : World) : Calls Tryd.prog 34 #[encStr S] w fun e w' => e = .returned (.tuple #[.int .i64 (refC false r S).1, .bool (refC false r S).2]) ∧ Below w.heap.size w w' := by
  have hSl : S.length = r.length + 0 := by rw [hS]; rfl
  have hSlI : (S.length : Int) = (r.length : Int) + 0 := by omega
  have hrl := List.length_pos_iff.2 hr
  obtain ⟨c0, hc0⟩ : ∃ c, S[0]? = some c := ⟨_, List.getElem?_eq_getElem (by have := List.length_pos_iff.2 hr; omega)⟩
  have hq0 : ((c0.toNat : Int) == 45) = false := by
    refine beq_eq_false_iff_ne.2 fun h => hh ?_
    have : c0 = 45 := UInt8.toNat_inj.1 (by show c0.toNat = 45; omega)
    rw [List.head?_eq_getElem?, hc0, this]
  have hpos : (0 : Int) < (S.length : Int) := by have := List.length_pos_iff.2 hr; omega
  replace hc0 := hide hc0
  obtain ⟨I, hI⟩ : ∃ I, I = refC false r S := ⟨_, rfl⟩
  rw [← hI]
  have hI2 : I = (match downL 0 r with | none => (0, false) | some n => if false = false ∧ n = -9223372036854775808 then (0, false) else if itoa (if false then n else -n) = S then (if false then n else -n, true) else (0, false)) := by
    rw [hI]; unfold refC; exact if_neg (by rintro (h | h); exact hr h; omega)
  have hne : ((S.length : Int) == 0) = false := beq_eq_false_iff_ne.2 (by omega)
  have hng : ¬ (20 : Int) < (S.length : Int) := by omega
  have hget : S.drop 0 = r := by rw [hS]; rfl
  have h20 : (S.length : Int) ≤ 20 := by omega
  replace hI2 := hide hI2
  replace hget := hide hget
  replace hSl := hide hSl
  replace hSlI := hide hSlI
  clear hI hS hh
  go_enter Tryd.func34, Tryd.ntmps34
  go_wp2_with (first
    | (with_reducible refine wl_run (o := ⟨some 9, _, _, _, _, _⟩) rfl (.int .i64 (S.length : Int)) (run_lenStr 9 (.tmp 8) S rfl Tryd.underlying9 rfl) ?_)
    | (refine wg_run (o := ⟨some 13, _, _, _, _, _⟩) 3 true 11 rfl rfl rfl (.int .u8 (c0.toNat : Int)) (run_idxStr 9 (.tmp 12) (.const (.int .i64 0)) S 0 c0 rfl Tryd.underlying9 rfl rfl hc0.out) ?_)
    | (with_reducible refine wl_run (o := ⟨some 17, _, _, _, _, _⟩) rfl (.int .i64 (S.length : Int)) (run_lenStr 9 (.tmp 16) S rfl Tryd.underlying9 rfl) ?_)
    | (refine wg_run (o := ⟨some 22, _, _, _, _, _⟩) 4 false 20 rfl rfl rfl (.int .i64 (S.length : Int)) (run_lenStr 9 (.tmp 21) S rfl Tryd.underlying9 rfl) ?_))
  go_loopw [5, 6] (fun nv iv wr => ∃ (v : Int) (j : Nat), nv = .int .i64 v ∧ iv = .int .i64 (j : Int) ∧ j ≤ S.length ∧ -9223372036854775808 ≤ v ∧ v ≤ 0 ∧ downL 0 r = downL v (S.drop j) ∧ wr = w) (fun _ iv _ => 100 - (RowKit.intOf iv).toNat)
  case atStart => exact ⟨0, 0, rfl, rfl, by have := hSl.out; omega, by decide, by decide, by rw [hget.out], rfl⟩
  case round =>
    obtain ⟨v, j, rfl, rfl, hj, hv0, hv1, hd, rfl⟩ := hrel
    replace hv0 := hide hv0
    replace hd := hide hd
    by_cases hji : j < S.length
    · have hjI : (j : Int) < (S.length : Int) := by omega
      obtain ⟨c, hc⟩ : ∃ c, S[j]? = some c := ⟨_, List.getElem?_eq_getElem hji⟩
      have hcs := hide hc
      have hd2 := hide (show downL 0 r = downL v (c :: S.drop (j + 1)) by rw [hd.out, drop_get hc])
      obtain ⟨cd, hcd⟩ : ∃ cd : Int, cd = (c.toNat : Int) - 48 := ⟨_, rfl⟩
      have hc8 := c.toNat_lt
      have hcw := hide (show IntKind.i64.wrap ((c.toNat : Int) - 48) = cd from wrap_id hcd.symm (by omega) (by omega))
      have hcb : cd ≤ 207 := by omega
      have hca : -48 ≤ cd := by omega
      replace hcd := hide hcd
      clear hc
      by_cases k1 : cd < 0
      · have hI3 : I = (0, false) := by rw [hI2.out, hd2.out, down_no (T := 0) hcd.out.symm (.inl k1)]
        subst hI3
        go_wp2_with (first
          | (with_reducible refine wl_run (o := ⟨some 28, _, _, _, _, _⟩) rfl (.int .i64 (S.length : Int)) (run_lenStr 9 (.tmp 27) S rfl Tryd.underlying9 rfl) ?_)
          | (with_reducible refine wl_run (o := ⟨some 34, _, _, _, _, _⟩) rfl (.int .u8 (c.toNat : Int)) (run_idxStr 9 (.tmp 32) (.tmp 33) S j c rfl Tryd.underlying9 rfl rfl hcs.out) ?_)
          | (with_reducible refine wl_run (o := ⟨some 36, _, _, _, _, _⟩) rfl (.int .i64 cd) (run_subZ (.tmp 35) (.const (.int .i64 48)) rfl rfl rfl hcw.out) ?_))
        go_ret2
        exact ⟨rfl, Below.refl _ _⟩
      · by_cases k2 : 9 < cd
        · have hI3 : I = (0, false) := by rw [hI2.out, hd2.out, down_no (T := 0) hcd.out.symm (.inr (.inl k2))]
          subst hI3
          go_wp2_with (first
          | (with_reducible refine wl_run (o := ⟨some 28, _, _, _, _, _⟩) rfl (.int .i64 (S.length : Int)) (run_lenStr 9 (.tmp 27) S rfl Tryd.underlying9 rfl) ?_)
          | (with_reducible refine wl_run (o := ⟨some 34, _, _, _, _, _⟩) rfl (.int .u8 (c.toNat : Int)) (run_idxStr 9 (.tmp 32) (.tmp 33) S j c rfl Tryd.underlying9 rfl rfl hcs.out) ?_)
          | (with_reducible refine wl_run (o := ⟨some 36, _, _, _, _, _⟩) rfl (.int .i64 cd) (run_subZ (.tmp 35) (.const (.int .i64 48)) rfl rfl rfl hcw.out) ?_))
          go_ret2
          exact ⟨rfl, Below.refl _ _⟩
        · obtain ⟨X, hX⟩ : ∃ X : Int, X = -9223372036854775808 + cd := ⟨_, rfl⟩
          obtain ⟨T, hT⟩ : ∃ T : Int, T = X.tdiv 10 := ⟨_, rfl⟩
          have hXw := hide (show IntKind.i64.wrap (-9223372036854775808 + cd) = X from wrap_id hX.symm (by omega) (by omega))
          have hTe : X.tdiv 10 = -((9223372036854775808 - cd) / 10) := by rw [hX]; exact tdiv_neg (by omega) (by omega)
          have hTw := hide (show IntKind.i64.wrap (X.tdiv 10) = T from wrap_id hT.symm (by omega) (by omega))
          by_cases k3 : v < T
          · have hI3 : I = (0, false) := by
              rw [hI2.out, hd2.out, down_no (T := 0) hcd.out.symm (.inr (.inr ⟨by omega, by omega, by rw [← hX, ← hT]; exact k3⟩))]
            subst hI3
            clear hX hT hTe
            go_wp2_with (first
          | (with_reducible refine wl_run (o := ⟨some 28, _, _, _, _, _⟩) rfl (.int .i64 (S.length : Int)) (run_lenStr 9 (.tmp 27) S rfl Tryd.underlying9 rfl) ?_)
          | (with_reducible refine wl_run (o := ⟨some 34, _, _, _, _, _⟩) rfl (.int .u8 (c.toNat : Int)) (run_idxStr 9 (.tmp 32) (.tmp 33) S j c rfl Tryd.underlying9 rfl rfl hcs.out) ?_)
          | (with_reducible refine wl_run (o := ⟨some 36, _, _, _, _, _⟩) rfl (.int .i64 cd) (run_subZ (.tmp 35) (.const (.int .i64 48)) rfl rfl rfl hcw.out) ?_)
          | (refine wg_run (o := ⟨some 46, _, _, _, _, _⟩) 6 false 43 rfl rfl rfl (.int .i64 X) (run_addZ (.const (.int .i64 (-9223372036854775808))) (.tmp 45) rfl rfl rfl hXw.out) ?_)
          | (refine wg_run (o := ⟨some 47, _, _, _, _, _⟩) 6 false 43 rfl rfl rfl (.int .i64 T) (run_quoZ (.tmp 46) (.const (.int .i64 10)) rfl rfl rfl (by decide) hTw.out) ?_))
            go_ret2
            exact ⟨rfl, Below.refl _ _⟩
          · have hd3 := hide (show downL 0 r = downL (10 * v - cd) (S.drop (j + 1)) by
              rw [hd2.out, down_yes hcd.out.symm (by omega) (by omega) (by rw [← hX, ← hT]; omega)])
            have e0 : -9223372036854775808 ≤ 10 * v - cd := by omega
            have e1 : 10 * v - cd ≤ 0 := by omega
            have hm0 : -9223372036854775808 ≤ 10 * v := by omega
            have hmw := hide (show IntKind.i64.wrap (10 * v) = 10 * v from wrap_id rfl (by omega) (by omega))
            have hsw := hide (show IntKind.i64.wrap (10 * v - cd) = 10 * v - cd from wrap_id rfl (by omega) (by omega))
            replace e0 := hide e0
            clear hX hT hTe hm0
            go_wp2_with (first
          | (with_reducible refine wl_run (o := ⟨some 28, _, _, _, _, _⟩) rfl (.int .i64 (S.length : Int)) (run_lenStr 9 (.tmp 27) S rfl Tryd.underlying9 rfl) ?_)
          | (with_reducible refine wl_run (o := ⟨some 34, _, _, _, _, _⟩) rfl (.int .u8 (c.toNat : Int)) (run_idxStr 9 (.tmp 32) (.tmp 33) S j c rfl Tryd.underlying9 rfl rfl hcs.out) ?_)
          | (with_reducible refine wl_run (o := ⟨some 36, _, _, _, _, _⟩) rfl (.int .i64 cd) (run_subZ (.tmp 35) (.const (.int .i64 48)) rfl rfl rfl hcw.out) ?_)
          | (refine wg_run (o := ⟨some 46, _, _, _, _, _⟩) 6 false 43 rfl rfl rfl (.int .i64 X) (run_addZ (.const (.int .i64 (-9223372036854775808))) (.tmp 45) rfl rfl rfl hXw.out) ?_)
          | (refine wg_run (o := ⟨some 47, _, _, _, _, _⟩) 6 false 43 rfl rfl rfl (.int .i64 T) (run_quoZ (.tmp 46) (.const (.int .i64 10)) rfl rfl rfl (by decide) hTw.out) ?_)
          | (with_reducible refine wl_run (o := ⟨some 51, _, _, _, _, _⟩) rfl (.int .i64 (10 * v)) (run_mulZ (.const (.int .i64 10)) (.tmp 50) rfl rfl rfl hmw.out) ?_)
          | (with_reducible refine wl_run (o := ⟨some 53, _, _, _, _, _⟩) rfl (.int .i64 (10 * v - cd)) (run_subZ (.tmp 51) (.tmp 52) rfl rfl rfl hsw.out) ?_))
            go_roundw
            case rel => exact ⟨10 * v - cd, j + 1, rfl, by go_num, hji, e0.out, e1, hd3.out, trivial⟩
            case measure => simp [RowKit.intOf]; omega
    · obtain rfl : j = S.length := by omega
      have hd2 : downL 0 r = some v := by rw [hd.out, List.drop_length]; rfl
      have hI3 : I = _ := hI2.out
      rw [hd2] at hI3
      simp only at hI3
      by_cases hmin : v = -9223372036854775808
      · have hI4 : I = (0, false) := by rw [hI3, if_pos ⟨trivial, hmin⟩]
        subst hI4
        clear hI3
        have hmb := hide (decide_eq_true hmin)
        clear hmin
        go_wp2_with (first
          | (with_reducible refine wl_run (o := ⟨some 28, _, _, _, _, _⟩) rfl (.int .i64 (S.length : Int)) (run_lenStr 9 (.tmp 27) S rfl Tryd.underlying9 rfl) ?_)
          | (with_reducible refine wl_run (o := ⟨some 57, _, _, _, _, _⟩) rfl (.bool true) (run_eqlI (.tmp 56) (.const (.int .i64 (-9223372036854775808))) rfl rfl rfl hmb.out) ?_))
        go_ret2
        exact ⟨rfl, Below.refl _ _⟩
      have hI3 : I = (if itoa (-v) = S then (-v, true) else (0, false)) := by rw [hI3, if_neg (by rintro ⟨_, h⟩; exact hmin h)]; rfl
      have hmb := hide (decide_eq_false hmin)
      have hv9 : -9223372036854775807 ≤ v := by have := hv0.out; omega
      have hnw := hide (show IntKind.i64.wrap (-v) = -v from wrap_id rfl (by omega) (by omega))
      replace hv9 := hide hv9
      clear hmin
      have HT := fun w => rtext_any (-v).natAbs (-v) w (Nat.le_refl _) (by have := hv9.out; omega) (by have := hv9.out; omega)
      by_cases hq : itoa (-v) = S
      · have hI4 : I = (-v, true) := by rw [hI3]; rw [if_pos hq]
        subst hI4
        clear hI3
        replace hq := hide (show (!decide (itoa (-v) = S)) = false by rw [decide_eq_true hq]; rfl)
        go_wp2_with (first
          | (with_reducible refine wl_run (o := ⟨some 28, _, _, _, _, _⟩) rfl (.int .i64 (S.length : Int)) (run_lenStr 9 (.tmp 27) S rfl Tryd.underlying9 rfl) ?_)
          | (with_reducible refine wl_run (o := ⟨some 57, _, _, _, _, _⟩) rfl (.bool false) (run_eqlI (.tmp 56) (.const (.int .i64 (-9223372036854775808))) rfl rfl rfl hmb.out) ?_)
          | (with_reducible refine wl_run (o := ⟨some 59, _, _, _, _, _⟩) rfl (.int .i64 (-v)) (run_negZ (.tmp 58) rfl rfl hnw.out) ?_))
        refine (HT _).mono ?_
        rintro e w2 ⟨rfl, b2⟩
        clear HT
        go_wp2_with (first
          | (with_reducible refine wl_run (o := ⟨some 63, _, _, _, _, _⟩) rfl (.bool false) (run_neStr (.tmp 61) (.tmp 62) rfl rfl rfl hq.out) ?_))
        go_ret2
        exact ⟨rfl, b2⟩
      · have hI4 : I = (0, false) := by rw [hI3]; rw [if_neg hq]
        subst hI4
        clear hI3
        replace hq := hide (show (!decide (itoa (-v) = S)) = true by rw [decide_eq_false hq]; rfl)
        go_wp2_with (first
          | (with_reducible refine wl_run (o := ⟨some 28, _, _, _, _, _⟩) rfl (.int .i64 (S.length : Int)) (run_lenStr 9 (.tmp 27) S rfl Tryd.underlying9 rfl) ?_)
          | (with_reducible refine wl_run (o := ⟨some 57, _, _, _, _, _⟩) rfl (.bool false) (run_eqlI (.tmp 56) (.const (.int .i64 (-9223372036854775808))) rfl rfl rfl hmb.out) ?_)
          | (with_reducible refine wl_run (o := ⟨some 59, _, _, _, _, _⟩) rfl (.int .i64 (-v)) (run_negZ (.tmp 58) rfl rfl hnw.out) ?_))
        refine (HT _).mono ?_
        rintro e w2 ⟨rfl, b2⟩
        clear HT
        go_wp2_with (first
          | (with_reducible refine wl_run (o := ⟨some 63, _, _, _, _, _⟩) rfl (.bool true) (run_neStr (.tmp 61) (.tmp 62) rfl rfl rfl hq.out) ?_))
        go_ret2
        exact ⟨rfl, b2⟩
end Go.Proofs.YthjcmgjmdjihnaaDoor

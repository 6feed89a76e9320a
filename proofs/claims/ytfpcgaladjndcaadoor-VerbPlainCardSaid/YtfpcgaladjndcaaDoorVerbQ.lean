/-
  The law VerbPlain. Own work.
-/
import Derived.Test.YtfpcgaladjndcaaDoorVerbO
import Derived.Test.YtfpcgaladjndcaaDoorVerbJ
namespace Go.Proofs.YtfpcgaladjndcaaDoor
open Go.RowKit
set_option linter.unusedVariables false
set_option linter.unusedSimpArgs false
/-- Each byte behind a backslash. -/
def escL (s : List UInt8) : List UInt8 := s.flatMap fun c => [92, c]
abbrev plP (c : UInt8) : Pt := ⟨0, [c]⟩
theorem esc_parts : ∀ (s r : List UInt8), partsL (escL s ++ r) = s.map plP ++ partsL r
  | [], r => rfl
  | c :: s, r => by
    have ih := esc_parts s r
    have e : escL (c :: s) ++ r = 92 :: c :: (escL s ++ r) := rfl
    rw [e, partsL_cons]
    have e2 : cutPartL 92 (c :: (escL s ++ r)) = (⟨0, [c]⟩, escL s ++ r) := rfl
    rw [e2]
    simp only
    rw [ih]
    rfl
theorem plP_takes (c d : UInt8) : (plP c).takes d = decide (c = d) := by
  unfold Pt.takes plP
  rw [if_pos rfl]
  unfold tellsL
  rw [Bool.eq_iff_iff]; simp
theorem lang_plain : ∀ (s t : List UInt8) (l : List Pt), lang (s.map plP ++ l) (s ++ t) = lang l t
  | [], t, l => rfl
  | c :: s, t, l => by
    rw [List.map_cons, List.cons_append, List.cons_append, lang, if_neg (show ¬ (plP c).k = 3 from by show ¬ (0 = 3); decide), plP_takes, decide_eq_true rfl, Bool.true_and, lang_plain s t l]
theorem lang_exact : ∀ (s t : List UInt8), lang (s.map plP) t = decide (s = t)
  | [], t => by cases t <;> simp [lang]
  | c :: s, [] => by simp [lang]
  | c :: s, d :: t => by
    rw [List.map_cons, lang, if_neg (show ¬ (plP c).k = 3 from by show ¬ (0 = 3); decide), plP_takes, lang_exact s t, Bool.eq_iff_iff]
    simp
theorem parts_star (r : List UInt8) : partsL (42 :: r) = ⟨3, []⟩ :: partsL r := by rw [partsL_cons]; rfl
theorem plain1 (s t : List UInt8) : lang (partsL (escL s)) t = decide (s = t) := by
  have := esc_parts s []
  rw [List.append_nil] at this
  rw [this, show partsL [] = [] by rw [partsL], List.append_nil, lang_exact]
theorem plain2 (s t : List UInt8) : lang (partsL (escL s ++ [42])) (s ++ t) = true := by
  rw [esc_parts, lang_plain, parts_star, show partsL [] = [] by rw [partsL], lang_many _ _ rfl]
  exact ⟨t.length, Nat.le_refl _, by simp [lang]⟩
theorem plain3 (s t : List UInt8) : lang (partsL ([42] ++ escL s)) (t ++ s) = true := by
  rw [List.singleton_append, parts_star, lang_many _ _ rfl]
  refine ⟨t.length, by simp, ?_⟩
  rw [List.drop_left, plain1]
  exact decide_eq_true rfl
theorem esc_len (s : List UInt8) : (escL s).length = 2 * s.length := by
  induction s with
  | nil => rfl
  | cons c s ih =>
    have e : escL (c :: s) = 92 :: c :: escL s := rfl
    rw [e, List.length_cons, List.length_cons, ih, List.length_cons]; omega
theorem esc_snoc {s : List UInt8} {i : Nat} {c : UInt8} (h : s[i]? = some c) : escL (s.take (i + 1)) = escL (s.take i) ++ ([92] ++ [c]) := by
  rw [List.take_add_one, h]
  simp [escL]
theorem mid_one {s : List UInt8} {i : Nat} {c : UInt8} (h : s[i]? = some c) : (s.take (i + 1)).drop i = [c] := by
  have hi : i < s.length := (List.getElem?_eq_some_iff.1 h).1
  rw [List.take_add_one, h, List.drop_append_of_le_length (by simp; omega)]
  simp
set_option maxRecDepth 100000 in
set_option maxHeartbeats 2000000 in
theorem verbPlain_any (s t : List UInt8) (w : World) (hT : TabV w) : Calls Tryd.prog 8 #[encStr s, encStr t] w fun e w' => e = .returned (.bool true) ∧ Below w.heap.size w w' := by
  have H4 := awake_any
  by_cases hs : 80 < s.length
  · have hsI : (80 : Int) < (s.length : Int) := by omega
    go_enter Tryd.func8, Tryd.ntmps8
    go_wp2_with (first
      | (with_reducible refine wl_run (o := ⟨some 8, _, _, _, _, _⟩) rfl (.int .i64 (s.length : Int)) (run_lenStr 9 (.tmp 7) s rfl Tryd.underlying9 rfl) ?_))
    refine (H4 w hT).mono ?_
    rintro e w4 ⟨rfl, b4⟩
    go_wp2_with fail
    go_ret
    exact ⟨rfl, b4⟩
  have hsI : ¬ (80 : Int) < (s.length : Int) := by omega
  by_cases ht : 80 < t.length
  · have htI : (80 : Int) < (t.length : Int) := by omega
    go_enter Tryd.func8, Tryd.ntmps8
    go_wp2_with (first
      | (with_reducible refine wl_run (o := ⟨some 8, _, _, _, _, _⟩) rfl (.int .i64 (s.length : Int)) (run_lenStr 9 (.tmp 7) s rfl Tryd.underlying9 rfl) ?_)
      | (refine wg_run (o := ⟨some 12, _, _, _, _, _⟩) 3 false 10 rfl rfl rfl (.int .i64 (t.length : Int)) (run_lenStr 9 (.tmp 11) t rfl Tryd.underlying9 rfl) ?_))
    refine (H4 w hT).mono ?_
    rintro e w4 ⟨rfl, b4⟩
    go_wp2_with fail
    go_ret
    exact ⟨rfl, b4⟩
  have htI : ¬ (80 : Int) < (t.length : Int) := by omega
  have hel := esc_len s
  have M1 := fun w => match_any w (escL s) t (by omega) (by omega)
  have M2 := fun w => match_any w (escL s) s (by omega) (by omega)
  have M3 := fun w => match_any w (escL s ++ [42]) (s ++ t) (by simp; omega) (by simp; omega)
  have M4 := fun w => match_any w ([42] ++ escL s) (t ++ s) (by simp; omega) (by simp; omega)
  rw [plain1] at M1 M2
  rw [decide_eq_true rfl] at M2
  rw [plain2] at M3
  rw [plain3] at M4
  have hel2 := hide hel
  have hs2 := hide hs
  have ht2 := hide ht
  obtain ⟨B, hB⟩ : ∃ B, B = decide (s = t) := ⟨_, rfl⟩
  rw [← hB] at M1
  replace hB := hide hB
  clear hel hs ht
  go_enter Tryd.func8, Tryd.ntmps8
  go_wp2_with (first
    | (with_reducible refine wl_run (o := ⟨some 8, _, _, _, _, _⟩) rfl (.int .i64 (s.length : Int)) (run_lenStr 9 (.tmp 7) s rfl Tryd.underlying9 rfl) ?_)
    | (refine wg_run (o := ⟨some 12, _, _, _, _, _⟩) 3 false 10 rfl rfl rfl (.int .i64 (t.length : Int)) (run_lenStr 9 (.tmp 11) t rfl Tryd.underlying9 rfl) ?_))
  go_loopw [5, 6] (fun pv iv wr => ∃ i : Nat, i ≤ s.length ∧ iv = .int .i64 (i : Int) ∧ pv = encStr (escL (s.take i)) ∧ wr = w) (fun _ iv _ => s.length - (intOf iv).toNat)
  case atStart => exact ⟨0, Nat.zero_le _, rfl, rfl, rfl⟩
  case round =>
    obtain ⟨i, hi, rfl, rfl, rfl⟩ := hrel
    by_cases hi2 : i < s.length
    · have hiI : (i : Int) < (s.length : Int) := by omega
      obtain ⟨c, hc⟩ : ∃ c, s[i]? = some c := ⟨_, List.getElem?_eq_getElem hi2⟩
      have hmid := mid_one hc
      have hsn := hide (esc_snoc hc)
      have hle := esc_len (s.take i)
      rw [List.length_take] at hle
      have hlA := hide (show (escL (s.take i)).length + ([92] ++ [c] : List UInt8).length ≤ 9223372036854775807 by have := hs2.out; simp; omega)
      obtain ⟨j, hj⟩ : ∃ j, j = i + 1 := ⟨_, rfl⟩
      have hz := hide (show IntKind.i64.wrap ((i : Int) + 1) = (j : Int) from wrap_id (by omega) (by omega) (by have := hs2.out; omega))
      have hij := hide (show i ≤ j by omega)
      have hjs := hide (show j ≤ s.length by omega)
      rw [← hj] at hmid hsn
      have hm2 : encStr [c] = encStr ((s.take j).drop i) := by rw [hmid]
      replace hm2 := hide hm2
      replace hj := hide hj
      clear hle hc hmid
      generalize escL (s.take i) = E at *
      go_wp2_with (first
        | (with_reducible refine wl_run (o := ⟨some 26, _, _, _, _, _⟩) rfl (.int .i64 (j : Int)) (run_addZ (.tmp 25) (.const (.int .i64 1)) rfl rfl rfl hz.out) ?_)
        | (refine wl_run (o := ⟨some 27, _, _, _, _, _⟩) rfl (encStr [c]) ((run_sliceStr 9 (.tmp 23) (.tmp 24) (.tmp 26) s i j rfl Tryd.underlying9 rfl rfl rfl hij.out hjs.out).trans (by rw [hm2.out])) ?_)
        | (with_reducible refine wl_run (o := ⟨some 28, _, _, _, _, _⟩) rfl (encStr ([92] ++ [c])) (run_addStr (.const (.string ⟨#[92]⟩)) (.tmp 27) rfl rfl rfl (by simp)) ?_)
        | (with_reducible refine wl_run (o := ⟨some 29, _, _, _, _, _⟩) rfl (encStr (E ++ ([92] ++ [c]))) (run_addStr (.tmp 22) (.tmp 28) rfl rfl rfl hlA.out) ?_)
        | (with_reducible refine wl_run (o := ⟨some 21, _, _, _, _, _⟩) rfl (.int .i64 (j : Int)) (run_addZ (.tmp 20) (.const (.int .i64 1)) rfl rfl rfl hz.out) ?_))
      go_roundw
      case rel => exact ⟨j, hjs.out, rfl, by rw [hsn.out]; rfl, trivial⟩
      case measure => have := hj.out; simp [intOf]; omega
    · obtain rfl : i = s.length := by omega
      rw [List.take_length]
      have hl3 := hide (show (escL s).length + ([42] : List UInt8).length ≤ 9223372036854775807 by have := hel2.out; have := hs2.out; simp; omega)
      have hl4 := hide (show ([42] : List UInt8).length + (escL s).length ≤ 9223372036854775807 by have := hel2.out; have := hs2.out; simp; omega)
      have hl5 := hide (show s.length + t.length ≤ 9223372036854775807 by have := ht2.out; have := hs2.out; omega)
      have hl6 := hide (show t.length + s.length ≤ 9223372036854775807 by have := ht2.out; have := hs2.out; omega)
      generalize escL s = E at *
      go_wp2_with fail
      refine (M1 wr).mono ?_
      rintro e w1 ⟨rfl, b1⟩
      clear M1
      go_wp2_with (first
        | (with_reducible refine wl_run (o := ⟨some 35, _, _, _, _, _⟩) rfl (.bool B) (run_eqStr (.tmp 33) (.tmp 34) rfl rfl rfl hB.out.symm) ?_))
      refine (M2 w1).mono ?_
      rintro e w2 ⟨rfl, b2⟩
      clear M2
      go_wp2_with (first
        | (refine wg_run (o := ⟨some 44, _, _, _, _, _⟩) 12 true 42 rfl rfl rfl (encStr (E ++ [42])) (run_addStr (.tmp 43) (.const (.string ⟨#[42]⟩)) rfl rfl rfl hl3.out) ?_)
        | (refine wg_run (o := ⟨some 47, _, _, _, _, _⟩) 12 true 42 rfl rfl rfl (encStr (s ++ t)) (run_addStr (.tmp 45) (.tmp 46) rfl rfl rfl hl5.out) ?_))
      refine (M3 w2).mono ?_
      rintro e w3 ⟨rfl, b3⟩
      clear M3
      go_wp2_with (first
        | (refine wg_run (o := ⟨some 52, _, _, _, _, _⟩) 20 true 50 rfl rfl rfl (encStr ([42] ++ E)) (run_addStr (.const (.string ⟨#[42]⟩)) (.tmp 51) rfl rfl rfl hl4.out) ?_)
        | (refine wg_run (o := ⟨some 55, _, _, _, _, _⟩) 20 true 50 rfl rfl rfl (encStr (t ++ s)) (run_addStr (.tmp 53) (.tmp 54) rfl rfl rfl hl6.out) ?_))
      refine (M4 w3).mono ?_
      rintro e w4 ⟨rfl, b4⟩
      clear M4
      have B4 : Below wr.heap.size wr w4 := b1.trans ((b2.trans ((b3.trans (b4.mono b3.size)).mono b2.size)).mono b1.size)
      have hT4 := hT.later B4
      clear hT
      go_wp2_with fail
      refine (H4 w4 hT4).mono ?_
      rintro e w5 ⟨rfl, b5⟩
      go_wp2_with fail
      go_ret
      exact ⟨rfl, B4.trans (b5.mono B4.size)⟩
end Go.Proofs.YtfpcgaladjndcaaDoor

/-
  Numbers: the document's number of any text; the tables out of the cards' premise. Own work.
-/
import Derived.Test.YthjcmgjmdjihnaaDoorVerbI
namespace Go.Proofs.YthjcmgjmdjihnaaDoor
open Go.RowKit Go.Lib
set_option linter.unusedVariables false
set_option linter.unusedSimpArgs false
set_option maxRecDepth 100000 in
theorem rint_n1 (S : List UInt8) (hh : S.head? = some 45) (hl : S.length = 1) (w : World) : Calls Tryd.prog 34 #[encStr S] w fun e w' => e = .returned (.tuple #[.int .i64 0, .bool false]) ∧ Below w.heap.size w w' := by
  obtain ⟨c0, hc0⟩ : ∃ c, S[0]? = some c := ⟨45, by rw [List.head?_eq_getElem?] at hh; exact hh⟩
  have hq0 : ((c0.toNat : Int) == 45) = true := by
    rw [List.head?_eq_getElem?, hc0] at hh
    obtain rfl : c0 = 45 := by simpa using hh
    rfl
  replace hc0 := hide hc0
  clear hh
  have hpos : (0 : Int) < (S.length : Int) := by omega
  have hne : ((S.length : Int) == 1) = true := by rw [beq_iff_eq]; omega
  clear hl
  go_enter Tryd.func34, Tryd.ntmps34
  go_wp2_with (first
    | (with_reducible refine wl_run (o := ⟨some 9, _, _, _, _, _⟩) rfl (.int .i64 (S.length : Int)) (run_lenStr 9 (.tmp 8) S rfl Tryd.underlying9 rfl) ?_)
    | (refine wg_run (o := ⟨some 13, _, _, _, _, _⟩) 3 true 11 rfl rfl rfl (.int .u8 (c0.toNat : Int)) (run_idxStr 9 (.tmp 12) (.const (.int .i64 0)) S 0 c0 rfl Tryd.underlying9 rfl rfl hc0.out) ?_)
    | (with_reducible refine wl_run (o := ⟨some 17, _, _, _, _, _⟩) rfl (.int .i64 (S.length : Int)) (run_lenStr 9 (.tmp 16) S rfl Tryd.underlying9 rfl) ?_)
    | (refine wg_run (o := ⟨some 22, _, _, _, _, _⟩) 4 false 20 rfl rfl rfl (.int .i64 (S.length : Int)) (run_lenStr 9 (.tmp 21) S rfl Tryd.underlying9 rfl) ?_))
  go_ret2
  exact ⟨rfl, Below.refl _ _⟩
set_option maxRecDepth 100000 in
theorem rint_n20 (S : List UInt8) (hh : S.head? = some 45) (hl : 20 < S.length) (w : World) : Calls Tryd.prog 34 #[encStr S] w fun e w' => e = .returned (.tuple #[.int .i64 0, .bool false]) ∧ Below w.heap.size w w' := by
  obtain ⟨c0, hc0⟩ : ∃ c, S[0]? = some c := ⟨45, by rw [List.head?_eq_getElem?] at hh; exact hh⟩
  have hq0 : ((c0.toNat : Int) == 45) = true := by
    rw [List.head?_eq_getElem?, hc0] at hh
    obtain rfl : c0 = 45 := by simpa using hh
    rfl
  replace hc0 := hide hc0
  clear hh
  have hpos : (0 : Int) < (S.length : Int) := by omega
  have hne : ((S.length : Int) == 1) = false := beq_eq_false_iff_ne.2 (by omega)
  have h20 : (20 : Int) < (S.length : Int) := by omega
  go_enter Tryd.func34, Tryd.ntmps34
  go_wp2_with (first
    | (with_reducible refine wl_run (o := ⟨some 9, _, _, _, _, _⟩) rfl (.int .i64 (S.length : Int)) (run_lenStr 9 (.tmp 8) S rfl Tryd.underlying9 rfl) ?_)
    | (refine wg_run (o := ⟨some 13, _, _, _, _, _⟩) 3 true 11 rfl rfl rfl (.int .u8 (c0.toNat : Int)) (run_idxStr 9 (.tmp 12) (.const (.int .i64 0)) S 0 c0 rfl Tryd.underlying9 rfl rfl hc0.out) ?_)
    | (with_reducible refine wl_run (o := ⟨some 17, _, _, _, _, _⟩) rfl (.int .i64 (S.length : Int)) (run_lenStr 9 (.tmp 16) S rfl Tryd.underlying9 rfl) ?_)
    | (refine wg_run (o := ⟨some 22, _, _, _, _, _⟩) 4 false 20 rfl rfl rfl (.int .i64 (S.length : Int)) (run_lenStr 9 (.tmp 21) S rfl Tryd.underlying9 rfl) ?_))
  go_ret2
  exact ⟨rfl, Below.refl _ _⟩
set_option maxRecDepth 100000 in
theorem rint_p20 (S : List UInt8) (hh : S.head? ≠ some 45) (hl : 20 < S.length) (w : World) : Calls Tryd.prog 34 #[encStr S] w fun e w' => e = .returned (.tuple #[.int .i64 0, .bool false]) ∧ Below w.heap.size w w' := by
  obtain ⟨c0, hc0⟩ : ∃ c, S[0]? = some c := ⟨_, List.getElem?_eq_getElem (by omega)⟩
  have hq0 : ((c0.toNat : Int) == 45) = false := by
    refine beq_eq_false_iff_ne.2 fun h => hh ?_
    have : c0 = 45 := UInt8.toNat_inj.1 (by show c0.toNat = 45; omega)
    rw [List.head?_eq_getElem?, hc0, this]
  replace hc0 := hide hc0
  clear hh
  have hpos : (0 : Int) < (S.length : Int) := by omega
  have hne : ((S.length : Int) == 0) = false := beq_eq_false_iff_ne.2 (by omega)
  have h20 : (20 : Int) < (S.length : Int) := by omega
  go_enter Tryd.func34, Tryd.ntmps34
  go_wp2_with (first
    | (with_reducible refine wl_run (o := ⟨some 9, _, _, _, _, _⟩) rfl (.int .i64 (S.length : Int)) (run_lenStr 9 (.tmp 8) S rfl Tryd.underlying9 rfl) ?_)
    | (refine wg_run (o := ⟨some 13, _, _, _, _, _⟩) 3 true 11 rfl rfl rfl (.int .u8 (c0.toNat : Int)) (run_idxStr 9 (.tmp 12) (.const (.int .i64 0)) S 0 c0 rfl Tryd.underlying9 rfl rfl hc0.out) ?_)
    | (with_reducible refine wl_run (o := ⟨some 17, _, _, _, _, _⟩) rfl (.int .i64 (S.length : Int)) (run_lenStr 9 (.tmp 16) S rfl Tryd.underlying9 rfl) ?_)
    | (refine wg_run (o := ⟨some 22, _, _, _, _, _⟩) 4 false 20 rfl rfl rfl (.int .i64 (S.length : Int)) (run_lenStr 9 (.tmp 21) S rfl Tryd.underlying9 rfl) ?_))
  go_ret2
  exact ⟨rfl, Below.refl _ _⟩
set_option maxRecDepth 100000 in
theorem rint_p0 (w : World) : Calls Tryd.prog 34 #[encStr []] w fun e w' => e = .returned (.tuple #[.int .i64 0, .bool false]) ∧ Below w.heap.size w w' := by
  go_enter Tryd.func34, Tryd.ntmps34
  go_wp2_with fail
  go_ret2
  exact ⟨rfl, Below.refl _ _⟩
theorem rint_any (S : List UInt8) (w : World) : Calls Tryd.prog 34 #[encStr S] w fun e w' => e = .returned (.tuple #[.int .i64 (intL S).1, .bool (intL S).2]) ∧ Below w.heap.size w w' := by
  rw [← refL_eq]
  by_cases hh : S.head? = some 45
  · obtain ⟨r, rfl⟩ : ∃ r, S = 45 :: r := by
      cases S with
      | nil => cases hh
      | cons a t => simp at hh; exact ⟨t, by rw [hh]⟩
    have e : refL (45 :: r) = refC true r (45 :: r) := by unfold refL; rw [if_pos hh]; rfl
    rw [e]
    by_cases hr : r = []
    · rw [show refC true r (45 :: r) = (0, false) by unfold refC; exact if_pos (.inl hr)]
      exact rint_n1 _ hh (by rw [hr]; rfl) w
    · by_cases h20 : 20 < (45 :: r : List UInt8).length
      · rw [show refC true r (45 :: r) = (0, false) by unfold refC; exact if_pos (.inr h20)]
        exact rint_n20 _ hh h20 w
      · exact rintN_any r _ rfl hr (by omega) w
  · have e : refL S = refC false S S := by unfold refL; rw [if_neg hh]
    rw [e]
    by_cases hr : S = []
    · rw [show refC false S S = (0, false) by unfold refC; exact if_pos (.inl hr)]
      subst hr
      exact rint_p0 w
    · by_cases h20 : 20 < S.length
      · rw [show refC false S S = (0, false) by unfold refC; exact if_pos (.inr h20)]
        exact rint_p20 _ hh h20 w
      · exact rintP_any S S rfl hh hr (by omega) w
def laidV : List (String × DataW Unit) := [("math/bits.deBruijn32tab", Rows.laid_math_bits_deBruijn32tab), ("math/bits.deBruijn64tab", Rows.laid_math_bits_deBruijn64tab), ("internal/strconv.uint64pow10", Rows.laid_internal_strconv_uint64pow10), ("strconv.ErrRange", Rows.laid_strconv_ErrRange), ("strconv.ErrSyntax", Rows.laid_strconv_ErrSyntax)]
theorem tPow : (Tryd.prog.globals[1]?).map (·.type) = some 98 := by kernel_rfl
theorem tSyn : (Tryd.prog.globals[2]?).map (·.type) = some 77 := by kernel_rfl
theorem tRng : (Tryd.prog.globals[3]?).map (·.type) = some 77 := by kernel_rfl
theorem starErr : "*" ++ "errors.errorString" = "*errors.errorString" := by decide
theorem rowErr (u : TypeId) (h : Tryd.prog.typeName? 3 u = some "*errors.errorString") : u = 113 :=
  typeName_ptr_named (nm := "errors.errorString") (by rw [starErr]; kernel_rfl) (by kernel_rfl) (by decide) u (by rw [starErr]; exact h)
set_option maxRecDepth 100000 in
theorem tabV_of_laid {W : World} (h : laidMetH Tryd.prog laidV W) : TabV W := by
  rw [MakeChecks.laidMetH_plain _ _ _ (by kernel_rfl)] at h
  have h3 := h.tail.tail
  obtain ⟨a1, s1, hv1, -, -, -⟩ := laid_sentinel h3.tail gRng tRng Tryd.underlying77 rowErr Tryd.underlying113 Tryd.underlying115 rfl rfl Tryd.underlying9 (by kernel_rfl) (by kernel_rfl)
  obtain ⟨a2, s2, hv2, -, -, -⟩ := laid_sentinel h3.tail.tail gSyn tSyn Tryd.underlying77 rowErr Tryd.underlying113 Tryd.underlying115 rfl rfl Tryd.underlying9 (by kernel_rfl) (by kernel_rfl)
  exact ⟨Lib.tabIs_of_head (k := .u64) (zs := Lib.pow10Tab) gPow tPow Tryd.underlying98 Tryd.underlying85 (by kernel_rfl) (by kernel_rfl) h3, ⟨_, _, hv2⟩, ⟨_, _, hv1⟩⟩
end Go.Proofs.YthjcmgjmdjihnaaDoor

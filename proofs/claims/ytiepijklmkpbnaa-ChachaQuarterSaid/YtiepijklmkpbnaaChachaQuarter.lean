/- ChachaQuarter: the Go text of the law answers true for every input, and writes nothing that was there. -/
import Derived.Test.YtiepijklmkpbnaaQuarter
import Derived.Laws.IdiomArrays
namespace Go.Proofs.Ytiepijklmkpbnaa
open Go.RowKit
set_option linter.unusedVariables false
set_option linter.unusedSimpArgs false
theorem four {α : Type} (l : List α) (h : (⟨l⟩ : Array α).size = 4) : ∃ a b c d, l = [a, b, c, d] := by
  match l, h with
  | [a, b, c, d], _ => exact ⟨a, b, c, d, rfl⟩
theorem wf_w32 {x : Int} (h : (Lit.int .u32 x).wf = true) : w32 x := by
  simp only [Lit.wf, Bool.and_eq_true, decide_eq_true_eq] at h
  have hmin : IntKind.u32.min = 0 := rfl
  have hmax : IntKind.u32.max = 4294967295 := rfl
  rw [hmin, hmax] at h
  exact ⟨by omega, by omega⟩
set_option maxRecDepth 100000 in
set_option maxHeartbeats 1000000 in
theorem awake_any (w : World) : Calls Try.prog 6 #[] w fun e w' => e = .returned (.bool true) ∧ w = w' := by
  have hq : qr 286331153 16909060 2609737539 19088743 = (3928658676, 3407673550, 1166100270, 1484899515) := by decide +kernel
  go_enter Try.func6, Try.ntmps6
  go_wp2_with fail
  refine (quarter_any _ _ _ _ _ ⟨by omega, by omega⟩ ⟨by omega, by omega⟩ ⟨by omega, by omega⟩ ⟨by omega, by omega⟩).mono ?_
  rintro e w' ⟨x, y, z, t, rfl, hx, _, _, _, _, rfl⟩
  have hx' := hx.out
  rw [hq] at hx'
  simp only [Prod.mk.injEq] at hx'
  obtain ⟨rfl, rfl, rfl, rfl⟩ := hx'
  clear hx hq
  go_wp2
  go_ret
  exact ⟨rfl, rfl⟩
theorem eqArr (a b c d : Int) (w : World) : (Op.equalIn 10000 23 (.agg #[.int .u32 a, .int .u32 b, .int .u32 c, .int .u32 d]) (.agg #[.int .u32 a, .int .u32 b, .int .u32 c, .int .u32 d])).run Try.prog w = .ok true w := by
  have u3 := Try.underlying22
  have a3 := Try.isAgg22
  have z3 := Try.sizeOf22
  rw [show (10000 : Nat) = 9999 + 1 from rfl, Op.equalIn]
  simp only [Sem.run_bind, run_underlying Try.underlying23, Result.andThen_ok]
  simp only [Std.Legacy.Range.forIn_eq_forIn_range', Std.Legacy.Range.size, Nat.sub_zero, Nat.add_sub_cancel, Nat.div_one, List.range'_succ, List.range'_zero, List.forIn_cons, List.forIn_nil]
  go_simp
set_option maxHeartbeats 1000000 in
theorem chachaQuarter_any (a b c d : Int) (w : World) (ha : w32 a) (hb : w32 b) (hc : w32 c) (hd : w32 d) :
    Calls Try.prog 3 #[.agg #[.int .u32 a, .int .u32 b, .int .u32 c, .int .u32 d]] w fun e w' => e = .returned (.bool true) ∧ Below w.heap.size w w' := by
  go_enter Try.func3, Try.ntmps3
  go_wp2_with fail
  refine (quarter_any _ _ _ _ _ ha hb hc hd).mono ?_
  rintro e w' ⟨x, y, z, t, rfl, hx, kx, ky, kz, kt, rfl⟩
  go_wp2_with fail
  refine (refQuarter_any _ _ _ _ _ ha hb hc hd).mono ?_
  rintro e w' ⟨x2, y2, z2, t2, rfl, hx2, _, _, _, _, hl⟩
  have he := hx.out.trans hx2.out.symm
  simp only [Prod.mk.injEq] at he
  obtain ⟨rfl, rfl, rfl, rfl⟩ := he
  have hE := fun w => eqArr x y z t w
  go_wp2_with fail
  refine (awake_any _).mono ?_
  rintro e w' ⟨rfl, rfl⟩
  go_wp2
  go_ret
  exact ⟨rfl, ((Below.refl _ _).alloc (Nat.le_refl _) _).trans (hl.mono (by simp))⟩
end Go.Proofs.Ytiepijklmkpbnaa

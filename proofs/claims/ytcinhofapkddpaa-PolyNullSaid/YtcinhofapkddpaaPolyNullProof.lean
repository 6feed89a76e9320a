/- Proved: the law PolyNull (P3.1, P3.2) answers true and leaves its arguments as they read before. For every sixteen bytes, every byte and every list of bytes; no condition. -/
import Derived.Test.YtcinhofapkddpaaRows
import Derived.Test.YtcinhofapkddpaaPolyNull
import Derived.Test.YtcinhofapkddpaaOpen
import Derived.WalkKit
import Derived.ProofKit
import Derived.OpenShut
import Derived.ShutString
import Derived.ChangeOld
import Derived.Below
namespace Go.Proofs.Ytcinhofapkddpaa.polyNull
open Go.ChangeShapes Go.WideShapes Go.ChangeAt Go.RowKit
set_option linter.unusedVariables false

theorem own : ownKnob Try.prog.godebug = none := by kernel_rfl
theorem laidOut : laidOutB Try.prog = true := by kernel_rfl

set_option maxRecDepth 100000 in
theorem lifted (os : Os) (started : os.Started) (H : Type) (enc : TypeId × Value → H) :
    ReturnsInHanded {} Try.checked os 8 .any (Rows.polyNullSpec.pre6 enc Try.prog Try.f8 Rows.polyNullRow.domain false) (Rows.polyNullSpec.post enc Try.prog Try.f8 false true false false) := by
  refine returnsInHanded_of_change (C := Try.checked) own started (by kernel_rfl) Try.func8
    (ChangeSpec.witness6 (enc := enc) (C := Try.checked) false ⟨#[], #[.agg (bv (List.replicate 16 0)).toArray, .int .u8 0, .slice none 0 0], []⟩ 8 (by kernel_rfl) (by kernel_rfl) (by kernel_rfl) (by kernel_rfl)) ?_
  intro W base args ds gs before hval0 hW hcnd _
  have hval : ∀ (j : Nat) t v, Try.f8.params[j]? = some t → args[j]? = some v → Value.okWide Try.prog W .any base t v := hval0
  have hW' := hW
  obtain ⟨p, q, hA0, hV, rfl, hfz, hnd⟩ := hW
  have hA : DataW.TrodAll enc Try.prog W 0 (fun _ => true) true Try.f8.params.toList args.toList ds p := hA0
  rw [Try.params8] at hA hval
  obtain ⟨v0, vs0, d0, ds0, p0, q0, hargs, rfl, rfl, h0, r0⟩ := trodAll_cons hA
  obtain ⟨v1, vs1, d1, ds1, p1, q1, rfl, rfl, rfl, h1, r1⟩ := trodAll_cons r0
  obtain ⟨v2, vs2, d2, ds2, p2, q2, rfl, rfl, rfl, h2, r2⟩ := trodAll_cons r1
  obtain ⟨rfl, rfl, rfl⟩ := trodAll_nil r2
  obtain rfl : args = #[v0, v1, v2] := by cases args; simp_all
  obtain ⟨rfl, rfl⟩ := trodVars_none hV
  have k0 := h0
  have lt0 : ∀ x ∈ p0, x.block < W.heap.size := by obtain ⟨m, hm⟩ := k0; exact DataW.trod_lt m _ _ _ hm
  obtain ⟨a1, rfl, rfl, rfl, w1⟩ := open_int Try.underlying5 (hval 1 5 v1 rfl rfl) h1
  obtain ⟨a2, len2, cap2, rfl⟩ := okWide_slice Try.underlying23 (hval 2 23 v2 rfl rfl)
  have k2 := h2
  have lt2 : ∀ x ∈ p2, x.block < W.heap.size := by obtain ⟨m, hm⟩ := k2; exact DataW.trod_lt m _ _ _ hm
  clear hA0 hval0
  obtain ⟨cs1, rfl⟩ : ∃ cs1 : List Value, v0 = .agg cs1.toArray := by
    have := hval 0 26 v0 rfl rfl
    obtain ⟨cs1, rfl, _⟩ : ∃ cs1, v0 = .agg cs1 ∧ cs1.size = Try.prog.cellsOf 26 ∧ Row.okWide Try.prog W .any base 26 cs1 := by
      simpa [Value.okWide, Try.underlying26] using this
    exact ⟨cs1.toList, by simp⟩
  have kk1 := k0
  obtain ⟨fuel, hf⟩ := kk1
  obtain ⟨ss, hcs1, ls, bss⟩ := trod_bytes Try.underlying26 Try.underlying5 (by kernel_rfl) (by kernel_rfl) hf
  obtain rfl : cs1 = bv ss := hcs1
  clear hf
  obtain ⟨x1, b1, by1, m1⟩ : ∃ xs, Bs W W.heap.size a2 len2 xs ∧ IsBy xs ∧ len2 ≤ cap2 := by
    obtain ⟨fuel, hf⟩ := k2
    obtain ⟨A', n', c', xs, hv, hb, hby, h1, h2⟩ := trod_bs Try.underlying23 Try.underlying5 (by kernel_rfl) hf
    simp at hv
    obtain ⟨rfl, rfl, rfl⟩ := hv
    exact ⟨xs, hb, hby, h1⟩
  have hw1 := bounds_u8 w1
  refine (polyNull_any ss x1 a1 a2 len2 cap2 W ls bss (by omega) (by omega) b1 by1 m1).mono fun e W' ⟨he, bel⟩ => ?_
  subst he
  exact ⟨_, rfl, _, _, _, [], _, [], hW', trodAll_mk1 (shut_bool Try.underlying4 _), (trodAll_cons_mk (Below.trod laidOut (by kernel_rfl) (of_decide_eq_true (by kernel_rfl)) k0 bel lt0) (trodAll_cons_mk (shut_int Try.underlying5 w1) (trodAll_cons_mk (Below.trod laidOut (by kernel_rfl) (of_decide_eq_true (by kernel_rfl)) k2 bel lt2) trodAll_mk0))), rfl, bel.frame _, fun h => by cases h⟩

theorem over : Rows.polyNullRow.holds Try.pinned (OpenSpec.ofChange Rows.polyNullSpec) :=
  OpenClaim.holds_of_wide 8 Try.f8 rfl rfl rfl rfl rfl rfl rfl ⟨rfl, rfl, rfl, rfl, rfl⟩ rfl rfl rfl rfl rfl (by kernel_rfl) Try.func8 (by kernel_rfl)
    (of_decide_eq_true (by kernel_rfl)) (by unfold Func.isWrapper; first | (rw [if_pos (by decide +kernel)]; kernel_rfl) | (rw [if_neg (by decide +kernel)]; exact ⟨rfl, rfl⟩))
    (fun os started H enc _ => lifted os started H enc)

/-- The given statement. -/
theorem proved : Rows.PolyNullSaid := over
#print axioms proved
end Go.Proofs.Ytcinhofapkddpaa.polyNull

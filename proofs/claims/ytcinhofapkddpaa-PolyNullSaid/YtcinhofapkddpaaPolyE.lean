/-
  Poly: what a part tells: contracts. Own work.
-/
import Derived.Test.YtcinhofapkddpaaPolyD
namespace Go.Proofs.Ytcinhofapkddpaa
open Go.RowKit
set_option linter.unusedVariables false
set_option linter.unusedSimpArgs false
set_option maxRecDepth 100000 in
theorem full_any (g t n : Nat) (vs : List Value) (w : World) (hr : Row w t g vs) (hv : vs[16]? = some (.int .i64 (n : Int))) :
    Calls Try.prog 26 #[.pointer (some ⟨g, 0, none⟩)] w fun e w' => e = .returned (.bool ((n : Int) == 16)) ∧ w = w' := by
  have hc := hr.cell hv
  clear hr hv
  go_enter Try.func26, Try.ntmps26
  go_wp2
  go_ret
  exact ⟨rfl, rfl⟩
set_option maxRecDepth 100000 in
theorem begun_any (g t n : Nat) (vs : List Value) (w : World) (hr : Row w t g vs) (hv : vs[16]? = some (.int .i64 (n : Int))) :
    Calls Try.prog 28 #[.pointer (some ⟨g, 0, none⟩)] w fun e w' => e = .returned (.bool (decide ((0 : Int) < n))) ∧ w = w' := by
  have hc := hr.cell hv
  clear hr hv
  go_enter Try.func28, Try.ntmps28
  go_wp2
  go_ret
  exact ⟨by simp, rfl⟩
end Go.Proofs.Ytcinhofapkddpaa

/-
  bits.Len64, in the numbers of this seat (made by lenlay.sh).
-/
import Derived.Test.YtfklfgaomcbchaaProg
import Derived.Shelf.Small.Bits
namespace Go.Proofs.Ytfklfgaomcbchaa
open Go.Shelf
def len64S_ren : Go.Shelf.Ren := ⟨fun | 129 => 44 | n => n, fun | 53 => 74 | 3 => 3 | 4 => 4 | 46 => 76 | 5 => 5 | 9 => 9 | n => n, fun | n => n⟩
theorem len64S : Go.Proofs.Lays.n129 Try.prog len64S_ren := {
  mixed := by kernel_rfl
  f129 := Try.func44.trans (congrArg some (by kernel_rfl))
  t3 := Try.underlying3
  a3 := Try.isAgg3
  z3 := Try.sizeOf3
  v3 := Try.zeroValue3
  t4 := Try.underlying4
  a4 := Try.isAgg4
  z4 := Try.sizeOf4
  v4 := Try.zeroValue4
  t5 := Try.underlying5
  a5 := Try.isAgg5
  z5 := Try.sizeOf5
  v5 := Try.zeroValue5
  t9 := Try.underlying9
  a9 := Try.isAgg9
  z9 := Try.sizeOf9
  v9 := Try.zeroValue9
  t46 := Try.underlying76
  a46 := Try.isAgg76
  z46 := Try.sizeOf76
  v46 := Try.zeroValue76
  t53 := Try.underlying74
  a53 := Try.isAgg74
  z53 := Try.sizeOf74
  v53 := Try.zeroValue74 }
end Go.Proofs.Ytfklfgaomcbchaa

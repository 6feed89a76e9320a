/-
  The shelf's function 137, in the numbers of this seat (made by lay.sh).
-/
import Derived.Test.YtolmomnocfkhoaaDoorProg
import Derived.Shelf.Small.Strs
namespace Go.Proofs.YtolmomnocfkhoaaDoor
open Go.Shelf
def idxSL_ren : Go.Shelf.Ren := ⟨fun | 137 => 68 | 217 => 77 | 266 => 81 | n => n, fun | 9 => 9 | 5 => 5 | 3 => 3 | n => n, fun | n => n⟩
theorem idxSL : Go.Proofs.Lays.n137 Tryd.prog idxSL_ren := {
  mixed := by kernel_rfl
  f137 := Tryd.func68.trans (congrArg some (by kernel_rfl))
  f217 := Tryd.func77.trans (congrArg some (by kernel_rfl))
  f266 := Tryd.func81.trans (congrArg some (by kernel_rfl))
  t3 := Tryd.underlying3
  a3 := Tryd.isAgg3
  z3 := Tryd.sizeOf3
  v3 := Tryd.zeroValue3
  t5 := Tryd.underlying5
  a5 := Tryd.isAgg5
  z5 := Tryd.sizeOf5
  v5 := Tryd.zeroValue5
  t9 := Tryd.underlying9
  a9 := Tryd.isAgg9
  z9 := Tryd.sizeOf9
  v9 := Tryd.zeroValue9 }
end Go.Proofs.YtolmomnocfkhoaaDoor

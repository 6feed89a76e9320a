/-
  The shelf's function 103, in the numbers of this seat (made by lay.sh).
-/
import Derived.Test.YtolmomnocfkhoaaDoorProg
import Derived.Shelf.Small.Wraps
namespace Go.Proofs.YtolmomnocfkhoaaDoor
open Go.Shelf
def cutSL_ren : Go.Shelf.Ren := ⟨fun | 103 => 67 | 210 => 76 | 206 => 80 | n => n, fun | 9 => 9 | 4 => 4 | 24 => 100 | 3 => 3 | n => n, fun | n => n⟩
theorem cutSL : Go.Proofs.Lays.n103 Tryd.prog cutSL_ren := {
  mixed := by kernel_rfl
  f103 := Tryd.func67.trans (congrArg some (by kernel_rfl))
  f206 := Tryd.func80.trans (congrArg some (by kernel_rfl))
  f210 := Tryd.func76.trans (congrArg some (by kernel_rfl))
  t3 := Tryd.underlying3
  a3 := Tryd.isAgg3
  z3 := Tryd.sizeOf3
  v3 := Tryd.zeroValue3
  t4 := Tryd.underlying4
  a4 := Tryd.isAgg4
  z4 := Tryd.sizeOf4
  v4 := Tryd.zeroValue4
  t9 := Tryd.underlying9
  a9 := Tryd.isAgg9
  z9 := Tryd.sizeOf9
  v9 := Tryd.zeroValue9
  t24 := Tryd.underlying100
  a24 := Tryd.isAgg100
  z24 := Tryd.sizeOf100
  v24 := Tryd.zeroValue100 }
end Go.Proofs.YtolmomnocfkhoaaDoor

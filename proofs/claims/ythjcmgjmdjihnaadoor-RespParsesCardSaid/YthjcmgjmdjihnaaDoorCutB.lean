/-
  The shelf's function b142, in the numbers of this seat (made by lay.sh).
-/
import Derived.Test.YthjcmgjmdjihnaaDoorProg
import Derived.Shelf.Bytes.SlSmallAll
namespace Go.Proofs.YthjcmgjmdjihnaaDoor
open Go.Shelf
def cutBL_ren : Go.Shelf.Ren := ⟨fun | 142 => 45 | 117 => 50 | 115 => 60 | n => n, fun | 37 => 26 | 4 => 4 | 3 => 3 | 9 => 9 | 5 => 5 | n => n, fun | n => n⟩
theorem cutBL : Go.Proofs.Lays.nb142 Tryd.prog cutBL_ren := {
  mixed := by kernel_rfl
  f115 := Tryd.func60.trans (congrArg some (by kernel_rfl))
  f117 := Tryd.func50.trans (congrArg some (by kernel_rfl))
  f142 := Tryd.func45.trans (congrArg some (by kernel_rfl))
  t3 := Tryd.underlying3
  a3 := Tryd.isAgg3
  z3 := Tryd.sizeOf3
  v3 := Tryd.zeroValue3
  t4 := Tryd.underlying4
  a4 := Tryd.isAgg4
  z4 := Tryd.sizeOf4
  v4 := Tryd.zeroValue4
  t9 := Tryd.underlying9
  a9 := Tryd.isAgg9
  z9 := Tryd.sizeOf9
  v9 := Tryd.zeroValue9
  t37 := Tryd.underlying26
  a37 := Tryd.isAgg26
  z37 := Tryd.sizeOf26
  v37 := Tryd.zeroValue26
  t5 := Tryd.underlying5
  a5 := Tryd.isAgg5
  z5 := Tryd.sizeOf5
  v5 := Tryd.zeroValue5 }
end Go.Proofs.YthjcmgjmdjihnaaDoor

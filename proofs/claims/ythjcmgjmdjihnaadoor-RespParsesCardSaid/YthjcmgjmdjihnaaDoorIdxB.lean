/-
  The shelf's function 187, in the numbers of this seat (made by lay.sh).
-/
import Derived.Test.YthjcmgjmdjihnaaDoorProg
import Derived.Shelf.Bytes.SlIndexAt
namespace Go.Proofs.YthjcmgjmdjihnaaDoor
open Go.Shelf
def idxBL_ren : Go.Shelf.Ren := ⟨fun | 187 => 43 | 255 => 47 | n => n, fun | 37 => 26 | 5 => 5 | 3 => 3 | n => n, fun | n => n⟩
theorem idxBL : Go.Proofs.Lays.n187 Tryd.prog idxBL_ren := {
  mixed := by kernel_rfl
  f187 := Tryd.func43.trans (congrArg some (by kernel_rfl))
  f255 := Tryd.func47.trans (congrArg some (by kernel_rfl))
  t3 := Tryd.underlying3
  a3 := Tryd.isAgg3
  z3 := Tryd.sizeOf3
  v3 := Tryd.zeroValue3
  t5 := Tryd.underlying5
  a5 := Tryd.isAgg5
  z5 := Tryd.sizeOf5
  v5 := Tryd.zeroValue5
  t37 := Tryd.underlying26
  a37 := Tryd.isAgg26
  z37 := Tryd.sizeOf26
  v37 := Tryd.zeroValue26 }
end Go.Proofs.YthjcmgjmdjihnaaDoor

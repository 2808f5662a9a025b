/- The library's contracts of maps.Keys, slices.Sorted and slices.Sort at this program. -/
import Derived.Shelf.SlIterI.Nil
import Derived.Shelf.SortM.Plain
import Derived.Shelf.SortM.SortNone
import Derived.Test.YtgempaoamamaeaaGreatProg
namespace Go.Proofs.YtgempaoamamaeaaGreat
open Go.Shelf
def keysAk_ren : Go.Shelf.Ren := ⟨fun | 7 => 221 | 10 => 239 | n => n, fun | 23 => 230 | 26 => 3 | 3 => 125 | 28 => 261 | 0 => 0 | 27 => 260 | 33 => 89 | 4 => 4 | n => n, fun | n => n⟩
theorem keysAk : Go.Proofs.SlLaysZI.n7 Tryz.prog keysAk_ren := {
  mixed := by kernel_rfl
  f7 := ⟨Tryz.f221.name, by decide, Tryz.func221.trans (congrArg some (by kernel_rfl))⟩
  f10 := ⟨Tryz.f239.name, by decide, Tryz.func239.trans (congrArg some (by kernel_rfl))⟩
  t0 := Tryz.underlying0
  a0 := Tryz.isAgg0
  z0 := Tryz.sizeOf0
  v0 := Tryz.zeroValue0
  t4 := Tryz.underlying4
  a4 := Tryz.isAgg4
  z4 := Tryz.sizeOf4
  v4 := Tryz.zeroValue4
  t23 := Tryz.underlying230
  a23 := Tryz.isAgg230
  z23 := Tryz.sizeOf230
  v23 := Tryz.zeroValue230
  t26 := Tryz.underlying3
  a26 := Tryz.isAgg3
  z26 := Tryz.sizeOf3
  v26 := Tryz.zeroValue3
  t27 := Tryz.underlying260
  a27 := Tryz.isAgg260
  z27 := Tryz.sizeOf260
  v27 := Tryz.zeroValue260
  t28 := Tryz.underlying261
  a28 := Tryz.isAgg261
  z28 := Tryz.sizeOf261
  v28 := Tryz.zeroValue261
  t33 := Tryz.underlying89
  a33 := Tryz.isAgg89
  z33 := Tryz.sizeOf89
  v33 := Tryz.zeroValue89 }
end Go.Proofs.YtgempaoamamaeaaGreat

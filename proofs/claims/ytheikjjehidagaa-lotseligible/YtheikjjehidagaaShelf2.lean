/- The library's insertion sort, laid at this program, in plain words. -/
import Derived.Shelf.SlSortCmp.InsertionK
import Derived.Test.YtheikjjehidagaaRows
namespace Go.Proofs.Ytheikjjehidagaa
open Go.Shelf
def Try.ins20_ren : Go.Shelf.Ren := ⟨fun | 20 => 96 | n => n, fun | 24 => 47 | 22 => 50 | 3 => 3 | 25 => 90 | 4 => 4 | 0 => 0 | n => n, fun | n => n⟩
theorem Try.ins20 : Go.Proofs.SlLaysF0.n20 Try.prog Try.ins20_ren := {
  mixed := by kernel_rfl
  f20 := ⟨Try.f96.name, by decide, Try.func96.trans (congrArg some (by kernel_rfl))⟩
  t0 := Try.underlying0
  a0 := Try.isAgg0
  z0 := Try.sizeOf0
  v0 := Try.zeroValue0
  t3 := Try.underlying3
  a3 := Try.isAgg3
  z3 := Try.sizeOf3
  v3 := Try.zeroValue3
  t4 := Try.underlying4
  a4 := Try.isAgg4
  z4 := Try.sizeOf4
  v4 := Try.zeroValue4
  t22 := Try.underlying50
  a22 := Try.isAgg50
  z22 := Try.sizeOf50
  v22 := Try.zeroValue50
  t25 := Try.underlying90
  a25 := Try.isAgg90
  z25 := Try.sizeOf90
  v25 := Try.zeroValue90 }
end Go.Proofs.Ytheikjjehidagaa

import Derived.Shelf.SlLaysZI
import Derived.Test.YtjjjlpnbniofjaaBase
namespace Go.Proofs.Ytjjjlpnbniofjaa
open Go.Shelf
def keysB_ren : Go.Shelf.Ren := ⟨fun | 7 => 113 | 10 => 128 | n => n, fun | 23 => 88 | 26 => 3 | 3 => 91 | 28 => 116 | 0 => 0 | 27 => 115 | 33 => 50 | 4 => 4 | n => n, fun | n => n⟩
theorem keysB : Go.Proofs.SlLaysZI.n7 Try.prog keysB_ren := {
  mixed := by kernel_rfl,
  f7 := ⟨Try.f113.name, by decide, Try.func113.trans (congrArg some (by kernel_rfl))⟩,
  f10 := ⟨Try.f128.name, by decide, Try.func128.trans (congrArg some (by kernel_rfl))⟩,
  t0 := Try.underlying0,
  a0 := Try.isAgg0,
  z0 := Try.sizeOf0,
  v0 := Try.zeroValue0,
  t4 := Try.underlying4,
  a4 := Try.isAgg4,
  z4 := Try.sizeOf4,
  v4 := Try.zeroValue4,
  t23 := Try.underlying88,
  a23 := Try.isAgg88,
  z23 := Try.sizeOf88,
  v23 := Try.zeroValue88,
  t26 := Try.underlying3,
  a26 := Try.isAgg3,
  z26 := Try.sizeOf3,
  v26 := Try.zeroValue3,
  t27 := Try.underlying115,
  a27 := Try.isAgg115,
  z27 := Try.sizeOf115,
  v27 := Try.zeroValue115,
  t28 := Try.underlying116,
  a28 := Try.isAgg116,
  z28 := Try.sizeOf116,
  v28 := Try.zeroValue116,
  t33 := Try.underlying50,
  a33 := Try.isAgg50,
  z33 := Try.sizeOf50,
  v33 := Try.zeroValue50 }
end Go.Proofs.Ytjjjlpnbniofjaa

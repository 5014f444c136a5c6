/- Contracts of Go's library that lie on the shelf, laid at this seat: slices.Delete. -/
import Derived.Shelf.SlicesE.Delete
import Derived.Test.YtekeciciajbnnaaProg
namespace Go.Proofs
open Go.Shelf
def Try.deleteL_ren : Go.Shelf.Ren := ⟨fun | 45 => 13 | n => n, fun | 22 => 38 | 23 => 2 | 3 => 3 | 4 => 4 | 0 => 0 | n => n, fun | n => n⟩
theorem Try.deleteL : Go.Proofs.SlLaysE.n45 Try.prog Try.deleteL_ren := {
  mixed := by kernel_rfl
  f45 := ⟨Try.f13.name, by decide, Try.func13.trans (congrArg some (by kernel_rfl))⟩
  t0 := Try.underlying0
  a0 := Try.isAgg0
  z0 := Try.sizeOf0
  v0 := Try.zeroValue0
  t3 := Try.underlying3
  a3 := Try.isAgg3
  z3 := Try.sizeOf3
  v3 := Try.zeroValue3
  t4 := Try.underlying4
  a4 := Try.isAgg4
  z4 := Try.sizeOf4
  v4 := Try.zeroValue4
  t22 := Try.underlying38
  a22 := Try.isAgg38
  z22 := Try.sizeOf38
  v22 := Try.zeroValue38
  a23 := Try.isAgg2
  z23 := Try.sizeOf2 }
end Go.Proofs

/-
  The numbers of this program's own functions and types under the library's function, each body compared by the kernel.
  Conditions: none.
-/
import Derived.Shelf.Slices.Reverse
import Derived.Test.YtgcljhgpihpfgacProg
namespace Go.Proofs.Ytgcljhgpihpfgac
set_option linter.unusedVariables false
open Go.Shelf
def laysRev_ren : Go.Shelf.Ren := ⟨fun | 112 => 72 | n => n, fun | 28 => 22 | 3 => 3 | 4 => 4 | 0 => 0 | n => n, fun | n => n⟩
theorem laysRev : Go.Proofs.Lays.n112 Try.prog laysRev_ren := {
  mixed := by kernel_rfl
  f112 := Try.func72.trans (congrArg some (by kernel_rfl))
  t0 := Try.underlying0
  a0 := Try.isAgg0
  z0 := Try.sizeOf0
  v0 := Try.zeroValue0
  t3 := Try.underlying3
  a3 := Try.isAgg3
  z3 := Try.sizeOf3
  v3 := Try.zeroValue3
  t4 := Try.underlying4
  a4 := Try.isAgg4
  z4 := Try.sizeOf4
  v4 := Try.zeroValue4
  t28 := Try.underlying22
  a28 := Try.isAgg22
  z28 := Try.sizeOf22
  v28 := Try.zeroValue22 }
end Go.Proofs.Ytgcljhgpihpfgac

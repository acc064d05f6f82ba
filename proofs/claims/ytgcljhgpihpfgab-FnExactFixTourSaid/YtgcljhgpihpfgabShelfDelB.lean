/-
  The numbers of this program's own functions and types under the library's function, each body compared by the kernel.
  Conditions: none.
-/
import Derived.Shelf.SlGeneric
import Derived.Shelf.SlicesE.Delete
import Derived.Test.YtgcljhgpihpfgabProg
namespace Go.Proofs.Ytgcljhgpihpfgab
set_option linter.unusedVariables false
open Go.Shelf
def laysDelB_ren : Go.Shelf.Ren := ⟨fun | 45 => 76 | n => n, fun | 22 => 35 | 23 => 5 | 3 => 3 | 4 => 4 | 0 => 0 | n => n, fun | n => n⟩
theorem laysDelB : Go.Proofs.SlLaysE.n45 Try.prog laysDelB_ren := {
  mixed := by kernel_rfl
  f45 := ⟨Try.f76.name, by decide, Try.func76.trans (congrArg some (by kernel_rfl))⟩
  t0 := Try.underlying0
  a0 := Try.isAgg0
  z0 := Try.sizeOf0
  v0 := Try.zeroValue0
  t3 := Try.underlying3
  a3 := Try.isAgg3
  z3 := Try.sizeOf3
  v3 := Try.zeroValue3
  t4 := Try.underlying4
  a4 := Try.isAgg4
  z4 := Try.sizeOf4
  v4 := Try.zeroValue4
  t22 := Try.underlying35
  a22 := Try.isAgg35
  z22 := Try.sizeOf35
  v22 := Try.zeroValue35
  a23 := Try.isAgg5
  z23 := Try.sizeOf5 }
end Go.Proofs.Ytgcljhgpihpfgab

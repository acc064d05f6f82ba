/-
  What a law's claim asks of the program alone, of whatever function: the heaviest three of its facts.
  Conditions: none.
-/
import Derived.Test.YtoheoojpmndhoaaRows
import Derived.Test.YtoheoojpmndhoaaChecked
import Derived.OpenShut
namespace Go.Proofs.Ytoheoojpmndhoaa
theorem mayEnter_ : Try.pinned.checked.prog.mayEnter = true := by kernel_rfl
theorem lifts_ : (Rows.fnExactIsPuzzleRow.lifted == Try.pinned.checked.prog.liftsFinal) = true := by kernel_rfl
theorem make_ : (Try.pinned.checked.prog.make == some Rows.fnExactIsPuzzleRow.make) = true := by kernel_rfl
end Go.Proofs.Ytoheoojpmndhoaa

/-
  What things are.
  Conditions: none.
-/
import Derived.Test.YtoheoojpmndhoabDoorAllB
namespace Go.Proofs.YtoheoojpmndhoabDoor
set_option linter.unusedVariables false
open Go.RowKit

/-- These are things. -/
def goodB (xs : List Int) : Bool := inB (xs.length : Int) 1 9 && allB xs 1 100

theorem goodB_true {xs : List Int} : goodB xs = true ↔ inB (xs.length : Int) 1 9 = true ∧ allB xs 1 100 = true := by simp [goodB]
end Go.Proofs.YtoheoojpmndhoabDoor

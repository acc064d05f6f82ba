/-
  The checking program takes a text for one of things.
  Conditions: none.
-/
import Derived.Test.YtoheoojpmndhoabDoorTxCut
import Derived.Test.YtoheoojpmndhoabDoorGoodP
namespace Go.Proofs.YtoheoojpmndhoabDoor
set_option linter.unusedVariables false
open Go.RowKit

/-- A text is one of things. -/
def thingB (s : ByteArray) : Bool := decide (s.size ≤ 40) && goodB (numsOf 45 s)
end Go.Proofs.YtoheoojpmndhoabDoor

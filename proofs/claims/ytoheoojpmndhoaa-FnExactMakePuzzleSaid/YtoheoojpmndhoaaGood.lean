/-
  Both programs' tests for things: each says whether there are one to nine numbers, each from 1 to 100; nothing is written.
  Conditions: none.
-/
import Derived.Test.YtoheoojpmndhoaaGoodP
namespace Go.Proofs.Ytoheoojpmndhoaa
set_option linter.unusedVariables false
open Go.RowKit

def RetG (xs : List Int) (w : World) (e : Ending) (w' : World) : Prop := e = .returned (.bool (goodB xs)) ∧ w = w'

end Go.Proofs.Ytoheoojpmndhoaa

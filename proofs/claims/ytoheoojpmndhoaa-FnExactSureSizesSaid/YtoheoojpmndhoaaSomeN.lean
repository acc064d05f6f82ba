/-
  A list that is answered if there is one; no program is spoken of here.
  Conditions: none.
-/
import Derived.Test.YtoheoojpmndhoaaMem
namespace Go.Proofs.Ytoheoojpmndhoaa
set_option linter.unusedVariables false
open Go.RowKit

/-- The list, if there is one. -/
def someN (q : Bool) (ys : List Int) : List Int := if q = true then ys else []
theorem someN_no (ys : List Int) : (someN false ys).length ≤ 1048576 := by simp [someN]
theorem someN_yes {ys : List Int} (h : ys.length ≤ 1048576) : (someN true ys).length ≤ 1048576 := by simpa [someN] using h
end Go.Proofs.Ytoheoojpmndhoaa

/-
  The written program takes a text for one of things.
  Conditions: none.
-/
import Derived.Test.YtoheoojpmndhoabDoorTxNums
import Derived.Test.YtoheoojpmndhoabDoorTxThingP
import Derived.Test.YtoheoojpmndhoabDoorTxTwo
namespace Go.Proofs.YtoheoojpmndhoabDoor
set_option linter.unusedVariables false
open Go.RowKit

/-- The written program takes a text for one of things. -/
def takesB (s : ByteArray) : Bool := allNum (cutN 45 9 s) && (goodB (numsA (cutN 45 9 s)) && (textS 45 (numsA (cutN 45 9 s))).toList == s.toList)

theorem takes_no {s : ByteArray} (h : allNum (cutN 45 9 s) = false) : takesB s = false := by rw [takesB, h, Bool.false_and]
theorem takes_bad {s : ByteArray} (h : goodB (numsA (cutN 45 9 s)) = false) : takesB s = false := by rw [takesB, h, Bool.false_and, Bool.and_false]
theorem takes_eq {s : ByteArray} (h : allNum (cutN 45 9 s) = true) (h2 : goodB (numsA (cutN 45 9 s)) = true) : takesB s = ((textS 45 (numsA (cutN 45 9 s))).toList == s.toList) := by rw [takesB, h, h2, Bool.true_and, Bool.true_and]

theorem someL_no (xs : List Int) : someL false xs = [] := rfl
theorem someL_yes (xs : List Int) : someL true xs = xs := rfl
end Go.Proofs.YtoheoojpmndhoabDoor

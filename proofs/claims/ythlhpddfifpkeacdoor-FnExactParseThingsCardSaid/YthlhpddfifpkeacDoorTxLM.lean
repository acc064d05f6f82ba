/-
  Texts that are taken for lengths.
  Conditions: none.
-/
import Derived.Test.YthlhpddfifpkeacDoorTxNums
import Derived.Test.YthlhpddfifpkeacDoorTxCut
import Derived.Test.YthlhpddfifpkeacDoorTxTwo
import Derived.Test.YthlhpddfifpkeacDoorLenM
namespace Go.Proofs.YthlhpddfifpkeacDoor
set_option linter.unusedVariables false
open Go.RowKit

/-- The checking program takes a text for one of lengths. -/
def lengthT (s : ByteArray) : Bool := decide (s.size ≤ 20) && (lensB (numsOf 44 s) && (textS 44 (numsOf 44 s)).toList == s.toList)

/-- The written program takes a text for one of lengths. -/
def takesLB (s : ByteArray) : Bool := allNum (cutN 44 4 s) && (lensB (numsA (cutN 44 4 s)) && (textS 44 (numsA (cutN 44 4 s))).toList == s.toList)

theorem takesL_no {s : ByteArray} (h : allNum (cutN 44 4 s) = false) : takesLB s = false := by rw [takesLB, h, Bool.false_and]
theorem takesL_bad {s : ByteArray} (h : lensB (numsA (cutN 44 4 s)) = false) : takesLB s = false := by rw [takesLB, h, Bool.false_and, Bool.and_false]
theorem takesL_eq {s : ByteArray} (h : allNum (cutN 44 4 s) = true) (h2 : lensB (numsA (cutN 44 4 s)) = true) : takesLB s = ((textS 44 (numsA (cutN 44 4 s))).toList == s.toList) := by rw [takesLB, h, h2, Bool.true_and, Bool.true_and]
end Go.Proofs.YthlhpddfifpkeacDoor

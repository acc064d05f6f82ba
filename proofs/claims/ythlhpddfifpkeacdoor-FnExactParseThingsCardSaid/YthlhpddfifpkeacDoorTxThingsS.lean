/-
  The checking program's things of a text, beside the written program's.
  Conditions: the text has at most 1048576 bytes.
-/
import Derived.Test.YthlhpddfifpkeacDoorTxSame
import Derived.Test.YthlhpddfifpkeacDoorTxPN
import Derived.Test.YthlhpddfifpkeacDoorTxBxParse
namespace Go.Proofs.YthlhpddfifpkeacDoor
set_option linter.unusedVariables false
open Go.RowKit

set_option maxHeartbeats 1000000 in
theorem specParseThings_any (s : ByteArray) (w : World) (hmax : s.size ≤ 9223372036854775807) (q : Bool) (hq : thingB s = q) :
    Calls Tryd.prog 14 #[.string s] w (RetL q (someL q (numsOf 45 s)) w) := by
  have HQ := Lib.hid hq
  clear hq
  go_enter Tryd.func14, Tryd.ntmps14
  go_wp2_with fail
  refine (bxParse_any s _ hmax q HQ.out).mono ?_
  rintro e w1 ⟨A, n, c, rfl, hn, hown, hb⟩
  go_wp2
  go_ret2
  exact ⟨A, n, c, rfl, hn, hown, hb⟩

end Go.Proofs.YthlhpddfifpkeacDoor

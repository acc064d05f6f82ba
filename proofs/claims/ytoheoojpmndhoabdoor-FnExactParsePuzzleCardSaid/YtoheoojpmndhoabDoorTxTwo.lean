/-
  A text of some numbers is not too long.
  Conditions: none.
-/
import Derived.Test.YtoheoojpmndhoabDoorTxNum
namespace Go.Proofs.YtoheoojpmndhoabDoor
set_option linter.unusedVariables false
open Go.RowKit

theorem add_two (xs : List Int) (h : ∀ x ∈ xs, 0 ≤ x ∧ x ≤ 1000000) (hl : xs.length ≤ 1048576) (k : Nat) (sep : UInt8) : (textS sep (xs.take k)).size ≤ 30000000 := by
  have h1 := textS_size sep (xs.take k) (fun x hx => h x (List.mem_of_mem_take hx))
  have h2 : (xs.take k).length ≤ xs.length := by rw [List.length_take]; omega
  omega
end Go.Proofs.YtoheoojpmndhoabDoor

/-
  The indices in falling order of sizes; no program is spoken of here.
  Conditions: none.
-/
import Derived.Test.YtcfnjodcnejnkaaBelowS
import Derived.Test.YtcfnjodcnejnkaaInsC
namespace Go.Proofs.Ytcfnjodcnejnkaa
set_option linter.unusedVariables false
open Go.RowKit

/-- The indices, the greater sizes first. -/
def ordI (xs : List Int) : List Int := sortG (upZ xs) (below xs.length)
theorem ordI_mem {xs : List Int} : ∀ x ∈ ordI xs, 0 ≤ x ∧ x < (xs.length : Int) := sortG_mem (fun x hx => below_mem hx)
theorem ordI_length (xs : List Int) : (ordI xs).length = xs.length := by rw [ordI, sortG_length, below_length]
end Go.Proofs.Ytcfnjodcnejnkaa

/-
  Both programs' tests for prices; nothing is written.
  Conditions: the list has at most 1048576 numbers.
-/
import Derived.Test.YtoheoojpmndhoabMinMax
namespace Go.Proofs.Ytoheoojpmndhoab
set_option linter.unusedVariables false
open Go.RowKit

def cutB (xs : List Int) (rod : Int) : Bool := someB 60 1000 xs && inB rod 1 60

theorem isRod_any (rod : Int) (w : World) (b : Bool) (hb : inB rod 1 60 = b) :
    Calls Try.prog 51 #[.int .i64 rod] w fun e w' => e = .returned (.bool b) ∧ w = w' := by
  by_cases h1 : 1 ≤ rod
  · have g1 : decide (1 ≤ rod) = true := by simpa using h1
    by_cases h2 : rod ≤ 60
    · have g2 : decide (rod ≤ 60) = true := by simpa using h2
      obtain rfl : b = true := by rw [← hb, inB_true]; exact ⟨h1, h2⟩
      clear hb
      go_enter Try.func51, Try.ntmps51
      go_wp2
      go_ret
      exact ⟨rfl, rfl⟩
    · have g2 : decide (rod ≤ 60) = false := by simpa using h2
      obtain rfl : b = false := by rw [← hb, inB_false]; omega
      clear hb
      go_enter Try.func51, Try.ntmps51
      go_wp2
      go_ret
      exact ⟨rfl, rfl⟩
  · have g1 : decide (1 ≤ rod) = false := by simpa using h1
    obtain rfl : b = false := by rw [← hb, inB_false]; omega
    clear hb
    go_enter Try.func51, Try.ntmps51
    go_wp2
    go_ret
    exact ⟨rfl, rfl⟩
end Go.Proofs.Ytoheoojpmndhoab

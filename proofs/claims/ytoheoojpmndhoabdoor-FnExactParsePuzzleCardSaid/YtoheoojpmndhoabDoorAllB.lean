/-
  The checking program's test for numbers that all lie between two others.
  Conditions: none.
-/
import Derived.Test.YtoheoojpmndhoabDoorNum
namespace Go.Proofs.YtoheoojpmndhoabDoor
set_option linter.unusedVariables false
open Go.RowKit

def allB (xs : List Int) (lo hi : Int) : Bool := xs.all fun x => inB x lo hi

theorem allB_of {xs : List Int} {lo hi : Int} (h : ∀ (k : Nat) u, xs[k]? = some u → inB u lo hi = true) : allB xs lo hi = true := by
  unfold allB
  rw [List.all_eq_true]
  intro x hx
  obtain ⟨k, hk⟩ := List.getElem?_of_mem hx
  exact h k x hk

theorem allB_not {xs : List Int} {lo hi : Int} {k : Nat} {u : Int} (h : xs[k]? = some u) (hu : inB u lo hi = false) : allB xs lo hi = false := by
  unfold allB
  rw [List.all_eq_false]
  exact ⟨u, List.mem_of_getElem? h, by simp [hu]⟩

def RetB (xs : List Int) (lo hi : Int) (w : World) (e : Ending) (w' : World) : Prop := e = .returned (.bool (allB xs lo hi)) ∧ w = w'

end Go.Proofs.YtoheoojpmndhoabDoor

/-
  Rows of numbers of cuts; no program is spoken of here.
  Conditions: none.
-/
import Derived.Test.YtoheoojpmndhoabCutsF
namespace Go.Proofs.Ytoheoojpmndhoab
set_option linter.unusedVariables false

theorem wayA_first (r : Nat) : (rowOf r (fun _ => 0)).set 0 1 = rowOf r (wayA 0) := by
  rw [rowOf_set]
  rfl
theorem partR_set (q r m : Nat) (T : Nat → Int) : (rowOf r (partR q T m)).set m (sumR q T m) = rowOf r (partR q T (m + 1)) := by
  rw [rowOf_set, partR_step]
theorem partR_done {q r m : Nat} {T : Nat → Int} (h : r < m) : rowOf r (partR q T m) = rowOf r (sumR q T) := by
  apply rowOf_congr
  intro n hn
  rw [partR_less (by omega)]
end Go.Proofs.Ytoheoojpmndhoab

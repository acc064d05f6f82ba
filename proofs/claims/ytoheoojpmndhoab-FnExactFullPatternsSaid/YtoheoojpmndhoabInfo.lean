/-
  A row of whole numbers that the call makes; the numbers that the law writes into one.
  Conditions: none.
-/
import Derived.Test.YtoheoojpmndhoabBase
import Derived.Deep.OwnRows
namespace Go.Proofs.Ytoheoojpmndhoab
set_option linter.unusedVariables false
open Go.RowKit

theorem int_info : (Try.prog.info? 3).map (fun i => (i.zero, i.size, i.bytes)) = some (some (.int .i64 0), 1, 8) := by kernel_rfl

theorem part_new (w : World) (T n : Nat) (z : Value) (xs : List Int) : Part (w.alloc (.cells (madeCells #[z] n) T)) w.heap.size T n 0 xs :=
  ⟨madeCells #[z] n, heap_alloc_new w _, by simp [madeCells], fun j hj => by omega⟩


/-- The numbers 'k', 'k + 1', .. -/
def marks (k : Int) (n : Nat) : List Int := (List.range n).map fun i : Nat => k + (i : Int)

theorem marks_length (k : Int) (n : Nat) : (marks k n).length = n := by simp [marks]

theorem marks_at (k : Int) (n i : Nat) (h : i < n) : (marks k n)[i]? = some (k + (i : Int)) := by simp [marks, h]

theorem Part.mark {w : World} {g T n k N : Nat} {k0 : Int} (h : Part w g T n k (marks k0 N)) (hk : k < n) (hN : k < N) :
    Part (w.setCell ⟨g, k, none⟩ (.int .i64 (k0 + (k : Int)))) g T n (k + 1) (marks k0 N) := h.step hk (marks_at k0 N k hN)
end Go.Proofs.Ytoheoojpmndhoab

/-
  A row of numbers in memory that begins a block and is written at will.
  Conditions: none.
-/
import Derived.Test.YtoheoojpmndhoabDoorMem
namespace Go.Proofs.YtoheoojpmndhoabDoor
set_option linter.unusedVariables false
open Go.RowKit

/-- Block 'g' begins with the numbers 'ys'. -/
def Row (w : World) (g T N : Nat) (ys : List Int) : Prop :=
  ∃ cs : Array Value, w.heap[g]? = some (.cells cs T (0, 0)) ∧ cs.size = N ∧ ∀ (j : Nat) (u : Int), ys[j]? = some u → cs[j]? = some (.int .i64 u)

section
variable {w w' : World} {g T N : Nat} {ys : List Int}
theorem Row.lt (h : Row w g T N ys) : g < w.heap.size := by obtain ⟨cs, hb, _⟩ := h; exact heap_lt hb
theorem Row.keep (h : Row w g T N ys) (e : w'.heap[g]? = w.heap[g]?) : Row w' g T N ys := by obtain ⟨cs, hb, h2⟩ := h; exact ⟨cs, e.trans hb, h2⟩
theorem Row.cell (h : Row w g T N ys) {j : Nat} {u : Int} (hu : ys[j]? = some u) : w.cell? ⟨g, j, none⟩ = some (.int .i64 u) := by
  obtain ⟨cs, hb, _, hc⟩ := h
  rw [cell_of hb]; exact hc j u hu
theorem Row.frozen (h : Row w g T N ys) (j : Nat) : w.frozen? ⟨g, j, none⟩ = false := by obtain ⟨cs, hb, _⟩ := h; exact frozen_of hb j
theorem Row.set (h : Row w g T N ys) (k : Nat) (u : Int) : Row (w.setCell ⟨g, k, none⟩ (.int .i64 u)) g T N (ys.set k u) := by
  obtain ⟨cs, hb, hs, hc⟩ := h
  refine ⟨cs.setIfInBounds k (.int .i64 u), set_self hb k _, by simpa using hs, fun j v hv => ?_⟩
  by_cases e : j = k
  · subst e
    have hl := (List.getElem?_eq_some_iff.1 hv).1
    rw [List.length_set] at hl
    have h1 := hc j ys[j] (List.getElem?_eq_getElem hl)
    have h2 := (Array.getElem?_eq_some_iff.1 h1).1
    rw [Array.getElem?_setIfInBounds_self_of_lt h2]
    rw [List.getElem?_set_self hl] at hv
    injection hv with hv
    rw [hv]
  · rw [Array.getElem?_setIfInBounds_ne (by omega)]
    rw [List.getElem?_set_ne (by omega)] at hv
    exact hc j v hv
theorem Row.own {lo hi : Nat} (h : Row w g T N ys) (h1 : lo ≤ g) (h2 : g < hi) : Own w lo hi (some ⟨g, 0, none⟩) ys := by
  obtain ⟨cs, hb, _, hc⟩ := h
  refine .inr ⟨g, cs, T, rfl, h1, h2, hb, fun k hk => ?_⟩
  rw [hc k _ (List.getElem?_eq_getElem hk)]
  simp [List.getD, hk]
end
end Go.Proofs.YtoheoojpmndhoabDoor

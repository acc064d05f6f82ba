/-
  A row of bytes in memory that begins a block and is written at will.
  Conditions: none.
-/
import Derived.Test.YtgcljhgpihpfgaaMem
namespace Go.Proofs.Ytgcljhgpihpfgaa
set_option linter.unusedVariables false
open Go.RowKit

/-- Block 'g' begins with the numbers 'ys'. -/
def RowB (w : World) (g T N : Nat) (ys : List Int) : Prop :=
  ∃ (cs : Array Value) (F : Nat × Nat), w.heap[g]? = some (.cells cs T F) ∧ (F.2 = 0 ∨ cs.size ≤ F.1) ∧ cs.size = N ∧ ∀ (j : Nat) (u : Int), ys[j]? = some u → cs[j]? = some (.int .u8 u)

theorem cellB_of {w : World} {g : Nat} {cs : Array Value} {T : Nat} {F : Nat × Nat} (h : w.heap[g]? = some (.cells cs T F)) (i : Nat) : w.cell? ⟨g, i, none⟩ = cs[i]? := cell_of_row w g i cs T F h
theorem setB_self {w : World} {g : Nat} {cs : Array Value} {T : Nat} {F : Nat × Nat} (h : w.heap[g]? = some (.cells cs T F)) (i : Nat) (u : Value) : (w.setCell ⟨g, i, none⟩ u).heap[g]? = some (.cells (cs.setIfInBounds i u) T F) := by
  simp [World.setCell, Array.getElem?_modify, h]

section
variable {w w' : World} {g T N : Nat} {ys : List Int}
theorem RowB.lt (h : RowB w g T N ys) : g < w.heap.size := by obtain ⟨cs, F, hb, _⟩ := h; exact heap_lt hb
theorem RowB.keep (h : RowB w g T N ys) (e : w'.heap[g]? = w.heap[g]?) : RowB w' g T N ys := by obtain ⟨cs, F, hb, h2⟩ := h; exact ⟨cs, F, e.trans hb, h2⟩
theorem RowB.cell (h : RowB w g T N ys) {j : Nat} {u : Int} (hu : ys[j]? = some u) : w.cell? ⟨g, j, none⟩ = some (.int .u8 u) := by
  obtain ⟨cs, F, hb, _, _, hc⟩ := h
  rw [cellB_of hb]; exact hc j u hu
theorem RowB.frozen (h : RowB w g T N ys) {j : Nat} {u : Int} (hu : ys[j]? = some u) : w.frozen? ⟨g, j, none⟩ = false := by
  obtain ⟨cs, F, hb, hF, _, hc⟩ := h
  have hl := (Array.getElem?_eq_some_iff.1 (hc j u hu)).1
  rcases F with ⟨lo, hi⟩
  rcases hF with hF | hF <;> simp [World.frozen?, hb] <;> simp at hF <;> omega
theorem RowB.set (h : RowB w g T N ys) (k : Nat) (u : Int) : RowB (w.setCell ⟨g, k, none⟩ (.int .u8 u)) g T N (ys.set k u) := by
  obtain ⟨cs, F, hb, hF, hs, hc⟩ := h
  refine ⟨cs.setIfInBounds k (.int .u8 u), F, setB_self hb k _, by simpa using hF, by simpa using hs, fun j v hv => ?_⟩
  by_cases e : j = k
  · subst e
    have hl := (List.getElem?_eq_some_iff.1 hv).1
    rw [List.length_set] at hl
    have h1 := hc j ys[j] (List.getElem?_eq_getElem hl)
    have h2 := (Array.getElem?_eq_some_iff.1 h1).1
    rw [Array.getElem?_setIfInBounds_self_of_lt h2]
    rw [List.getElem?_set_self hl] at hv
    injection hv with hv
    rw [hv]
  · rw [Array.getElem?_setIfInBounds_ne (by omega)]
    rw [List.getElem?_set_ne (by omega)] at hv
    exact hc j v hv
end
end Go.Proofs.Ytgcljhgpihpfgaa

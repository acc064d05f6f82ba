/-
  The written program's walk through the patterns, that counts them.
  Conditions: the list has at most 1048576 numbers.
-/
import Derived.Test.YtoheoojpmndhoabWaysI
namespace Go.Proofs.Ytoheoojpmndhoab
set_option linter.unusedVariables false
open Go.RowKit

theorem CutAt.only {S : Nat → Prop} {w w' : World} {g T : Nat} {rod : Int} {A : Option Addr} {n c : Nat} {ms : List Int} (h : CutAt w g T rod A n c ms) (ho : Only S w w') (hs : ¬ S g) : CutAt w' g T rod A n c ms := h.keep (ho.block g h.lt hs)

theorem rem_bd {l : Nat} (hl : 0 < l) (C : Nat → Int) (L x : Nat) (hC : ∀ m, m ≤ L → 0 ≤ C m) : 0 ≤ remN l C L (x + 1) ∧ remN l C L x ≤ sumR l C L := by
  have hn : ∀ m, m ≤ L → 0 ≤ sumR l C m := by
    intro m
    induction m using Nat.strongRecOn with
    | _ m ih =>
      intro hm
      by_cases h : l ≤ m
      · rw [sumR_at hl h]
        have := ih (m - l) (by omega) (by omega)
        have := hC m hm
        omega
      · rw [sumR_less (by omega)]; exact hC m hm
  have hnn : ∀ y, 0 ≤ remN l C L y := fun y => by
    unfold remN
    split
    · exact hn _ (by omega)
    · exact Int.le_refl _
  refine ⟨hnn _, ?_⟩
  induction x with
  | zero => rw [remN_zero]; exact Int.le_refl _
  | succ x ih =>
    by_cases h : x ≤ L / l
    · have := remN_step hl C L x h
      have := hC (L - x * l) (by omega)
      omega
    · rw [remN_last (by omega)]
      exact hn L (Nat.le_refl _)

theorem Only.setNew {S : Nat → Prop} {w w' : World} (h : Only S w w') {p : Addr} (hp : w.heap.size ≤ p.block) (u : Value) : Only S w (w'.setCell p u) :=
  ⟨h.os, h.tape, h.output, by simp [World.setCell]; exact h.size, fun k hk hs => (Below.heap_setCell w' p u k (by omega)).trans (h.block k hk hs)⟩

theorem set_same {l : List Int} {k : Nat} {u : Int} (h : l[k]? = some u) : l.set k u = l := by
  apply List.ext_getElem?
  intro i
  rw [List.getElem?_set]
  by_cases e : k = i
  · subst e
    rw [if_pos rfl, h, if_pos (List.getElem?_eq_some_iff.1 h).1]
  · rw [if_neg e]

end Go.Proofs.Ytoheoojpmndhoab

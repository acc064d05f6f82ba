/-
  Beginnings and ends of lists in memory; no program is spoken of here.
  Conditions: none.
-/
import Derived.Test.YtgcljhgpihpfgacRowI
namespace Go.Proofs.Ytgcljhgpihpfgac
set_option linter.unusedVariables false
open Go.RowKit

theorem own_cap {w : World} {base T n cap : Nat} {A : Option Addr} {xs : List Value} (h : w.ownsRow base T 1 (.slice A n cap) n xs) : n ≤ cap := by
  obtain ⟨_, ⟨hv, hn⟩ | ⟨g, cap', cur, hv, _, _, hnc, _⟩⟩ := h
  · injection hv with _ h2 h3; omega
  · injection hv with _ h2 h3; omega

theorem Seg.takeI {w : World} {lo hi : Nat} {A : Option Addr} {xs : List Int} (h : Seg w lo hi A xs) (j : Nat) : Seg w lo hi A (xs.take j) := by
  rcases h with rfl | ⟨b, off, e, h1, h2, hc⟩
  · exact .inl (by simp)
  · refine .inr ⟨b, off, e, h1, h2, fun k hk => ?_⟩
    rw [List.length_take] at hk
    rw [hc k (by omega)]
    simp only [List.getD]
    rw [List.getElem?_take_of_lt (by omega)]

theorem Seg.dropI {w : World} {lo hi g off : Nat} {xs : List Int} (h : Seg w lo hi (some ⟨g, off, none⟩) xs) (j : Nat) : Seg w lo hi (some ⟨g, off + j, none⟩) (xs.drop j) := by
  rcases h with rfl | ⟨b, off', e, h1, h2, hc⟩
  · exact .inl (by simp)
  · injection e with e; injection e with e1 e2; subst e1 e2
    refine .inr ⟨g, off + j, rfl, h1, h2, fun k hk => ?_⟩
    rw [List.length_drop] at hk
    rw [Nat.add_assoc, hc (j + k) (by omega)]
    simp only [List.getD]
    rw [List.getElem?_drop]

/-- What is left of a row behind a place; at the end of its room it is told from the row's head. -/
theorem tail_seg {w : World} {lo hi g j cap n : Nat} {xs : List Int} (h : Seg w lo hi (some ⟨g, 0, none⟩) xs) (hn : xs.length = n) (hj : j ≤ n) (hc : n ≤ cap) :
    ∃ ad : Addr, (if cap = j then some (⟨g, 0, none⟩ : Addr) else some ⟨g, j, none⟩) = some ad ∧ Seg w lo hi (some ad) (xs.drop j) := by
  by_cases e : cap = j
  · rw [if_pos e]
    refine ⟨_, rfl, .inl (List.drop_of_length_le (by omega))⟩
  · rw [if_neg e]
    refine ⟨_, rfl, ?_⟩
    have := h.dropI j
    rwa [Nat.zero_add] at this

theorem Arr.row {w : World} {g T : Nat} {ys : List Int} (h : Arr w g T ys) : Row w g T ys.length ys := by
  obtain ⟨cs, hb, hc⟩ := h
  refine ⟨cs, hb, by rw [← Array.length_toList, hc, List.length_map], fun j u hu => ?_⟩
  rw [Arr.get hc, hu]
  rfl

end Go.Proofs.Ytgcljhgpihpfgac

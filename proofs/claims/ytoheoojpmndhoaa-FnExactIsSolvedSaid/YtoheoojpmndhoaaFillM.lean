/-
  The first list of things that are just a room together, as a function on lists; no program is spoken of here.
  Conditions: none.
-/
import Derived.Test.YtoheoojpmndhoaaPickM
namespace Go.Proofs.Ytoheoojpmndhoaa
set_option linter.unusedVariables false

/-- The first increasing list of things from 'k' on, 'm' being left, that are just 'room' together. -/
def fillM (xs : List Int) : Nat → Nat → Int → Option (List Int)
  | 0, _, room => if room = 0 then some [] else none
  | m + 1, k, room =>
    if room = 0 then some []
    else if xs.getD k 0 ≤ room then
      match fillM xs m (k + 1) (room - xs.getD k 0) with
      | some r => some ((k : Int) :: r)
      | none => fillM xs m (k + 1) room
    else fillM xs m (k + 1) room

theorem fillM_zero (xs : List Int) (m k : Nat) : fillM xs m k 0 = some [] := by cases m <;> rfl
theorem fillM_end (xs : List Int) (k : Nat) {room : Int} (h : room ≠ 0) : fillM xs 0 k room = none := by unfold fillM; rw [if_neg h]
theorem fillM_over {xs : List Int} {m k : Nat} {room x : Int} (h : room ≠ 0) (hx : xs[k]? = some x) (ho : room < x) : fillM xs (m + 1) k room = fillM xs m (k + 1) room := by
  have e : xs.getD k 0 = x := by simp [List.getD, hx]
  rw [fillM, if_neg h, e, if_neg (by omega)]
theorem fillM_no {xs : List Int} {m k : Nat} {room x : Int} (h : room ≠ 0) (hx : xs[k]? = some x) (hf : fillM xs m (k + 1) (room - x) = none) : fillM xs (m + 1) k room = fillM xs m (k + 1) room := by
  have e : xs.getD k 0 = x := by simp [List.getD, hx]
  rw [fillM, if_neg h, e, hf]
  split <;> rfl
theorem fillM_yes {xs r : List Int} {m k : Nat} {room x : Int} (h : room ≠ 0) (hx : xs[k]? = some x) (ho : ¬ room < x) (hf : fillM xs m (k + 1) (room - x) = some r) : fillM xs (m + 1) k room = some ((k : Int) :: r) := by
  have e : xs.getD k 0 = x := by simp [List.getD, hx]
  rw [fillM, if_neg h, e, if_pos (by omega), hf]

theorem fillM_len {xs r : List Int} {m k : Nat} {room : Int} (h : fillM xs m k room = some r) : r.length ≤ m := by
  induction m generalizing k room r with
  | zero =>
    unfold fillM at h
    split at h
    · injection h with h; subst h; simp
    · cases h
  | succ m ih =>
    unfold fillM at h
    split at h
    · injection h with h; subst h; simp
    · split at h
      · split at h
        · next r' hr => injection h with h; subst h; have := ih hr; simp; omega
        · have := ih h; omega
      · have := ih h; omega
end Go.Proofs.Ytoheoojpmndhoaa

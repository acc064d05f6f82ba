/-
  Rows of boxes that a call has built.
  Conditions: none.
-/
import Derived.Test.YtjpejhpilfjheacDoorTriM
import Derived.Test.YtjpejhpilfjheacDoorRowI
namespace Go.Proofs.YtjpejhpilfjheacDoor
set_option linter.unusedVariables false
open Go.RowKit

/-- A row that a call has built begins so. -/
theorem row_of_owns3 {w : World} {base T n : Nat} {v : Value} {ys : List Int} (h : w.ownsRow base T 3 v n (ys.map (Value.int .i64))) (hn : 0 < n) :
    ∃ g cap N, v = .slice (some ⟨g, 0, none⟩) n cap ∧ base ≤ g ∧ n ≤ cap ∧ Row w g T N ys := by
  obtain ⟨hl, h0 | ⟨g, cap, cur, hv, hg, hb, hnc, _, hs, ht⟩⟩ := h
  · omega
  · refine ⟨g, cap, _, hv, hg, hnc, cur, hb, rfl, fun j u hu => ?_⟩
    have hj := (List.getElem?_eq_some_iff.1 hu).1
    simp at hl
    rw [← Array.getElem?_toList]
    have e : (cur.toList.take (n * 3))[j]? = cur.toList[j]? := List.getElem?_take_of_lt (by omega)
    rw [← e, ht, List.getElem?_map, hu]
    rfl

/-- The values of boxes in memory. -/
def vals3 (bs : List (Int × Int × Int)) : List Value := (flat3 bs).map (Value.int .i64)
theorem flat3_append (xs ys : List (Int × Int × Int)) : flat3 (xs ++ ys) = flat3 xs ++ flat3 ys := by
  induction xs with
  | nil => rfl
  | cons a xs ih => simp [flat3, ih]
theorem vals3_append (xs ys : List (Int × Int × Int)) : vals3 (xs ++ ys) = vals3 xs ++ vals3 ys := by simp [vals3, flat3_append]
theorem vals3_length (bs : List (Int × Int × Int)) : (vals3 bs).length = bs.length * 3 := by simp [vals3, flat3_length]

/-- A row of boxes reads as them. -/
theorem seg_of_row3 {w : World} {base T n : Nat} {v : Value} {bs : List (Int × Int × Int)} (h : w.ownsRow base T 3 v n (vals3 bs)) :
    ∃ A c, v = .slice A n c ∧ bs.length = n ∧ n ≤ c ∧ Own w base w.heap.size A (flat3 bs) := by
  have hl := h.1
  rw [vals3_length] at hl
  rcases Nat.eq_zero_or_pos n with hn | hn
  · subst hn
    have hb : bs = [] := List.eq_nil_of_length_eq_zero (by omega)
    subst hb
    obtain ⟨_, ⟨hv, _⟩ | ⟨g, cap, cur, hv, _⟩⟩ := h
    · exact ⟨none, 0, hv, rfl, Nat.le_refl _, .inl rfl⟩
    · exact ⟨_, cap, hv, rfl, Nat.zero_le _, .inl rfl⟩
  · obtain ⟨g, cap, N, hv, hg, hc, hrow⟩ := row_of_owns3 h hn
    exact ⟨_, cap, hv, by omega, hc, hrow.own hg hrow.lt⟩

/-- Boxes and a bool are answered; the boxes lie in new memory of their own. -/
def RetNL (b : Bool) (bs : List (Int × Int × Int)) (w : World) (e : Ending) (w' : World) : Prop :=
  ∃ A n c, e = .returned (.tuple #[.slice A n c, .bool b]) ∧ bs.length = n ∧ Own w' w.heap.size w'.heap.size A (flat3 bs) ∧ Below w.heap.size w w'

/-- Boxes, if there are. -/
def listN (p : Bool) (bs : List (Int × Int × Int)) : List (Int × Int × Int) := if p = true then bs else []
theorem listN_no (bs : List (Int × Int × Int)) : (listN false bs).length ≤ 1048576 := by simp [listN]
end Go.Proofs.YtjpejhpilfjheacDoor

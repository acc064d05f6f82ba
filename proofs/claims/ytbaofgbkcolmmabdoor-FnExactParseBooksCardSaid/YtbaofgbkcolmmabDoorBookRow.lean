/-
  A row of numbers in memory that begins a block and is written at will; rows of books.
  Conditions: none.
-/
import Derived.Test.YtbaofgbkcolmmabDoorBooks
import Derived.Test.YtbaofgbkcolmmabDoorRowI
namespace Go.Proofs.YtbaofgbkcolmmabDoor
set_option linter.unusedVariables false
open Go.RowKit

section
variable {w w' : World} {g T N : Nat} {ys : List Int}
theorem Row.book {bs : List (Int × Int)} (h : Row w g T N (flat bs)) {j : Nat} {b : Int × Int} (hb : bs[j]? = some b) : w.cell? ⟨g, j * 2, none⟩ = some (.int .i64 b.1) ∧ w.cell? ⟨g, j * 2 + 1, none⟩ = some (.int .i64 b.2) := by
  obtain ⟨h1, h2⟩ := flat_at hb
  exact ⟨h.cell h1, h.cell h2⟩
end

/-- A row that a call has built begins so. -/
theorem row_of_owns {w : World} {base T n : Nat} {v : Value} {ys : List Int} (h : w.ownsRow base T 2 v n (ys.map (Value.int .i64))) (hn : 0 < n) :
    ∃ g cap N, v = .slice (some ⟨g, 0, none⟩) n cap ∧ base ≤ g ∧ n ≤ cap ∧ Row w g T N ys := by
  obtain ⟨hl, h0 | ⟨g, cap, cur, hv, hg, hb, hnc, _, hs, ht⟩⟩ := h
  · omega
  · refine ⟨g, cap, _, hv, hg, hnc, cur, hb, rfl, fun j u hu => ?_⟩
    have hj := (List.getElem?_eq_some_iff.1 hu).1
    simp at hl
    rw [← Array.getElem?_toList]
    have e : (cur.toList.take (n * 2))[j]? = cur.toList[j]? := List.getElem?_take_of_lt (by omega)
    rw [← e, ht, List.getElem?_map, hu]
    rfl

/-- The values of books in memory. -/
def vals (bs : List (Int × Int)) : List Value := (flat bs).map (Value.int .i64)
theorem vals_append (xs ys : List (Int × Int)) : vals (xs ++ ys) = vals xs ++ vals ys := by simp [vals, flat_append]
theorem vals_length (bs : List (Int × Int)) : (vals bs).length = bs.length * 2 := by simp [vals, flat_length]

/-- A row of books reads as them. -/
theorem seg_of_row {w : World} {base T n : Nat} {v : Value} {bs : List (Int × Int)} (h : w.ownsRow base T 2 v n (vals bs)) :
    ∃ A c, v = .slice A n c ∧ bs.length = n ∧ n ≤ c ∧ Own w base w.heap.size A (flat bs) := by
  have hl := h.1
  rw [vals_length] at hl
  rcases Nat.eq_zero_or_pos n with hn | hn
  · subst hn
    have hb : bs = [] := List.eq_nil_of_length_eq_zero (by omega)
    subst hb
    obtain ⟨_, ⟨hv, _⟩ | ⟨g, cap, cur, hv, _⟩⟩ := h
    · exact ⟨none, 0, hv, rfl, Nat.le_refl _, .inl rfl⟩
    · exact ⟨_, cap, hv, rfl, Nat.zero_le _, .inl rfl⟩
  · obtain ⟨g, cap, N, hv, hg, hc, hrow⟩ := row_of_owns h hn
    exact ⟨_, cap, hv, by omega, hc, hrow.own hg hrow.lt⟩

/-- Books and a bool are answered; the books lie in new memory of their own. -/
def RetKL (b : Bool) (bs : List (Int × Int)) (w : World) (e : Ending) (w' : World) : Prop :=
  ∃ A n c, e = .returned (.tuple #[.slice A n c, .bool b]) ∧ bs.length = n ∧ Own w' w.heap.size w'.heap.size A (flat bs) ∧ Below w.heap.size w w'

/-- Books, if there are. -/
def listK (p : Bool) (bs : List (Int × Int)) : List (Int × Int) := if p = true then bs else []
theorem listK_no (bs : List (Int × Int)) : (listK false bs).length ≤ 1048576 := by simp [listK]
end Go.Proofs.YtbaofgbkcolmmabDoor

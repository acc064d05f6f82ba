/-
  Books put in by height, one after the other, each behind all that are not lower.
  Conditions: none.
-/
import Derived.Test.YtplohhmggfifkaaBookAsk
import Derived.Test.YtplohhmggfifkaaBookRow
namespace Go.Proofs.Ytplohhmggfifkaa
set_option linter.unusedVariables false
open Go.RowKit

/-- Where a book is put, among the first 'k'. -/
def posK (out : List (Int × Int)) (b : Int × Int) : Nat → Nat
  | 0 => 0
  | k + 1 => if (out.getD k (0, 0)).2 < b.2 then posK out b k else k + 1

def atK (out : List (Int × Int)) (b : Int × Int) (j : Nat) : List (Int × Int) := out.take j ++ b :: out.drop j
def insK (out : List (Int × Int)) (b : Int × Int) : List (Int × Int) := atK out b (posK out b out.length)
def sortK (bs : List (Int × Int)) : List (Int × Int) := bs.foldl insK []

theorem posK_le (out : List (Int × Int)) (b : Int × Int) (k : Nat) : posK out b k ≤ k := by
  induction k with
  | zero => exact Nat.le_refl _
  | succ k ih =>
    unfold posK
    split
    · omega
    · exact Nat.le_refl _

theorem posK_go {out : List (Int × Int)} {b c : Int × Int} {k : Nat} (h : out[k]? = some c) (hc : c.2 < b.2) : posK out b (k + 1) = posK out b k := by
  have e : out.getD k (0, 0) = c := by simp [List.getD, h]
  rw [posK, e, if_pos hc]

theorem posK_stop {out : List (Int × Int)} {b c : Int × Int} {k : Nat} (h : out[k]? = some c) (hc : ¬ c.2 < b.2) : posK out b (k + 1) = k + 1 := by
  have e : out.getD k (0, 0) = c := by simp [List.getD, h]
  rw [posK, e, if_neg hc]

theorem atK_length {out : List (Int × Int)} {b : Int × Int} {j : Nat} (hj : j ≤ out.length) : (atK out b j).length = out.length + 1 := by
  unfold atK
  rw [List.length_append, List.length_take, List.length_cons, List.length_drop]
  omega

theorem insK_length (out : List (Int × Int)) (b : Int × Int) : (insK out b).length = out.length + 1 := atK_length (posK_le _ _ _)

theorem sortK_next {bs : List (Int × Int)} {k : Nat} {b : Int × Int} (h : bs[k]? = some b) : sortK (bs.take (k + 1)) = insK (sortK (bs.take k)) b := by
  have e : bs.take (k + 1) = bs.take k ++ [b] := by
    obtain ⟨hk, rfl⟩ := List.getElem?_eq_some_iff.1 h
    exact List.take_succ_eq_append_getElem hk
  rw [e, sortK, List.foldl_append]
  rfl

theorem sortK_length (bs : List (Int × Int)) : (sortK bs).length = bs.length := by
  have : ∀ (bs acc : List (Int × Int)), (bs.foldl insK acc).length = acc.length + bs.length := by
    intro bs
    induction bs with
    | nil => simp
    | cons b bs ih =>
      intro acc
      rw [List.foldl_cons, ih, insK_length]
      simp only [List.length_cons]
      omega
  rw [sortK, this]
  simp

theorem insK_mem {P : Int × Int → Prop} {out : List (Int × Int)} {b : Int × Int} (h : ∀ x ∈ out, P x) (hb : P b) : ∀ x ∈ insK out b, P x := by
  intro x hx
  unfold insK atK at hx
  rcases List.mem_append.1 hx with hx | hx
  · exact h x (List.mem_of_mem_take hx)
  · rcases List.mem_cons.1 hx with rfl | hx
    · exact hb
    · exact h x (List.mem_of_mem_drop hx)

theorem sortK_mem {P : Int × Int → Prop} {bs : List (Int × Int)} (h : ∀ x ∈ bs, P x) : ∀ x ∈ sortK bs, P x := by
  have : ∀ (bs acc : List (Int × Int)), (∀ x ∈ bs, P x) → (∀ x ∈ acc, P x) → ∀ x ∈ bs.foldl insK acc, P x := by
    intro bs
    induction bs with
    | nil => intro acc _ ha; exact ha
    | cons b bs ih =>
      intro acc hb ha
      exact ih _ (fun x hx => hb x (List.mem_cons_of_mem _ hx)) (insK_mem ha (hb b List.mem_cons_self))
  exact this bs [] h (by simp)

/-- One step down. -/
theorem atK_up {out : List (Int × Int)} {b x : Int × Int} {j : Nat} (hx : out[j]? = some x) (rest : List (Int × Int)) :
    atK out b (j + 1) ++ rest = out.take j ++ x :: b :: (out.drop (j + 1) ++ rest) := by
  obtain ⟨hj, rfl⟩ := List.getElem?_eq_some_iff.1 hx
  unfold atK
  rw [List.take_succ_eq_append_getElem hj, List.append_assoc, List.append_assoc]
  rfl
theorem atK_down {out : List (Int × Int)} {b x : Int × Int} {j : Nat} (hx : out[j]? = some x) (rest : List (Int × Int)) :
    atK out b j ++ rest = out.take j ++ b :: x :: (out.drop (j + 1) ++ rest) := by
  obtain ⟨hj, rfl⟩ := List.getElem?_eq_some_iff.1 hx
  unfold atK
  rw [List.drop_eq_getElem_cons hj, List.append_assoc]
  rfl
theorem atK_swap {out : List (Int × Int)} {b x : Int × Int} {j : Nat} (hx : out[j]? = some x) (rest : List (Int × Int)) :
    ((atK out b (j + 1) ++ rest).set (j + 1) x).set j b = atK out b j ++ rest := by
  have hj := (List.getElem?_eq_some_iff.1 hx).1
  have hl : (out.take j).length = j := by rw [List.length_take]; omega
  rw [atK_up hx, atK_down hx, List.set_append_right _ _ (by omega), List.set_append_right _ _ (by omega), hl, Nat.sub_self, show j + 1 - j = 1 by omega]
  rfl
theorem atK_here {out : List (Int × Int)} {b : Int × Int} {j : Nat} (hj : j ≤ out.length) (rest : List (Int × Int)) : (atK out b j ++ rest)[j]? = some b := by
  have hl : (out.take j).length = j := by rw [List.length_take]; omega
  unfold atK
  rw [List.append_assoc, List.getElem?_append_right (by omega), hl, Nat.sub_self]
  rfl
theorem atK_prev {out : List (Int × Int)} {b x : Int × Int} {j : Nat} (hx : out[j]? = some x) (rest : List (Int × Int)) : (atK out b (j + 1) ++ rest)[j]? = some x := by
  have hj := (List.getElem?_eq_some_iff.1 hx).1
  have hl : (out.take j).length = j := by rw [List.length_take]; omega
  rw [atK_up hx, List.getElem?_append_right (by omega), hl, Nat.sub_self]
  rfl
theorem atK_end (out : List (Int × Int)) (b : Int × Int) (rest : List (Int × Int)) : atK out b out.length ++ rest = out ++ b :: rest := by
  unfold atK
  simp

theorem flat_set (xs : List (Int × Int)) (k : Nat) (b : Int × Int) : flat (xs.set k b) = ((flat xs).set (k * 2) b.1).set (k * 2 + 1) b.2 := by
  induction xs generalizing k with
  | nil => simp [flat]
  | cons x xs ih =>
    cases k with
    | zero => rfl
    | succ k =>
      rw [show (k + 1) * 2 = k * 2 + 1 + 1 by omega]
      simp only [List.set_cons_succ, flat]
      rw [ih]

end Go.Proofs.Ytplohhmggfifkaa

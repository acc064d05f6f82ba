/-
  Numbers put in one after the other, each behind all that it need not go before.
  Conditions: none.
-/
import Derived.Test.YtgcljhgpihpfgabNum
import Derived.Test.YtgcljhgpihpfgabMem
namespace Go.Proofs.Ytgcljhgpihpfgab
set_option linter.unusedVariables false
open Go.RowKit

/-- Where a number is put, among the first 'k'. -/
def posG (up : Int → Int → Bool) (out : List (Int)) (b : Int) : Nat → Nat
  | 0 => 0
  | k + 1 => if up b (out.getD k 0) = true then posG up out b k else k + 1

def atG (out : List (Int)) (b : Int) (j : Nat) : List (Int) := out.take j ++ b :: out.drop j
def insG (up : Int → Int → Bool) (out : List (Int)) (b : Int) : List (Int) := atG out b (posG up out b out.length)
def sortG (up : Int → Int → Bool) (bs : List (Int)) : List (Int) := bs.foldl (insG up) []

theorem posG_le (up : Int → Int → Bool) (out : List (Int)) (b : Int) (k : Nat) : posG up out b k ≤ k := by
  induction k with
  | zero => exact Nat.le_refl _
  | succ k ih =>
    unfold posG
    split
    · omega
    · exact Nat.le_refl _

theorem posG_go {up : Int → Int → Bool} {out : List (Int)} {b c : Int} {k : Nat} (h : out[k]? = some c) (hc : up b c = true) : posG up out b (k + 1) = posG up out b k := by
  have e : out.getD k 0 = c := by simp [List.getD, h]
  rw [posG, e, if_pos hc]

theorem posG_stop {up : Int → Int → Bool} {out : List (Int)} {b c : Int} {k : Nat} (h : out[k]? = some c) (hc : up b c = false) : posG up out b (k + 1) = k + 1 := by
  have e : out.getD k 0 = c := by simp [List.getD, h]
  rw [posG, e, hc]; rfl

theorem atG_length {out : List (Int)} {b : Int} {j : Nat} (hj : j ≤ out.length) : (atG out b j).length = out.length + 1 := by
  unfold atG
  rw [List.length_append, List.length_take, List.length_cons, List.length_drop]
  omega

theorem insG_length (up : Int → Int → Bool) (out : List (Int)) (b : Int) : (insG up out b).length = out.length + 1 := atG_length (posG_le _ _ _ _)

theorem sortG_next (up : Int → Int → Bool) {bs : List (Int)} {k : Nat} {b : Int} (h : bs[k]? = some b) : sortG up (bs.take (k + 1)) = insG up (sortG up (bs.take k)) b := by
  have e : bs.take (k + 1) = bs.take k ++ [b] := by
    obtain ⟨hk, rfl⟩ := List.getElem?_eq_some_iff.1 h
    exact List.take_succ_eq_append_getElem hk
  rw [e, sortG, List.foldl_append]
  rfl

theorem sortG_length (up : Int → Int → Bool) (bs : List (Int)) : (sortG up bs).length = bs.length := by
  have : ∀ (bs acc : List (Int)), (bs.foldl (insG up) acc).length = acc.length + bs.length := by
    intro bs
    induction bs with
    | nil => simp
    | cons b bs ih =>
      intro acc
      rw [List.foldl_cons, ih, insG_length]
      simp only [List.length_cons]
      omega
  rw [sortG, this]
  simp

theorem insG_mem {up : Int → Int → Bool} {P : Int → Prop} {out : List (Int)} {b : Int} (h : ∀ x ∈ out, P x) (hb : P b) : ∀ x ∈ insG up out b, P x := by
  intro x hx
  unfold insG atG at hx
  rcases List.mem_append.1 hx with hx | hx
  · exact h x (List.mem_of_mem_take hx)
  · rcases List.mem_cons.1 hx with rfl | hx
    · exact hb
    · exact h x (List.mem_of_mem_drop hx)

theorem sortG_mem {up : Int → Int → Bool} {P : Int → Prop} {bs : List (Int)} (h : ∀ x ∈ bs, P x) : ∀ x ∈ sortG up bs, P x := by
  have : ∀ (bs acc : List (Int)), (∀ x ∈ bs, P x) → (∀ x ∈ acc, P x) → ∀ x ∈ bs.foldl (insG up) acc, P x := by
    intro bs
    induction bs with
    | nil => intro acc _ ha; exact ha
    | cons b bs ih =>
      intro acc hb ha
      exact ih _ (fun x hx => hb x (List.mem_cons_of_mem _ hx)) (insG_mem ha (hb b List.mem_cons_self))
  exact this bs [] h (by simp)

/-- One step down. -/
theorem atG_up {out : List (Int)} {b x : Int} {j : Nat} (hx : out[j]? = some x) (rest : List (Int)) :
    atG out b (j + 1) ++ rest = out.take j ++ x :: b :: (out.drop (j + 1) ++ rest) := by
  obtain ⟨hj, rfl⟩ := List.getElem?_eq_some_iff.1 hx
  unfold atG
  rw [List.take_succ_eq_append_getElem hj, List.append_assoc, List.append_assoc]
  rfl
theorem atG_down {out : List (Int)} {b x : Int} {j : Nat} (hx : out[j]? = some x) (rest : List (Int)) :
    atG out b j ++ rest = out.take j ++ b :: x :: (out.drop (j + 1) ++ rest) := by
  obtain ⟨hj, rfl⟩ := List.getElem?_eq_some_iff.1 hx
  unfold atG
  rw [List.drop_eq_getElem_cons hj, List.append_assoc]
  rfl
theorem atG_swap {out : List (Int)} {b x : Int} {j : Nat} (hx : out[j]? = some x) (rest : List (Int)) :
    ((atG out b (j + 1) ++ rest).set (j + 1) x).set j b = atG out b j ++ rest := by
  have hj := (List.getElem?_eq_some_iff.1 hx).1
  have hl : (out.take j).length = j := by rw [List.length_take]; omega
  rw [atG_up hx, atG_down hx, List.set_append_right _ _ (by omega), List.set_append_right _ _ (by omega), hl, Nat.sub_self, show j + 1 - j = 1 by omega]
  rfl
theorem atG_here {out : List (Int)} {b : Int} {j : Nat} (hj : j ≤ out.length) (rest : List (Int)) : (atG out b j ++ rest)[j]? = some b := by
  have hl : (out.take j).length = j := by rw [List.length_take]; omega
  unfold atG
  rw [List.append_assoc, List.getElem?_append_right (by omega), hl, Nat.sub_self]
  rfl
theorem atG_prev {out : List (Int)} {b x : Int} {j : Nat} (hx : out[j]? = some x) (rest : List (Int)) : (atG out b (j + 1) ++ rest)[j]? = some x := by
  have hj := (List.getElem?_eq_some_iff.1 hx).1
  have hl : (out.take j).length = j := by rw [List.length_take]; omega
  rw [atG_up hx, List.getElem?_append_right (by omega), hl, Nat.sub_self]
  rfl
theorem atG_end (out : List (Int)) (b : Int) (rest : List (Int)) : atG out b out.length ++ rest = out ++ b :: rest := by
  unfold atG
  simp


/-- The order by size. -/
def upLt (b c : Int) : Bool := decide (b < c)
end Go.Proofs.Ytgcljhgpihpfgab

/-
  The library's sort and reversal of a list that a call has made.
  Conditions: lists of at most 1048576 numbers.
-/
import Derived.Test.YtjpejhpilfjheaaShelfSort
import Derived.Test.YtjpejhpilfjheaaShelfRev
import Derived.Test.YtjpejhpilfjheaaArr
import Derived.Test.YtjpejhpilfjheaaMem
import Derived.Test.YtjpejhpilfjheaaSortN
import Derived.Test.YtjpejhpilfjheaaBdD
import Derived.Lib.OwnBridge
namespace Go.Proofs.Ytjpejhpilfjheaa
set_option linter.unusedVariables false
open Go.RowKit Go.Sort

theorem grown_grow (w : World) (os : Array Obj) : w.grownBy (grow w os) none :=
  ⟨rfl, rfl, rfl, by simp [grow], fun i hi _ => by show (w.heap ++ os)[i]? = _; exact Array.getElem?_append_left hi⟩

def leI (x y : Int) : Bool := decide (x ≤ y)
theorem sort_falls (xs : List Int) : (xs.mergeSort fun x y => decide (x ≤ y)).reverse = fallD xs := by
  refine fallD_sort xs _ ?_ (List.mergeSort_perm xs _)
  have h := List.pairwise_mergeSort (le := fun x y : Int => decide (x ≤ y)) (fun a b c h1 h2 => by simp at *; omega) (fun a b => by simp; omega) xs
  exact h.imp fun h => by simpa using h

theorem sortOwn_any (A : Option Addr) (n c base : Nat) (xs : List Int) (w : World) (hlen : n ≤ 1048576) (hown : w.ownsRow base 3 1 (.slice A n c) n (xs.map (Value.int .i64))) :
    Calls Try.prog 51 #[.slice A n c] w fun e w' => e = .returned (.tuple #[]) ∧ w'.ownsRow base 3 1 (.slice A n c) n ((xs.mergeSort fun x y => decide (x ≤ y)).map (Value.int .i64)) ∧ Below base w w' := by
  by_cases hv : Value.slice A n c = .slice none 0 0
  · injection hv with h1 h2 h3
    subst h1 h2 h3
    have hx : xs = [] := by have h := hown.1; simpa using h
    subst hx
    refine (sort0_any none 0 w).mono ?_
    rintro e w' ⟨rfl, rfl⟩
    exact ⟨rfl, by simpa using hown, Below.refl _ _⟩
  · obtain ⟨g, cap, e0, hg, hlt, hnc, hmx, hl, hH⟩ := Lib.holds_of_ownsRow (enc := Value.int .i64) hown hv
    obtain ⟨rfl, rfl⟩ : A = some ⟨g, 0, none⟩ ∧ c = cap := by injection e0 with a _ b; exact ⟨a, b⟩
    have h := Any.slices_Sort_int laysSort g 0 c xs w hH hlt (by omega)
    rw [hl] at h
    refine Calls.mono (show Calls Try.prog 51 #[.slice (some ⟨g, 0, none⟩) n c] w _ from h) ?_
    rintro e w' ⟨rfl, q, os, rfl⟩
    have hr := Lib.ownsRow_putRow (q := q) (k := n) (ys := xs.mergeSort fun x y => decide (x ≤ y)) hown (by rw [List.length_mergeSort]; exact hl) (Nat.le_refl _)
    rw [List.take_of_length_le (by rw [List.length_mergeSort]; omega)] at hr
    have hb : Below base w (putRow (Value.int .i64) (Sort.ahead w q) g 0 (xs.mergeSort fun x y => decide (x ≤ y)).toArray) := Lib.below_putRow (Below.refl _ _) hg
    exact ⟨rfl, hr.kept (grown_grow _ os) (by by_cases h : (Value.slice (some ⟨g, 0, none⟩) n c).ownBlock = none <;> simp [h]), hb.grown (grown_grow _ os) (by simp [putRow, mapBlock, Sort.ahead]; omega) (fun g h => by cases h)⟩

theorem revOwn_any (A : Option Addr) (n c base : Nat) (xs : List Int) (w : World) (hlen : n ≤ 1048576) (hown : w.ownsRow base 3 1 (.slice A n c) n (xs.map (Value.int .i64))) :
    Calls Try.prog 52 #[.slice A n c] w fun e w' => e = .returned (.tuple #[]) ∧ w'.ownsRow base 3 1 (.slice A n c) n (xs.reverse.map (Value.int .i64)) ∧ Below base w w' := by
  by_cases hv : Value.slice A n c = .slice none 0 0
  · injection hv with h1 h2 h3
    subst h1 h2 h3
    have hx : xs = [] := by have h := hown.1; simpa using h
    subst hx
    refine Calls.mono (show Calls Try.prog 52 #[.slice none 0 0] w _ from Any.slices_Reverse_int_empty laysRev none 0 w) ?_
    rintro e w' ⟨rfl, rfl⟩
    exact ⟨rfl, hown, Below.refl _ _⟩
  · obtain ⟨g, cap, e0, hg, hlt, hnc, hmx, hl, hH⟩ := Lib.holds_of_ownsRow (enc := Value.int .i64) hown hv
    obtain ⟨rfl, rfl⟩ : A = some ⟨g, 0, none⟩ ∧ c = cap := by injection e0 with a _ b; exact ⟨a, b⟩
    have h := Any.slices_Reverse_int laysRev g 0 c xs w hH (by omega)
    rw [hl] at h
    refine Calls.mono (show Calls Try.prog 52 #[.slice (some ⟨g, 0, none⟩) n c] w _ from h) ?_
    rintro e w' ⟨rfl, q, rfl⟩
    have hr := Lib.ownsRow_putRow (q := q) (k := n) (ys := xs.reverse) hown (by rw [List.length_reverse]; exact hl) (Nat.le_refl _)
    rw [List.take_of_length_le (by rw [List.length_reverse]; omega)] at hr
    exact ⟨rfl, hr, Lib.below_putRow (Below.refl _ _) hg⟩
end Go.Proofs.Ytjpejhpilfjheaa

/-
  Both programs' test for a number between two others; the greatest number of a list.
  Conditions: none.
-/
import Derived.Test.YtoheoojpmndhoabInfo
namespace Go.Proofs.Ytoheoojpmndhoab
set_option linter.unusedVariables false
open Go.RowKit

def inB (n lo hi : Int) : Bool := decide (lo ≤ n ∧ n ≤ hi)
theorem inB_true {n lo hi : Int} : inB n lo hi = true ↔ lo ≤ n ∧ n ≤ hi := by simp [inB]
theorem inB_false {n lo hi : Int} : inB n lo hi = false ↔ ¬ (lo ≤ n ∧ n ≤ hi) := by simp [inB]

theorem l1In_any (n lo hi : Int) (b : Bool) (hb : inB n lo hi = b) (w : World) :
    Calls Try.prog 48 #[.int .i64 n, .int .i64 lo, .int .i64 hi] w fun e w' => e = .returned (.bool b) ∧ w = w' := by
  cases b
  · rw [inB_false] at hb
    by_cases h1 : lo ≤ n
    · have h2 : ¬ n ≤ hi := by omega
      have h3 : decide (n ≤ hi) = false := by simpa using h2
      clear hb
      go_enter Try.func48, Try.ntmps48
      go_wp2
      go_ret
      exact ⟨rfl, rfl⟩
    · have h3 : decide (lo ≤ n) = false := by simpa using h1
      clear hb
      go_enter Try.func48, Try.ntmps48
      go_wp2
      go_ret
      exact ⟨rfl, rfl⟩
  · rw [inB_true] at hb
    obtain ⟨h1, h2⟩ := hb
    go_enter Try.func48, Try.ntmps48
    go_wp2
    go_ret
    exact ⟨rfl, rfl⟩

/-- The greatest number of a list, 0 for none. -/
def mostOf (xs : List Int) : Int := xs.foldl max 0

theorem foldl_max_ge (xs : List Int) (a : Int) : a ≤ xs.foldl max a := by
  induction xs generalizing a with
  | nil => simp
  | cons x xs ih => exact Int.le_trans (Int.le_max_left a x) (ih _)

theorem foldl_max_le {xs : List Int} {a b : Int} (h : ∀ x ∈ xs, x ≤ b) (ha : a ≤ b) : xs.foldl max a ≤ b := by
  induction xs generalizing a with
  | nil => simpa using ha
  | cons x xs ih =>
    simp only [List.foldl_cons]
    exact ih (fun y hy => h y (List.mem_cons_of_mem _ hy)) (Int.max_le.2 ⟨ha, h x (List.mem_cons_self)⟩)

theorem le_foldl_max {xs : List Int} {a x : Int} (h : x ∈ xs) : x ≤ xs.foldl max a := by
  induction xs generalizing a with
  | nil => cases h
  | cons y ys ih =>
    simp only [List.foldl_cons]
    rcases List.mem_cons.1 h with rfl | h
    · exact Int.le_trans (Int.le_max_right a x) (foldl_max_ge _ _)
    · exact ih h

theorem mostOf_snoc (xs : List Int) (x : Int) : mostOf (xs ++ [x]) = max (mostOf xs) x := by simp [mostOf]

theorem take_snoc {xs : List Int} {k : Nat} {u : Int} (h : xs[k]? = some u) : xs.take (k + 1) = xs.take k ++ [u] := by
  obtain ⟨hk, rfl⟩ := List.getElem?_eq_some_iff.1 h
  exact List.take_succ_eq_append_getElem hk

theorem mostOf_ge (xs : List Int) : 0 ≤ mostOf xs := foldl_max_ge xs 0

end Go.Proofs.Ytoheoojpmndhoab

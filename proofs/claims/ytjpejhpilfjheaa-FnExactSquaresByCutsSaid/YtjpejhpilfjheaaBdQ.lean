/-
  Both programs' fewest squares, and the cuts to them.
  Conditions: none.
-/
import Derived.Test.YtjpejhpilfjheaaBdS1
import Derived.Test.YtjpejhpilfjheaaBdX1
import Derived.Test.YtjpejhpilfjheaaBdT1
namespace Go.Proofs.Ytjpejhpilfjheaa
set_option linter.unusedVariables false
open Go.RowKit

theorem bdGood_any (x y : Int) (w : World) (q : Bool) (hq : bdB x y = q) : Calls Try.prog 42 #[.int .i64 x, .int .i64 y] w fun e w' => e = .returned (.bool q) ∧ w = w' := by
  cases h1 : inB x 1 24
  · obtain rfl : q = false := by rw [← hq]; simp [bdB, h1]
    clear hq
    go_enter Try.func42, Try.ntmps42
    go_wp2_with fail
    refine (l1In_any _ _ _ false h1 _).mono ?_
    rintro e w' ⟨rfl, rfl⟩
    go_wp2
    go_ret
    exact ⟨rfl, rfl⟩
  · have h2 : inB y 1 24 = q := by rw [← hq]; simp [bdB, h1]
    clear hq
    go_enter Try.func42, Try.ntmps42
    go_wp2_with fail
    refine (l1In_any _ _ _ true h1 _).mono ?_
    rintro e w' ⟨rfl, rfl⟩
    go_wp2_with fail
    refine (l1In_any _ _ _ q h2 _).mono ?_
    rintro e w' ⟨rfl, rfl⟩
    go_wp2
    go_ret
    exact ⟨rfl, rfl⟩

/-- The number that is told of a board, if it is one. -/
def bdN (t : Nat → Nat → Int) (x y : Int) : Int := if bdB x y = true then t x.toNat y.toNat else 0
theorem bdN_no {t : Nat → Nat → Int} {x y : Int} (h : bdB x y = false) : bdN t x y = 0 := by rw [bdN, h]; rfl
theorem bdN_yes {t : Nat → Nat → Int} {a b : Nat} (h : bdB (a : Int) (b : Int) = true) : bdN t (a : Int) (b : Int) = t a b := by rw [bdN, if_pos h]; rfl

theorem few_all (A H : Nat) (w : World) (hA1 : 1 ≤ A) (hA : A ≤ 24) (hH1 : 1 ≤ H) (hH : H ≤ 24) :
    Calls Try.prog 47 #[.agg #[.int .i64 (A : Int), .int .i64 (H : Int)]] w fun e w' => ∃ X, e = .returned (.func (.func 75) #[] #[.pointer (some ⟨X, 0, none⟩)]) ∧
      Worth w' w'.heap.size X fewB (fun a b => 1 ≤ a ∧ 1 ≤ b ∧ a ≤ A ∧ b ≤ H) ∧ Below w.heap.size w w' := by
  have hb0 := (Below.refl w.heap.size w).alloc (Nat.le_refl _) (.cells #[.int .i64 (A : Int), .int .i64 (H : Int)] 55)
  have HB0 := Lib.hid hb0
  clear hb0
  go_enter Try.func47, Try.ntmps47
  go_wp2_with fail
  refine (valueF A H fewB _ hA1 hA hH1 hH (fun w' B1 X a b hb a1 aA b1 bH hW hB => ?_)).mono ?_
  · exact few1_any a b B1 X fewB w' a1 (by omega) b1 (by omega) hW hB (fun a' b' ha' hb' h => by have := fewB_one _ a' b' (Nat.le_refl _) ha' hb'; have h2 : a' * b' ≤ 48 * 48 := Nat.mul_le_mul (by omega) (by omega); omega) _ (fewB_eq a1 b1).symm
  · rintro e w1 ⟨X, rfl, hW, hb1⟩
    go_wp2
    go_ret
    exact ⟨X, rfl, hW, HB0.out.trans (hb1.mono (by simp))⟩

end Go.Proofs.Ytjpejhpilfjheaa

/-
  GreatestFirst: both programs' answers, as its law asks for them.
  Conditions: the list has at most 1048576 numbers.
-/
import Derived.Test.YtkconbcmbpmghabGfImpl
import Derived.Test.YtkconbcmbpmghabGfSpec
import Derived.Test.YtkconbcmbpmghabEq
namespace Go.Proofs.Ytkconbcmbpmghab
set_option linter.unusedVariables false
open Go.RowKit

theorem gfL_len (xs : List Int) (room : Int) : (gfL xs room).length ≤ 1048576 := by
  cases h : askedB xs room
  · rw [gfL_no h]; simp
  · have := (askedB_at h).2.1
    rw [gfL_yes h, gfM_length]
    omega
theorem spec_GreatestFirst (A : Option Addr) (n c : Nat) (xs : List Int) (room : Int) (lo hi : Nat) (w : World) (hn : xs.length = n) (hlen : n ≤ 1048576) (hs : Seg w lo hi A xs) (hB : hi ≤ w.heap.size) (b : Bool) (ha : askedB xs room = b) :
    Calls Try.prog 30 #[.slice A n c, .int .i64 room] w (RetL b (gfL xs room) w) := by
  cases b
  · exact (spec_GreatestFirst_no A n c xs room lo hi w hn hlen hs ha).mono fun _ _ ⟨he, hw⟩ => ⟨none, 0, 0, he, by rw [gfL_no ha]; rfl, by rw [gfL_no ha]; exact Own.nil_, by rw [← hw]; exact Below.refl _ _⟩
  · exact (spec_GreatestFirst_yes A n c xs room lo hi w hn hs hB ha).mono fun _ _ ⟨A', c', he, ho, hb⟩ => ⟨A', n, c', he, by rw [gfL_yes ha, gfM_length, hn], by rw [gfL_yes ha]; exact ho, hb⟩
end Go.Proofs.Ytkconbcmbpmghab

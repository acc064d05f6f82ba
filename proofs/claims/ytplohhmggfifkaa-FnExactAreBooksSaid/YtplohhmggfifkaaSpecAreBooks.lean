/-
  The specification's test for books.
  Conditions: the list has at most 1048576 books.
-/
import Derived.Test.YtplohhmggfifkaaBookAsk
namespace Go.Proofs.Ytplohhmggfifkaa
set_option linter.unusedVariables false
open Go.RowKit

theorem spec_AreBooks (A : Option Addr) (n c : Nat) (bs : List (Int × Int)) (lo hi : Nat) (w : World) (hn : bs.length = n) (hlen : n ≤ 1048576) (hs : Seg w lo hi A (flat bs)) (hB : hi ≤ w.heap.size) (b : Bool) (hb : goodK bs = b) :
    Calls Try.prog 16 #[.slice A n c] w fun e w' => e = .returned (.bool b) ∧ Below w.heap.size w w' := by
  have HN := Lib.hid hn
  have HB := Lib.hid hb
  clear hn hb
  go_enter Try.func16, Try.ntmps16
  go_wp2_with fail
  refine (shGood_any _ _ _ bs lo hi _ HN.out hlen hs hB _ HB.out).mono ?_
  rintro e w1 ⟨rfl, hb1⟩
  go_wp2
  go_ret
  exact ⟨rfl, hb1⟩
end Go.Proofs.Ytplohhmggfifkaa

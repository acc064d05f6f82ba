/-
  Both programs' text of lengths, or that there is none.
  Conditions: at most 1048576 numbers; the library's table of powers of ten reads as it is written.
-/
import Derived.Test.YthlhpddfifpkeacDoorTxAskI
import Derived.Test.YthlhpddfifpkeacDoorTxLText
import Derived.Test.YthlhpddfifpkeacDoorLensI
namespace Go.Proofs.YthlhpddfifpkeacDoor
set_option linter.unusedVariables false
open Go.RowKit

theorem lens_nums {xs : List Int} (h : lensB xs = true) : ∀ x ∈ xs, 0 ≤ x ∧ x ≤ 1000000 := by
  intro x hx
  obtain ⟨k, hk⟩ := List.getElem?_of_mem hx
  have := (lensB_at h).2.2 k x hk
  omega

section
variable (A : Option Addr) (n c : Nat) (xs : List Int) (lo hi : Nat) (w : World) (hn : xs.length = n) (hlen : n ≤ 1048576) (hs : Seg w lo hi A xs) (hB : hi ≤ w.heap.size) (b : Bool) (hb : lensB xs = b)
include hn hlen hs hB hb

theorem specLengthsText_any : Calls Tryd.prog 6 #[.slice A n c] w (RetT b (someT b (textS 44 xs)) w) := by
  have HN := Lib.hid hn
  have HQ := Lib.hid hb
  clear hn hb
  cases b
  · go_enter Tryd.func6, Tryd.ntmps6
    go_wp2_with (go_at_call 16; refine (rdLengths_any _ _ _ xs lo hi _ HN.out hlen hs _ HQ.out).mono ?_; rintro e w' ⟨rfl, rfl⟩)
    go_ret2
    exact ⟨rfl, Below.refl _ _⟩
  · go_enter Tryd.func6, Tryd.ntmps6
    go_wp2_with fail
    refine (rdLengths_any _ _ _ xs lo hi _ HN.out hlen hs _ HQ.out).mono ?_
    rintro e w' ⟨rfl, rfl⟩
    go_wp2_with fail
    refine (rdText_any _ _ _ xs lo hi _ HN.out hlen (lens_nums HQ.out) hs hB).mono ?_
    rintro e w1 ⟨rfl, hb1⟩
    go_wp2
    go_ret2
    exact ⟨rfl, hb1⟩

theorem implLengthsText_any (hT : Tab w) : Calls Tryd.prog 8 #[.slice A n c] w (RetT b (someT b (textS 44 xs)) w) := by
  have HN := Lib.hid hn
  have HQ := Lib.hid hb
  have HT := Lib.hid hT
  clear hn hb hT
  cases b
  · go_enter Tryd.func8, Tryd.ntmps8
    go_wp2_with (go_at_call 18; refine (implAreLengths_any _ _ _ xs lo hi _ HN.out hlen hs _ HQ.out).mono ?_; rintro e w' ⟨rfl, rfl⟩)
    go_ret2
    exact ⟨rfl, Below.refl _ _⟩
  · go_enter Tryd.func8, Tryd.ntmps8
    go_wp2_with fail
    refine (implAreLengths_any _ _ _ xs lo hi _ HN.out hlen hs _ HQ.out).mono ?_
    rintro e w' ⟨rfl, rfl⟩
    go_wp2_with fail
    refine (joinNumbers_any 44 _ _ _ xs lo hi _ HN.out hlen (lens_nums HQ.out) hs hB HT.out).mono ?_
    rintro e w1 ⟨rfl, hb1⟩
    go_wp2
    go_ret2
    exact ⟨rfl, hb1⟩
end
end Go.Proofs.YthlhpddfifpkeacDoor

/-
  The written program's text of things, or that there is none.
  Conditions: at most 1048576 numbers; the library's table of powers of ten reads as it is written.
-/
import Derived.Test.YthlhpddfifpkeacDoorTxJoin
import Derived.Test.YthlhpddfifpkeacDoorGood
namespace Go.Proofs.YthlhpddfifpkeacDoor
set_option linter.unusedVariables false
open Go.RowKit

/-- A text and a bool are answered. -/
def RetT (b : Bool) (t : ByteArray) (w : World) (e : Ending) (w' : World) : Prop := e = .returned (.tuple #[.string t, .bool b]) ∧ Below w.heap.size w w'

/-- A text, if there is one. -/
def someT (b : Bool) (t : ByteArray) : ByteArray := if b = true then t else ⟨#[]⟩

theorem good_nums {xs : List Int} (h : goodB xs = true) : ∀ x ∈ xs, 0 ≤ x ∧ x ≤ 1000000 := by
  intro x hx
  have h2 := (goodB_true.1 h).2
  unfold allB at h2
  have := inB_true.1 (List.all_eq_true.1 h2 x hx)
  omega

section
variable (A : Option Addr) (n c : Nat) (xs : List Int) (lo hi : Nat) (w : World) (hn : xs.length = n) (hlen : n ≤ 1048576) (hs : Seg w lo hi A xs) (hB : hi ≤ w.heap.size) (b : Bool) (hb : goodB xs = b)
include hn hlen hs hB hb

theorem implThingsText_any (hT : Tab w) : Calls Tryd.prog 24 #[.slice A n c] w (RetT b (someT b (textS 45 xs)) w) := by
  have HN := Lib.hid hn
  have HQ := Lib.hid hb
  have HT := Lib.hid hT
  clear hn hb hT
  cases b
  · go_enter Tryd.func24, Tryd.ntmps24
    go_wp2_with (go_at_call 32; refine (implAreThings_any _ _ _ xs lo hi _ HN.out hlen hs _ HQ.out).mono ?_; rintro e w' ⟨rfl, rfl⟩)
    go_ret2
    exact ⟨rfl, Below.refl _ _⟩
  · go_enter Tryd.func24, Tryd.ntmps24
    go_wp2_with fail
    refine (implAreThings_any _ _ _ xs lo hi _ HN.out hlen hs _ HQ.out).mono ?_
    rintro e w' ⟨rfl, rfl⟩
    go_wp2_with fail
    refine (joinNumbers_any 45 _ _ _ xs lo hi _ HN.out hlen (good_nums HQ.out) hs hB HT.out).mono ?_
    rintro e w1 ⟨rfl, hb1⟩
    go_wp2
    go_ret2
    exact ⟨rfl, hb1⟩
end
end Go.Proofs.YthlhpddfifpkeacDoor

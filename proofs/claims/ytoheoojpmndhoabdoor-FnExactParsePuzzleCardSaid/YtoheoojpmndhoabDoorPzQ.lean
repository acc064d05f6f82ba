/-
  Both programs' tests for a puzzle, told by what they answer.
  Conditions: none.
-/
import Derived.Test.YtoheoojpmndhoabDoorPzG
import Derived.Test.YtoheoojpmndhoabDoorPuz
namespace Go.Proofs.YtoheoojpmndhoabDoor
set_option linter.unusedVariables false
set_option linter.unusedSimpArgs false
open Go.RowKit

theorem impl_IsPuzzleQ (t : Int) (A : Option Addr) (n c : Nat) (cs : List Clu) (lo hi : Nat) (w : World) (hn : cs.length = n) (hlen : n ≤ 1048576) (hs : Seg w lo hi A (flat4 cs)) (hB : hi ≤ w.heap.size) (q : Bool) (hq : puzB t cs = q) :
    Calls Tryd.prog 18 #[pzV t A n c] w fun e w' => e = .returned (.bool q) ∧ Below w.heap.size w w' :=
  (impl_IsPuzzle t A n c cs lo hi w hn hlen hs hB).mono fun _ _ ⟨he, hb⟩ => ⟨by rw [he, hq], hb⟩
theorem pzGood_Q (t : Int) (A : Option Addr) (n c : Nat) (cs : List Clu) (lo hi : Nat) (w : World) (hn : cs.length = n) (hlen : n ≤ 1048576) (hs : Seg w lo hi A (flat4 cs)) (hB : hi ≤ w.heap.size) (q : Bool) (hq : puzB t cs = q) :
    Calls Tryd.prog 15 #[pzV t A n c] w fun e w' => e = .returned (.bool q) ∧ Below w.heap.size w w' :=
  (pzGood_any t A n c cs lo hi w hn hlen hs hB).mono fun _ _ ⟨he, hb⟩ => ⟨by rw [he, hq], hb⟩

/-- A puzzle's clues, as they come in. -/
theorem open_clues1 {H : Type} {enc : TypeId × Value → H} {w : World} {spare : Nat → Bool} {held : Bool} {fuel : Nat} {v : Value} {x : DataW H × List MemPlace}
    (h : DataW.trod enc Tryd.prog w 0 spare held fuel 22 [v] = some x) : ∃ a0 len cap, v = .slice a0 len cap ∧ len ≤ 9223372036854775807 ∧ ∃ zs : List Clu, zs.length = len ∧ Seg w 0 w.heap.size a0 (flat4 zs) := by
  have hv : ∃ a0 len cap, v = .slice a0 len cap := by
    rcases Go.Deep.open_slice Tryd.underlying22 h with ⟨hcs, _⟩ | ⟨a, l, c, m, n, D, Pl, hcs, _⟩
    · simp [Value.cells] at hcs
      exact ⟨_, _, _, hcs⟩
    · simp [Value.cells] at hcs
      exact ⟨_, _, _, hcs⟩
  obtain ⟨a0, len, cap, rfl⟩ := hv
  exact ⟨a0, len, cap, rfl, open_clues (by simpa [Value.cells] using h)⟩
end Go.Proofs.YtoheoojpmndhoabDoor

/-
  The checking program's text of boxes.
  Conditions: at most 1048576 boxes whose numbers lie from 0 to 1000000.
-/
import Derived.Test.YtbaofgbkcolmmabDoorTxRows
import Derived.Test.YtbaofgbkcolmmabDoorBoxGoodT
import Derived.Deep.RegionHeld3
namespace Go.Proofs.YtbaofgbkcolmmabDoor
set_option linter.unusedVariables false
open Go.RowKit

/-- One box's word. -/
def bxS (b : Int × Int × Int) : ByteArray := numS b.1 ++ ⟨#[120]⟩ ++ numS b.2.1 ++ ⟨#[120]⟩ ++ numS b.2.2
theorem bxS_text (b : Int × Int × Int) : textS 120 [b.1, b.2.1, b.2.2] = bxS b := by simp [textS, bxS, append_assocB]

/-- The numbers of boxes that a text is made of. -/
def plainN (bs : List (Int × Int × Int)) : Prop := ∀ b ∈ bs, (0 ≤ b.1 ∧ b.1 ≤ 1000000) ∧ (0 ≤ b.2.1 ∧ b.2.1 ≤ 1000000) ∧ 0 ≤ b.2.2 ∧ b.2.2 ≤ 1000000

theorem bxS_size {b : Int × Int × Int} (h : (0 ≤ b.1 ∧ b.1 ≤ 1000000) ∧ (0 ≤ b.2.1 ∧ b.2.1 ≤ 1000000) ∧ 0 ≤ b.2.2 ∧ b.2.2 ≤ 1000000) : (bxS b).size ≤ 65 := by
  have h1 := numS_size h.1.1 h.1.2
  have h2 := numS_size h.2.1.1 h.2.1.2
  have h3 := numS_size h.2.2.1 h.2.2.2
  have h4 : (⟨#[120]⟩ : ByteArray).size = 1 := rfl
  rw [bxS, ByteArray.size_append, ByteArray.size_append, ByteArray.size_append, ByteArray.size_append]
  omega

theorem wordsN_size {bs : List (Int × Int × Int)} (h : plainN bs) : ∀ s ∈ bs.map bxS, s.size ≤ 65 := by
  intro s hs
  obtain ⟨b, hb, rfl⟩ := List.mem_map.1 hs
  exact bxS_size (h b hb)

theorem partN_size {bs : List (Int × Int × Int)} (h : plainN bs) (hl : bs.length ≤ 1048576) (k : Nat) : (joinB 44 ((bs.map bxS).take k)).size ≤ 70000000 := by
  have h1 := joinB_size 44 ((bs.map bxS).take k) 65 (fun s hs => wordsN_size h s (List.mem_of_mem_take hs))
  have h2 : ((bs.map bxS).take k).length ≤ bs.length := by rw [List.length_take, List.length_map]; omega
  have h3 : (65 + 1) * ((bs.map bxS).take k).length ≤ 66 * 1048576 := Nat.mul_le_mul (by omega) (by omega)
  omega

theorem keep3 {W0 W1 W2 : World} {a b c : Addr} {x y z : Value} (h : Below W0.heap.size W0 W1 ∧ W1.cell? a = some x ∧ W1.cell? b = some y ∧ W1.cell? c = some z) (hb : Below W1.heap.size W1 W2) :
    Below W0.heap.size W0 W2 ∧ W2.cell? a = some x ∧ W2.cell? b = some y ∧ W2.cell? c = some z :=
  ⟨h.1.trans (hb.mono h.1.size), (hb.cell (cell_lt h.2.1)).trans h.2.1, (hb.cell (cell_lt h.2.2.1)).trans h.2.2.1, (hb.cell (cell_lt h.2.2.2)).trans h.2.2.2⟩

end Go.Proofs.YtbaofgbkcolmmabDoor

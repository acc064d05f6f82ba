/-
  The checking program's text of pieces.
  Conditions: at most 1048576 pieces whose numbers lie from 0 to 1000000.
-/
import Derived.Test.YtjpejhpilfjheacDoorTxRows
import Derived.Test.YtjpejhpilfjheacDoorPcGood
import Derived.Deep.RegionHeld3
namespace Go.Proofs.YtjpejhpilfjheacDoor
set_option linter.unusedVariables false
open Go.RowKit

/-- One box's word. -/
def bxSZ (b : Int × Int × Int) : ByteArray := numS b.1 ++ ⟨#[120]⟩ ++ numS b.2.1 ++ ⟨#[61]⟩ ++ numS b.2.2
theorem bxS_textZ (b : Int × Int × Int) : textS 120 [b.1, b.2.1] ++ ⟨#[61]⟩ ++ numS b.2.2 = bxSZ b := by simp [textS, bxSZ, append_assocB]

/-- The numbers of pieces that a text is made of. -/
def plainNZ (bs : List (Int × Int × Int)) : Prop := ∀ b ∈ bs, (0 ≤ b.1 ∧ b.1 ≤ 1000000) ∧ (0 ≤ b.2.1 ∧ b.2.1 ≤ 1000000) ∧ 0 ≤ b.2.2 ∧ b.2.2 ≤ 1000000

theorem bxS_sizeZ {b : Int × Int × Int} (h : (0 ≤ b.1 ∧ b.1 ≤ 1000000) ∧ (0 ≤ b.2.1 ∧ b.2.1 ≤ 1000000) ∧ 0 ≤ b.2.2 ∧ b.2.2 ≤ 1000000) : (bxSZ b).size ≤ 65 := by
  have h1 := numS_size h.1.1 h.1.2
  have h2 := numS_size h.2.1.1 h.2.1.2
  have h3 := numS_size h.2.2.1 h.2.2.2
  have h4 : (⟨#[120]⟩ : ByteArray).size = 1 := rfl
  have h5 : (⟨#[61]⟩ : ByteArray).size = 1 := rfl
  rw [bxSZ, ByteArray.size_append, ByteArray.size_append, ByteArray.size_append, ByteArray.size_append]
  omega

theorem wordsN_sizeZ {bs : List (Int × Int × Int)} (h : plainNZ bs) : ∀ s ∈ bs.map bxSZ, s.size ≤ 65 := by
  intro s hs
  obtain ⟨b, hb, rfl⟩ := List.mem_map.1 hs
  exact bxS_sizeZ (h b hb)

theorem partN_sizeZ {bs : List (Int × Int × Int)} (h : plainNZ bs) (hl : bs.length ≤ 1048576) (k : Nat) : (joinB 44 ((bs.map bxSZ).take k)).size ≤ 70000000 := by
  have h1 := joinB_size 44 ((bs.map bxSZ).take k) 65 (fun s hs => wordsN_sizeZ h s (List.mem_of_mem_take hs))
  have h2 : ((bs.map bxSZ).take k).length ≤ bs.length := by rw [List.length_take, List.length_map]; omega
  have h3 : (65 + 1) * ((bs.map bxSZ).take k).length ≤ 66 * 1048576 := Nat.mul_le_mul (by omega) (by omega)
  omega

theorem keep3Z {W0 W1 W2 : World} {a b c : Addr} {x y z : Value} (h : Below W0.heap.size W0 W1 ∧ W1.cell? a = some x ∧ W1.cell? b = some y ∧ W1.cell? c = some z) (hb : Below W1.heap.size W1 W2) :
    Below W0.heap.size W0 W2 ∧ W2.cell? a = some x ∧ W2.cell? b = some y ∧ W2.cell? c = some z :=
  ⟨h.1.trans (hb.mono h.1.size), (hb.cell (cell_lt h.2.1)).trans h.2.1, (hb.cell (cell_lt h.2.2.1)).trans h.2.2.1, (hb.cell (cell_lt h.2.2.2)).trans h.2.2.2⟩

end Go.Proofs.YtjpejhpilfjheacDoor

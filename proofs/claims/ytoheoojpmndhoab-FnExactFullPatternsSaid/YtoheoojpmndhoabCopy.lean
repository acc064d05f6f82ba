/-
  The law's own copy of a slice of whole numbers: a new slice that holds the same numbers; nothing that was there is written.
  Conditions: the slice has at most 1048576 numbers.
-/
import Derived.Test.YtoheoojpmndhoabInfo
import Derived.Deep.OwnRows
namespace Go.Proofs.Ytoheoojpmndhoab
set_option linter.unusedVariables false
open Go.RowKit

set_option maxHeartbeats 400000 in
theorem toIntS_any (A : Option Addr) (n c : Nat) (xs : List Int) (B : Nat) (w : World) (hn : xs.length = n) (hlen : n ≤ 1048576) (h : Seg w 0 B A xs) (hB : B ≤ w.heap.size) :
    Calls Try.prog 7 #[.slice A n c] w fun e w' => e = .returned (.slice (some ⟨w.heap.size, 0, none⟩) n n) ∧
      Own w' w.heap.size w'.heap.size (some ⟨w.heap.size, 0, none⟩) xs ∧ Below w.heap.size w w' := by
  have hmk := fun W : World => run_make_row' 22 3 (.int .i64 0) 8 Try.underlying22 int_info rfl .i64 .i64 n (by omega) (by omega) W
  have HN := Lib.hid hn
  go_enter Try.func7, Try.ntmps7
  go_wp2
  clear hmk
  go_loopw [4] (fun i wr => ∃ k : Nat, k ≤ n ∧ i = .int .i64 k ∧ Below w.heap.size w wr ∧ Part wr w.heap.size 3 n k xs) (fun i _ => n - (intOf i).toNat)
  case atStart => exact ⟨0, Nat.zero_le _, rfl, (Below.refl _ _).alloc (Nat.le_refl _) _, part_new _ _ _ _ _⟩
  case round =>
    obtain ⟨k, hk, rfl, hb, hp⟩ := hrel
    by_cases hlt : k < n
    · obtain ⟨b, off, u, rfl, _, hbB, hx, hc⟩ := h.at_ (k := k) (by omega)
      have hcw : wr.cell? ⟨b, off + k, none⟩ = some (.int .i64 u) := (hb.cell (by exact Nat.lt_of_lt_of_le hbB hB)).trans hc
      obtain ⟨v0, hv0⟩ := hp.cell k hlt
      have hfz := hp.frozen k
      have HX := Lib.hid hx
      clear hx hc
      go_wp2
      go_roundw
      case rel => exact ⟨k + 1, by omega, by go_num, hb.setCell (Nat.le_refl _) _, hp.step hlt HX.out⟩
      case measure => simp [intOf]; omega
    · obtain rfl : k = n := by omega
      go_wp2
      go_ret
      refine ⟨rfl, ?_, hb⟩
      have hp' : Part wr w.heap.size 3 k xs.length xs := by rw [HN.out]; exact hp
      exact hp'.own (Nat.le_refl _) hp.lt
end Go.Proofs.Ytoheoojpmndhoab

/-
  The law's own look at things that it has marked.
  Conditions: the slice has at most 1048576 clues.
-/
import Derived.Test.YtoheoojpmndhoabDoorClus
namespace Go.Proofs.YtoheoojpmndhoabDoor
set_option linter.unusedVariables false
open Go.RowKit

theorem heldClueS_any (A : Option Addr) (n c : Nat) (k0 : Int) (lo hi : Nat) (w : World) (hlen : n ≤ 1048576) (h0 : 0 ≤ k0) (h1 : k0 ≤ 4611686018427387904) (h : Seg w lo hi A (marks k0 (n * 4))) :
    Calls Tryd.prog 27 #[.slice A n c, .int .i64 k0] w fun e w' => e = .returned (.int .i64 (k0 + ((n * 4 : Nat) : Int))) ∧ w = w' := by
  go_enter Tryd.func27, Tryd.ntmps27
  go_wp2
  go_loop [1, 5] (fun q i => ∃ k : Nat, k ≤ n ∧ q = .int .i64 (k0 + ((k * 4 : Nat) : Int)) ∧ i = .int .i64 k) (fun _ i => n - (intOf i).toNat)
  case atStart => exact ⟨0, Nat.zero_le _, by simp, rfl⟩
  case round =>
    obtain ⟨k, hk, rfl, rfl⟩ := hrel
    by_cases hlt : k < n
    · obtain ⟨b, off, u, rfl, _, _, hx, hc⟩ := h.at_ (k := k * 4) (by rw [marks_length]; omega)
      obtain ⟨b', off', u', hA, _, _, hx', hc'⟩ := h.at_ (k := k * 4 + 1) (by rw [marks_length]; omega)
      obtain ⟨rfl, rfl⟩ : b = b' ∧ off = off' := by injection hA with hA; injection hA with h1 h2; exact ⟨h1, h2⟩
      obtain ⟨b', off', u2, hA2, _, _, hx2, hc2'⟩ := h.at_ (k := k * 4 + 2) (by rw [marks_length]; omega)
      obtain ⟨rfl, rfl⟩ : b = b' ∧ off = off' := by injection hA2 with hA; injection hA with h1 h2; exact ⟨h1, h2⟩
      obtain ⟨b', off', u3, hA3, _, _, hx3, hc3'⟩ := h.at_ (k := k * 4 + 3) (by rw [marks_length]; omega)
      obtain ⟨rfl, rfl⟩ : b = b' ∧ off = off' := by injection hA3 with hA; injection hA with h1 h2; exact ⟨h1, h2⟩
      obtain rfl : k0 + ((k * 4 : Nat) : Int) = u := by rw [marks_at k0 (n * 4) (k * 4) (by omega)] at hx; injection hx
      obtain rfl : k0 + ((k * 4 + 1 : Nat) : Int) = u' := by rw [marks_at k0 (n * 4) (k * 4 + 1) (by omega)] at hx'; injection hx'
      obtain rfl : k0 + ((k * 4 + 2 : Nat) : Int) = u2 := by rw [marks_at k0 (n * 4) (k * 4 + 2) (by omega)] at hx2; injection hx2
      obtain rfl : k0 + ((k * 4 + 3 : Nat) : Int) = u3 := by rw [marks_at k0 (n * 4) (k * 4 + 3) (by omega)] at hx3; injection hx3
      have hc2 : w.cell? ⟨b, off + k * 4 + 1, none⟩ = some (.int .i64 (k0 + (k : Int) * 4 + 1)) := by rw [Nat.add_assoc, hc']; congr 2; omega
      have hc3 : w.cell? ⟨b, off + k * 4 + 2, none⟩ = some (.int .i64 (k0 + (k : Int) * 4 + 1 + 1)) := by rw [Nat.add_assoc, hc2']; congr 2; omega
      have hc4 : w.cell? ⟨b, off + k * 4 + 3, none⟩ = some (.int .i64 (k0 + (k : Int) * 4 + 1 + 1 + 1)) := by rw [Nat.add_assoc, hc3']; congr 2; omega
      clear hx hx' hA hA2 hx2 hA3 hx3 hc' hc2' hc3'
      go_wp2
      go_round
      case rel => exact ⟨k + 1, by omega, by go_num, by go_num⟩
      case measure => simp [intOf]; omega
    · obtain rfl : k = n := by omega
      go_wp2
      go_ret
      exact ⟨rfl, rfl⟩
end Go.Proofs.YtoheoojpmndhoabDoor

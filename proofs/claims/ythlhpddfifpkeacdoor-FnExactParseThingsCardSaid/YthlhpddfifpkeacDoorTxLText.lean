/-
  The checking program's text of lengths.
  Conditions: at most 1048576 numbers, each from 0 to 1000000.
-/
import Derived.Test.YthlhpddfifpkeacDoorTxTwo
namespace Go.Proofs.YthlhpddfifpkeacDoor
set_option linter.unusedVariables false
open Go.RowKit

set_option maxRecDepth 100000 in
set_option maxHeartbeats 400000 in
theorem rdText_any (A : Option Addr) (n c : Nat) (xs : List Int) (lo hi : Nat) (w : World) (hn : xs.length = n) (hlen : n ≤ 1048576) (hx : ∀ x ∈ xs, 0 ≤ x ∧ x ≤ 1000000) (hs : Seg w lo hi A xs) (hB : hi ≤ w.heap.size) :
    Calls Tryd.prog 17 #[.slice A n c] w fun e w' => e = .returned (.string (textS 44 xs)) ∧ Below w.heap.size w w' := by
  have HN := Lib.hid hn
  have HX := Lib.hid hx
  have HL := Lib.hid (fun k => add_two xs hx (by omega) k 44)
  clear hn hx
  go_enter Tryd.func17, Tryd.ntmps17
  go_wp2
  go_loopw [3, 8] (fun s i wr => ∃ k : Nat, k ≤ n ∧ i = .int .i64 k ∧ s = .string (textS 44 (xs.take k)) ∧ Below w.heap.size w wr) (fun _ i _ => n - (intOf i).toNat)
  case atStart => exact ⟨0, Nat.zero_le _, rfl, rfl, Below.refl _ _⟩
  case round =>
    obtain ⟨k, hk, rfl, rfl, hb⟩ := hrel
    by_cases hlt : k < n
    · obtain ⟨b, off, u, rfl, _, _, hu, hc⟩ := (hs.below hb hB).at_ (k := k) (by rw [HN.out]; exact hlt)
      have hub := HX.out u (List.mem_of_getElem? hu)
      have hz := hb.size
      have HS := Lib.hid (textS_step 44 hu)
      have hle := HL.out k
      have hsz := numS_size hub.1 hub.2
      generalize hT : textS 44 (xs.take k) = T at *
      have HT := Lib.hid hT
      clear hu hT
      have hd : (⟨#[44]⟩ : ByteArray).size = 1 := rfl
      by_cases h0 : k = 0
      · subst h0
        rw [Nat.add_zero] at hc
        have ha := add_ok T (numS u) (by omega)
        clear hle hsz
        go_wp2_with (go_at_call 27; refine (l1Num_any _ u _ hub.1 hub.2 rfl).mono ?_; rintro e w1 ⟨rfl, hb1⟩)
        go_roundw
        case rel => exact ⟨1, by omega, by go_num, by rw [HS.out]; simp [stepS], hb.trans (hb1.mono (by omega))⟩
        case measure => simp [intOf]; omega
      · have hpos : decide ((k : Int) > 0) = true := by simp; omega
        have ha := add_ok T ⟨#[44]⟩ (by omega)
        have ha2 := add_ok (T ++ ⟨#[44]⟩) (numS u) (by rw [ByteArray.size_append]; omega)
        have ha3 : (T.size + 1 > 9223372036854775807) = False := ha
        have ha4 : (T.size + 1 + (numS u).size > 9223372036854775807) = False := by simp; omega
        clear hle hsz
        go_wp2_with (go_at_call 27; refine (l1Num_any _ u _ hub.1 hub.2 rfl).mono ?_; rintro e w1 ⟨rfl, hb1⟩)
        go_roundw
        case rel => exact ⟨k + 1, by omega, by go_num, by rw [HS.out]; simp [stepS, h0], hb.trans (hb1.mono (by omega))⟩
        case measure => simp [intOf]; omega
    · obtain rfl : k = n := by omega
      go_wp2
      go_ret
      exact ⟨by rw [← HN.out, List.take_length]; rfl, hb⟩
end Go.Proofs.YthlhpddfifpkeacDoor

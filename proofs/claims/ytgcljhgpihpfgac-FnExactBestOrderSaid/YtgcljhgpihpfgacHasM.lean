/-
  The checking program's test whether a number is in a list.
  Conditions: the list has at most 1048576 numbers.
-/
import Derived.Test.YtgcljhgpihpfgacMem
namespace Go.Proofs.Ytgcljhgpihpfgac
set_option linter.unusedVariables false
open Go.RowKit

theorem l1Has_any (A : Option Addr) (n c : Nat) (xs : List Int) (v : Int) (lo hi : Nat) (w : World) (hn : xs.length = n) (hlen : n ≤ 1048576) (hs : Seg w lo hi A xs) (q : Bool) (hq : decide (v ∈ xs) = q) :
    Calls Try.prog 66 #[.slice A n c, .int .i64 v] w fun e w' => e = .returned (.bool q) ∧ w = w' := by
  have HN := Lib.hid hn
  have HQ := Lib.hid hq
  clear hn hq
  go_enter Try.func66, Try.ntmps66
  go_wp2
  go_loop [6, 9] (fun _ i => ∃ k : Nat, k ≤ n ∧ i = .int .i64 k ∧ ∀ j, j < k → xs[j]? ≠ some v) (fun _ i => n - (intOf i).toNat)
  case atStart => exact ⟨0, Nat.zero_le _, rfl, fun j hj => by omega⟩
  case round =>
    obtain ⟨k, hk, rfl, hno⟩ := hrel
    have HO := Lib.hid hno
    clear hno
    by_cases hlt : k < n
    · obtain ⟨b, off, u, rfl, _, _, hx, hc⟩ := hs.at_ (k := k) (by rw [HN.out]; exact hlt)
      have HX := Lib.hid hx
      clear hx
      by_cases hv : u = v
      · subst hv
        go_wp2
        go_ret
        exact ⟨by rw [← HQ.out, decide_eq_true (List.mem_of_getElem? HX.out)]; rfl, rfl⟩
      · go_wp2
        go_round
        case rel => exact ⟨k + 1, by omega, by go_num, fun j hj => by
          by_cases e : j = k
          · subst e
            rw [HX.out]
            intro h
            injection h with h
            exact hv h
          · exact HO.out j (by omega)⟩
        case measure => simp [intOf]; omega
    · obtain rfl : k = n := by omega
      go_wp2
      go_ret
      refine ⟨?_, rfl⟩
      rw [← HQ.out, decide_eq_false]
      · rfl
      · intro hm
        obtain ⟨j, hj, he⟩ := List.mem_iff_getElem.1 hm
        exact HO.out j (by rw [← HN.out]; exact hj) (by rw [List.getElem?_eq_getElem hj, he])
end Go.Proofs.Ytgcljhgpihpfgac

/-
  Both programs' sums of things.
  Conditions: the list has at most 1048576 numbers.
-/
import Derived.Test.YtoheoojpmndhoaaAsked
import Derived.Test.YtoheoojpmndhoaaMem
namespace Go.Proofs.Ytoheoojpmndhoaa
set_option linter.unusedVariables false
open Go.RowKit

theorem sum_take (xs : List Int) {k : Nat} {u : Int} (h : xs[k]? = some u) : (xs.take k).sum + u = (xs.take (k + 1)).sum := by
  rw [take_snoc h]; simp

theorem sum_le (xs : List Int) (h : ∀ x ∈ xs, 1 ≤ x ∧ x ≤ 100) : (xs.length : Int) ≤ xs.sum ∧ xs.sum ≤ 100 * (xs.length : Int) := by
  induction xs with
  | nil => simp
  | cons x xs ih =>
    have h1 := h x List.mem_cons_self
    have h2 := ih (fun y hy => h y (List.mem_cons_of_mem _ hy))
    simp only [List.sum_cons, List.length_cons]
    omega

theorem sum_take_bd {xs : List Int} (h : goodB xs = true) (k : Nat) : 0 ≤ (xs.take k).sum ∧ (xs.take k).sum ≤ 900 := by
  obtain ⟨h1, h9, hx⟩ := goodB_at h
  have hl := sum_le (xs.take k) (fun x hx' => hx x (List.mem_of_mem_take hx'))
  have : (xs.take k).length ≤ 9 := by rw [List.length_take]; omega
  omega

theorem sum_bd {xs : List Int} (h : goodB xs = true) : 1 ≤ xs.sum ∧ xs.sum ≤ 900 := by
  obtain ⟨h1, h9, hx⟩ := goodB_at h
  have hl := sum_le xs hx
  omega

set_option maxHeartbeats 400000 in
theorem bxSum_any (A : Option Addr) (n c : Nat) (xs : List Int) (lo hi : Nat) (w : World) (hn : xs.length = n) (hs : Seg w lo hi A xs) (hg : goodB xs = true) :
    Calls Try.prog 115 #[.slice A n c] w fun e w' => e = .returned (.int .i64 xs.sum) ∧ w = w' := by
  have HN := Lib.hid hn
  have HG := Lib.hid hg
  have h9 : n ≤ 9 := by have := (goodB_at hg).2.1; omega
  clear hn hg
  go_enter Try.func115, Try.ntmps115
  go_wp2
  go_loop [3, 5, 8] (fun m _ i => ∃ k : Nat, k ≤ n ∧ i = .int .i64 k ∧ m = .int .i64 (xs.take k).sum) (fun _ _ i => n - (intOf i).toNat)
  case atStart => exact ⟨0, Nat.zero_le _, rfl, rfl⟩
  case round =>
    obtain ⟨k, hk, rfl, rfl⟩ := hrel
    have hsb := sum_take_bd HG.out k
    by_cases hlt : k < n
    · obtain ⟨b, off, u, rfl, _, _, hx, hc⟩ := hs.at_ (k := k) (by rw [HN.out]; exact hlt)
      have HM := Lib.hid (sum_take xs hx)
      have hu := (goodB_at HG.out).2.2 u (List.mem_of_getElem? hx)
      clear hx
      obtain ⟨q, hq⟩ : ∃ q, q = (xs.take k).sum := ⟨_, rfl⟩
      rw [← hq] at HM hsb ⊢
      clear hq
      go_wp2
      go_round
      case rel => exact ⟨k + 1, by omega, by go_num, by rw [← HM.out]⟩
      case measure => simp [intOf]; omega
    · obtain rfl : k = n := by omega
      go_wp2
      go_ret
      exact ⟨by rw [← HN.out, List.take_length]; rfl, rfl⟩

set_option maxHeartbeats 400000 in
theorem sumOf_any (A : Option Addr) (n c : Nat) (xs : List Int) (lo hi : Nat) (w : World) (hn : xs.length = n) (hs : Seg w lo hi A xs) (hg : goodB xs = true) :
    Calls Try.prog 108 #[.slice A n c] w fun e w' => e = .returned (.int .i64 xs.sum) ∧ w = w' := by
  have HN := Lib.hid hn
  have HG := Lib.hid hg
  have h9 : n ≤ 9 := by have := (goodB_at hg).2.1; omega
  clear hn hg
  go_enter Try.func108, Try.ntmps108
  go_wp2
  go_loop [3, 5, 8] (fun m _ i => ∃ k : Nat, k ≤ n ∧ i = .int .i64 k ∧ m = .int .i64 (xs.take k).sum) (fun _ _ i => n - (intOf i).toNat)
  case atStart => exact ⟨0, Nat.zero_le _, rfl, rfl⟩
  case round =>
    obtain ⟨k, hk, rfl, rfl⟩ := hrel
    have hsb := sum_take_bd HG.out k
    by_cases hlt : k < n
    · obtain ⟨b, off, u, rfl, _, _, hx, hc⟩ := hs.at_ (k := k) (by rw [HN.out]; exact hlt)
      have HM := Lib.hid (sum_take xs hx)
      have hu := (goodB_at HG.out).2.2 u (List.mem_of_getElem? hx)
      clear hx
      obtain ⟨q, hq⟩ : ∃ q, q = (xs.take k).sum := ⟨_, rfl⟩
      rw [← hq] at HM hsb ⊢
      clear hq
      go_wp2
      go_round
      case rel => exact ⟨k + 1, by omega, by go_num, by rw [← HM.out]⟩
      case measure => simp [intOf]; omega
    · obtain rfl : k = n := by omega
      go_wp2
      go_ret
      exact ⟨by rw [← HN.out, List.take_length]; rfl, rfl⟩
end Go.Proofs.Ytoheoojpmndhoaa

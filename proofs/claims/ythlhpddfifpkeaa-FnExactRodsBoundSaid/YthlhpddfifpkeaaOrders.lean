/-
  Both programs' sums of counts, and CountOrders.
  Conditions: the list has at most 1048576 numbers.
-/
import Derived.Test.YthlhpddfifpkeaaCounts
import Derived.Test.YthlhpddfifpkeaaMem
namespace Go.Proofs.Ythlhpddfifpkeaa
set_option linter.unusedVariables false
open Go.RowKit

def numO (q : Bool) (v : Int) : Int := if q = true then v else 0

theorem sumc_take (xs : List Int) {k : Nat} {u : Int} (h : xs[k]? = some u) : (xs.take k).sum + u = (xs.take (k + 1)).sum := by
  rw [take_snoc h]; simp

theorem sumc_le (xs : List Int) (h : ∀ x ∈ xs, 0 ≤ x ∧ x ≤ 6) : 0 ≤ xs.sum ∧ xs.sum ≤ 6 * (xs.length : Int) := by
  induction xs with
  | nil => simp
  | cons x xs ih =>
    have h1 := h x List.mem_cons_self
    have h2 := ih (fun y hy => h y (List.mem_cons_of_mem _ hy))
    simp only [List.sum_cons, List.length_cons]
    omega

theorem counts_mem {xs : List Int} (h : someB 4 6 xs = true) (x : Int) (hx : x ∈ xs) : 0 ≤ x ∧ x ≤ 6 := by
  obtain ⟨k, hk⟩ := List.getElem?_of_mem hx
  exact someB_at h k x hk

theorem sumc_bd {xs : List Int} (h : someB 4 6 xs = true) (k : Nat) : 0 ≤ (xs.take k).sum ∧ (xs.take k).sum ≤ 24 := by
  have h4 := (someB_true.1 h).1.2
  have hl := sumc_le (xs.take k) (fun x hx' => counts_mem h x (List.mem_of_mem_take hx'))
  have : (xs.take k).length ≤ 4 := by rw [List.length_take]; omega
  omega

set_option maxHeartbeats 400000 in
theorem bxSumC_any (A : Option Addr) (n c : Nat) (xs : List Int) (lo hi : Nat) (w : World) (hn : xs.length = n) (hs : Seg w lo hi A xs) (hg : someB 4 6 xs = true) (s : Int) (hsum : xs.sum = s) :
    Calls Try.prog 59 #[.slice A n c] w fun e w' => e = .returned (.int .i64 s) ∧ w = w' := by
  have HN := Lib.hid hn
  have HG := Lib.hid hg
  have HS := Lib.hid hsum
  have h4 : n ≤ 4 := by have := (someB_true.1 hg).1.2; omega
  clear hn hg hsum
  go_enter Try.func59, Try.ntmps59
  go_wp2
  go_loop [3, 5, 8] (fun m _ i => ∃ k : Nat, k ≤ n ∧ i = .int .i64 k ∧ m = .int .i64 (xs.take k).sum) (fun _ _ i => n - (intOf i).toNat)
  case atStart => exact ⟨0, Nat.zero_le _, rfl, rfl⟩
  case round =>
    obtain ⟨k, hk, rfl, rfl⟩ := hrel
    have hsb := sumc_bd HG.out k
    by_cases hlt : k < n
    · obtain ⟨b, off, u, rfl, _, _, hx, hc⟩ := hs.at_ (k := k) (by rw [HN.out]; exact hlt)
      have HM := Lib.hid (sumc_take xs hx)
      have hu := someB_at HG.out k u hx
      clear hx
      obtain ⟨q, hq⟩ : ∃ q, q = (xs.take k).sum := ⟨_, rfl⟩
      rw [← hq] at HM hsb ⊢
      clear hq
      go_wp2
      go_round
      case rel => exact ⟨k + 1, by omega, by go_num, by rw [← HM.out]⟩
      case measure => simp [intOf]; omega
    · obtain rfl : k = n := by omega
      go_wp2
      go_ret
      exact ⟨by rw [← HS.out, ← HN.out, List.take_length]; rfl, rfl⟩

set_option maxHeartbeats 400000 in
theorem sumOfC_any (A : Option Addr) (n c : Nat) (xs : List Int) (lo hi : Nat) (w : World) (hn : xs.length = n) (hs : Seg w lo hi A xs) (hg : someB 4 6 xs = true) (s : Int) (hsum : xs.sum = s) :
    Calls Try.prog 61 #[.slice A n c] w fun e w' => e = .returned (.int .i64 s) ∧ w = w' := by
  have HN := Lib.hid hn
  have HG := Lib.hid hg
  have HS := Lib.hid hsum
  have h4 : n ≤ 4 := by have := (someB_true.1 hg).1.2; omega
  clear hn hg hsum
  go_enter Try.func61, Try.ntmps61
  go_wp2
  go_loop [3, 5, 8] (fun m _ i => ∃ k : Nat, k ≤ n ∧ i = .int .i64 k ∧ m = .int .i64 (xs.take k).sum) (fun _ _ i => n - (intOf i).toNat)
  case atStart => exact ⟨0, Nat.zero_le _, rfl, rfl⟩
  case round =>
    obtain ⟨k, hk, rfl, rfl⟩ := hrel
    have hsb := sumc_bd HG.out k
    by_cases hlt : k < n
    · obtain ⟨b, off, u, rfl, _, _, hx, hc⟩ := hs.at_ (k := k) (by rw [HN.out]; exact hlt)
      have HM := Lib.hid (sumc_take xs hx)
      have hu := someB_at HG.out k u hx
      clear hx
      obtain ⟨q, hq⟩ : ∃ q, q = (xs.take k).sum := ⟨_, rfl⟩
      rw [← hq] at HM hsb ⊢
      clear hq
      go_wp2
      go_round
      case rel => exact ⟨k + 1, by omega, by go_num, by rw [← HM.out]⟩
      case measure => simp [intOf]; omega
    · obtain rfl : k = n := by omega
      go_wp2
      go_ret
      exact ⟨by rw [← HS.out, ← HN.out, List.take_length]; rfl, rfl⟩

theorem spec_CountOrders (A : Option Addr) (n c : Nat) (xs : List Int) (lo hi : Nat) (w : World) (hn : xs.length = n) (hlen : n ≤ 1048576) (hs : Seg w lo hi A xs) (q : Bool) (hq : someB 4 6 xs = q) :
    Calls Try.prog 27 #[.slice A n c] w (RetI (numO q xs.sum) q w) := by
  have HN := Lib.hid hn
  have HQ := Lib.hid hq
  obtain ⟨s, hs'⟩ : ∃ s, xs.sum = s := ⟨_, rfl⟩
  rw [hs']
  have HS := Lib.hid hs'
  clear hn hq hs'
  cases q
  · go_enter Try.func27, Try.ntmps27
    go_wp2_with (go_at_call 58; refine (rdCounts_any _ _ _ xs lo hi _ HN.out hlen hs _ HQ.out).mono ?_; rintro e w' ⟨rfl, rfl⟩)
    go_ret2
    exact ⟨rfl, Below.refl _ _⟩
  · go_enter Try.func27, Try.ntmps27
    go_wp2_with (first
      | (go_at_call 58; refine (rdCounts_any _ _ _ xs lo hi _ HN.out hlen hs _ HQ.out).mono ?_; rintro e w' ⟨rfl, rfl⟩)
      | (go_at_call 59; refine (bxSumC_any _ _ _ xs lo hi _ HN.out hs HQ.out _ HS.out).mono ?_; rintro e w' ⟨rfl, rfl⟩))
    go_ret2
    exact ⟨rfl, Below.refl _ _⟩

theorem impl_CountOrders (A : Option Addr) (n c : Nat) (xs : List Int) (lo hi : Nat) (w : World) (hn : xs.length = n) (hlen : n ≤ 1048576) (hs : Seg w lo hi A xs) (q : Bool) (hq : someB 4 6 xs = q) :
    Calls Try.prog 28 #[.slice A n c] w (RetI (numO q xs.sum) q w) := by
  have HN := Lib.hid hn
  have HQ := Lib.hid hq
  obtain ⟨s, hs'⟩ : ∃ s, xs.sum = s := ⟨_, rfl⟩
  rw [hs']
  have HS := Lib.hid hs'
  clear hn hq hs'
  cases q
  · go_enter Try.func28, Try.ntmps28
    go_wp2_with (go_at_call 60; refine (areCounts_any _ _ _ xs lo hi _ HN.out hlen hs _ HQ.out).mono ?_; rintro e w' ⟨rfl, rfl⟩)
    go_ret2
    exact ⟨rfl, Below.refl _ _⟩
  · go_enter Try.func28, Try.ntmps28
    go_wp2_with (first
      | (go_at_call 60; refine (areCounts_any _ _ _ xs lo hi _ HN.out hlen hs _ HQ.out).mono ?_; rintro e w' ⟨rfl, rfl⟩)
      | (go_at_call 61; refine (sumOfC_any _ _ _ xs lo hi _ HN.out hs HQ.out _ HS.out).mono ?_; rintro e w' ⟨rfl, rfl⟩))
    go_ret2
    exact ⟨rfl, Below.refl _ _⟩
end Go.Proofs.Ythlhpddfifpkeaa

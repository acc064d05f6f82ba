/-
  Both programs' tests for things and a room that holds them; nothing is written.
  Conditions: the list has at most 1048576 numbers.
-/
import Derived.Test.YtoheoojpmndhoaaPickM
namespace Go.Proofs.Ytoheoojpmndhoaa
set_option linter.unusedVariables false
open Go.RowKit

theorem l1Most_any (a b : Int) (w : World) :
    Calls Try.prog 127 #[.int .i64 a, .int .i64 b] w fun e w' => e = .returned (.int .i64 (max a b)) ∧ w = w' := by
  by_cases h : b < a
  · have hm : max a b = a := by omega
    have HM := Lib.hid hm
    clear hm
    go_enter Try.func127, Try.ntmps127
    go_wp2
    go_ret
    exact ⟨by rw [HM.out]; rfl, rfl⟩
  · have hm : max a b = b := by omega
    have HM := Lib.hid hm
    clear hm
    go_enter Try.func127, Try.ntmps127
    go_wp2
    go_ret
    exact ⟨by rw [HM.out]; rfl, rfl⟩

theorem mostOf_take (xs : List Int) {k : Nat} {u : Int} (h : xs[k]? = some u) : max (mostOf (xs.take k)) u = mostOf (xs.take (k + 1)) := by
  rw [take_snoc h, mostOf_snoc]

set_option maxHeartbeats 400000 in
theorem bxMost_any (A : Option Addr) (n c : Nat) (xs : List Int) (lo hi : Nat) (w : World) (hn : xs.length = n) (hlen : n ≤ 1048576) (hs : Seg w lo hi A xs) :
    Calls Try.prog 117 #[.slice A n c] w fun e w' => e = .returned (.int .i64 (mostOf xs)) ∧ w = w' := by
  have HN := Lib.hid hn
  clear hn
  go_enter Try.func117, Try.ntmps117
  go_wp2
  go_loop [3, 5, 8] (fun m _ i => ∃ k : Nat, k ≤ n ∧ i = .int .i64 k ∧ m = .int .i64 (mostOf (xs.take k))) (fun _ _ i => n - (intOf i).toNat)
  case atStart => exact ⟨0, Nat.zero_le _, rfl, rfl⟩
  case round =>
    obtain ⟨k, hk, rfl, rfl⟩ := hrel
    by_cases hlt : k < n
    · obtain ⟨b, off, u, rfl, _, _, hx, hc⟩ := hs.at_ (k := k) (by rw [HN.out]; exact hlt)
      have HM := Lib.hid (mostOf_take xs hx)
      clear hx
      obtain ⟨q, hq⟩ : ∃ q, q = mostOf (xs.take k) := ⟨_, rfl⟩
      rw [← hq] at HM
      rw [← hq]
      clear hq
      go_wp2_with (go_at_call 127; refine (l1Most_any _ _ _).mono ?_; rintro e w' ⟨rfl, rfl⟩)
      go_round
      case rel => exact ⟨k + 1, by omega, by go_num, by rw [HM.out]⟩
      case measure => simp [intOf]; omega
    · obtain rfl : k = n := by omega
      go_wp2
      go_ret
      exact ⟨by rw [← HN.out, List.take_length]; rfl, rfl⟩

theorem mostOf_one {xs : List Int} {u : Int} (h : xs[0]? = some u) (hu : 0 ≤ u) : u = mostOf (xs.take 1) := by
  rw [take_snoc (k := 0) h]
  simp [mostOf]
  omega

set_option maxHeartbeats 400000 in
theorem slicesMax_any (A : Option Addr) (n c : Nat) (xs : List Int) (lo hi : Nat) (w : World) (hn : xs.length = n) (hlen : n ≤ 1048576) (hs : Seg w lo hi A xs) (h1 : 1 ≤ n) (hp : ∀ x ∈ xs, 1 ≤ x ∧ x ≤ 100) :
    Calls Try.prog 112 #[.slice A n c] w fun e w' => e = .returned (.int .i64 (mostOf xs)) ∧ w = w' := by
  have HN := Lib.hid hn
  have HP := Lib.hid hp
  clear hn hp
  obtain ⟨b, off, u0, rfl, _, _, hx0, hc0⟩ := hs.at_ (k := 0) (by rw [HN.out]; exact h1)
  have hu0 := HP.out u0 (List.mem_of_getElem? hx0)
  have HX := Lib.hid (mostOf_one hx0 (by omega))
  clear hx0
  have hc0' : w.cell? ⟨b, off, none⟩ = some (.int .i64 u0) := hc0
  clear hc0
  have hlt1 : (0 : Int) < (n : Int) := by omega
  go_enter Try.func112, Try.ntmps112
  go_wp2
  go_loop [3, 4] (fun m i => ∃ k : Nat, 1 ≤ k ∧ k ≤ n ∧ i = .int .i64 k ∧ m = .int .i64 (mostOf (xs.take k))) (fun _ i => n - (intOf i).toNat)
  case atStart => exact ⟨1, Nat.le_refl _, h1, rfl, by rw [← HX.out]⟩
  case round =>
    obtain ⟨k, hk1, hk, rfl, rfl⟩ := hrel
    by_cases hlt : k < n
    · obtain ⟨b', off', u, hA, _, _, hx, hc⟩ := hs.at_ (k := k) (by rw [HN.out]; exact hlt)
      obtain ⟨rfl, rfl⟩ : b = b' ∧ off = off' := by injection hA with hA; injection hA with h1 h2; exact ⟨h1, h2⟩
      clear hA
      have HM := Lib.hid (mostOf_take xs hx)
      have hu := HP.out u (List.mem_of_getElem? hx)
      clear hx
      obtain ⟨q, hq⟩ : ∃ q, q = mostOf (xs.take k) := ⟨_, rfl⟩
      rw [← hq] at HM
      rw [← hq]
      clear hq
      go_wp2
      go_round
      case rel => exact ⟨k + 1, by omega, by omega, by go_num, by rw [← HM.out]; congr 1; split <;> omega⟩
      case measure => simp [intOf]; omega
    · obtain rfl : k = n := by omega
      go_wp2
      go_ret
      exact ⟨by rw [← HN.out, List.take_length]; rfl, rfl⟩

end Go.Proofs.Ytoheoojpmndhoaa

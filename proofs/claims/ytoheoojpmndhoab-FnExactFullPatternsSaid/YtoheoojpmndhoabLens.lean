/-
  Both programs' tests for lengths; nothing is written.
  Conditions: the list has at most 1048576 numbers.
-/
import Derived.Test.YtoheoojpmndhoabLenM
namespace Go.Proofs.Ytoheoojpmndhoab
set_option linter.unusedVariables false
open Go.RowKit

def RetUp (b : Bool) (w : World) (e : Ending) (w' : World) : Prop := e = .returned (.bool b) ∧ w = w'

set_option maxHeartbeats 1000000 in
theorem l1Rising_ret (A : Option Addr) (n c : Nat) (xs : List Int) (lo hi : Nat) (w : World) (hn : xs.length = n) (hlen : n ≤ 1048576) (hs : Seg w lo hi A xs) :
    Calls Try.prog 62 #[.slice A n c, .int .i64 1, .int .i64 60] w (RetUp (upB xs) w) := by
  have HN := Lib.hid hn
  clear hn
  go_enter Try.func62, Try.ntmps62
  go_wp2
  go_loop [8, 11] (fun _ i => ∃ k : Nat, k ≤ n ∧ i = .int .i64 k ∧ ∀ (j : Nat) u, j < k → xs[j]? = some u → prevL xs j < u ∧ u ≤ 60) (fun _ i => n - (intOf i).toNat)
  case atStart => exact ⟨0, Nat.zero_le _, rfl, fun j u hj => by omega⟩
  case round =>
    obtain ⟨k, hk, rfl, hall⟩ := hrel
    have hp := prevL_ge (xs := xs) (k := k) hall (by rw [HN.out]; exact hk)
    have HA := Lib.hid hall
    clear hall
    by_cases hlt : k < n
    · obtain ⟨b, off, u, rfl, _, _, hx, hc⟩ := hs.at_ (k := k) (by rw [HN.out]; exact hlt)
      have HX := Lib.hid hx
      clear hx
      by_cases hu : inB u 1 60 = true
      · rw [inB_true] at hu
        by_cases hk0 : k = 0
        · subst hk0
          have hd : decide ((0 : Int) < 0) = false := rfl
          have hc' : w.cell? ⟨b, off, none⟩ = some (.int .i64 u) := hc
          clear hc
          go_wp2_with (go_at_call 48; refine (l1In_any _ _ _ true (inB_true.2 hu) _).mono ?_; rintro e w' ⟨rfl, rfl⟩)
          go_round
          case rel =>
            refine ⟨1, by omega, by go_num, fun j v hj hv => ?_⟩
            obtain rfl : j = 0 := by omega
            rw [HX.out] at hv; injection hv with hv; subst hv
            exact ⟨by rw [prevL_zero]; omega, hu.2⟩
          case measure => simp [intOf]; omega
        · obtain ⟨m, rfl⟩ : ∃ m, k = m + 1 := ⟨k - 1, by omega⟩
          obtain ⟨b', off', v, hA, _, _, hx2, hc2⟩ := hs.at_ (k := m) (by rw [HN.out]; omega)
          obtain ⟨rfl, rfl⟩ : b = b' ∧ off = off' := by injection hA with hA; injection hA with h1 h2; exact ⟨h1, h2⟩
          have HP := Lib.hid (prevL_succ hx2)
          have hpos : decide ((0 : Int) < ((m + 1 : Nat) : Int)) = true := by rw [decide_eq_true_iff]; omega
          clear hx2 hA hp
          by_cases hv : v < u
          · have hd : decide (u ≤ v) = false := by rw [decide_eq_false_iff_not]; omega
            go_wp2_with (go_at_call 48; refine (l1In_any _ _ _ true (inB_true.2 hu) _).mono ?_; rintro e w' ⟨rfl, rfl⟩)
            go_round
            case rel =>
              refine ⟨m + 1 + 1, by omega, by go_num, fun j x hj hx => ?_⟩
              by_cases e : j = m + 1
              · subst e; rw [HX.out] at hx; injection hx with hx; subst hx; exact ⟨by rw [HP.out]; exact hv, hu.2⟩
              · exact HA.out j x (by omega) hx
            case measure => simp [intOf]; omega
          · have hd : decide (u ≤ v) = true := by rw [decide_eq_true_iff]; omega
            go_wp2_with (go_at_call 48; refine (l1In_any _ _ _ true (inB_true.2 hu) _).mono ?_; rintro e w' ⟨rfl, rfl⟩)
            go_ret
            exact ⟨by rw [upB_not HX.out (by rw [HP.out]; omega)]; rfl, rfl⟩
      · have hu' : inB u 1 60 = false := by simpa using hu
        rw [inB_true] at hu
        go_wp2_with (go_at_call 48; refine (l1In_any _ _ _ false hu' _).mono ?_; rintro e w' ⟨rfl, rfl⟩)
        go_ret
        exact ⟨by rw [upB_not HX.out (by omega)]; rfl, rfl⟩
    · obtain rfl : k = n := by omega
      go_wp2
      go_ret
      refine ⟨?_, rfl⟩
      rw [upB_true.2 fun j u hj => HA.out j u (by rw [← HN.out]; exact (List.getElem?_eq_some_iff.1 hj).1) hj]
      rfl

theorem l1Rising_any (A : Option Addr) (n c : Nat) (xs : List Int) (lo hi : Nat) (w : World) (hn : xs.length = n) (hlen : n ≤ 1048576) (hs : Seg w lo hi A xs) (b : Bool) (hb : upB xs = b) :
    Calls Try.prog 62 #[.slice A n c, .int .i64 1, .int .i64 60] w fun e w' => e = .returned (.bool b) ∧ w = w' :=
  (l1Rising_ret A n c xs lo hi w hn hlen hs).mono fun _ _ ⟨he, hw⟩ => ⟨by rw [he, hb], hw⟩

set_option maxHeartbeats 400000 in
theorem rdLengths_any (A : Option Addr) (n c : Nat) (xs : List Int) (lo hi : Nat) (w : World) (hn : xs.length = n) (hlen : n ≤ 1048576) (hs : Seg w lo hi A xs) (b : Bool) (hb : lensB xs = b) :
    Calls Try.prog 49 #[.slice A n c] w fun e w' => e = .returned (.bool b) ∧ w = w' := by
  by_cases h1 : inB (n : Int) 1 4 = true
  · have h2 : upB xs = b := by rw [← hb, lensB, hn, h1, Bool.true_and]
    have HN := Lib.hid hn
    have H2 := Lib.hid h2
    clear hb hn h2
    cases b
    all_goals
      go_enter Try.func49, Try.ntmps49
      go_wp2_with (first
        | (go_at_call 48; refine (l1In_any _ _ _ true h1 _).mono ?_; rintro e w' ⟨rfl, rfl⟩)
        | (go_at_call 62; refine (l1Rising_any _ _ _ xs lo hi _ HN.out hlen hs _ H2.out).mono ?_; rintro e w' ⟨rfl, rfl⟩))
      go_ret
      exact ⟨rfl, rfl⟩
  · have h1' : inB (n : Int) 1 4 = false := by simpa using h1
    obtain rfl : b = false := by rw [← hb, lensB, hn, h1', Bool.false_and]
    clear hb h1 hn
    go_enter Try.func49, Try.ntmps49
    go_wp2_with (go_at_call 48; refine (l1In_any _ _ _ false h1' _).mono ?_; rintro e w' ⟨rfl, rfl⟩)
    go_ret
    exact ⟨rfl, rfl⟩

set_option maxHeartbeats 1000000 in
theorem implAreLengths_ret (A : Option Addr) (n c : Nat) (xs : List Int) (lo hi : Nat) (w : World) (hn : xs.length = n) (hlen : n ≤ 1048576) (hs : Seg w lo hi A xs) :
    Calls Try.prog 52 #[.slice A n c] w (RetUp (lensB xs) w) := by
  have HN := Lib.hid hn
  clear hn
  by_cases h1 : n < 1
  · have h1' : decide ((n : Int) < 1) = true := by rw [decide_eq_true_iff]; omega
    go_enter Try.func52, Try.ntmps52
    go_wp2
    go_ret
    exact ⟨by rw [lensB_n HN.out (by omega)]; rfl, rfl⟩
  have h1' : decide ((n : Int) < 1) = false := by rw [decide_eq_false_iff_not]; omega
  by_cases h2 : 4 < n
  · have h2' : decide (4 < (n : Int)) = true := by rw [decide_eq_true_iff]; omega
    go_enter Try.func52, Try.ntmps52
    go_wp2
    go_ret
    exact ⟨by rw [lensB_n HN.out (by omega)]; rfl, rfl⟩
  have h2' : decide (4 < (n : Int)) = false := by rw [decide_eq_false_iff_not]; omega
  go_enter Try.func52, Try.ntmps52
  go_wp2

  go_loop [3, 5, 16] (fun m _ i => ∃ k : Nat, k ≤ n ∧ i = .int .i64 k ∧ m = .int .i64 (prevL xs k) ∧ ∀ (j : Nat) u, j < k → xs[j]? = some u → prevL xs j < u ∧ u ≤ 60) (fun _ _ i => n - (intOf i).toNat)
  case atStart => exact ⟨0, Nat.zero_le _, rfl, rfl, fun j u hj => by omega⟩
  case round =>
    obtain ⟨k, hk, rfl, rfl, hall⟩ := hrel
    have HA := Lib.hid hall
    clear hall
    obtain ⟨p, hp⟩ : ∃ p, prevL xs k = p := ⟨_, rfl⟩
    rw [hp]
    have HP := Lib.hid hp
    clear hp
    by_cases hlt : k < n
    · obtain ⟨b, off, u, rfl, _, _, hx, hc⟩ := hs.at_ (k := k) (by rw [HN.out]; exact hlt)
      have HX := Lib.hid hx
      clear hx
      by_cases hu1 : u ≤ p
      · have hu1' : decide (u ≤ p) = true := by simpa using hu1
        go_wp2
        go_ret
        exact ⟨by rw [lensB_bad HX.out (by rw [HP.out]; omega)]; rfl, rfl⟩
      have hu1' : decide (u ≤ p) = false := by simpa using hu1
      by_cases hu2 : 60 < u
      · have hu2' : decide (60 < u) = true := by simpa using hu2
        go_wp2
        go_ret
        exact ⟨by rw [lensB_bad HX.out (by rw [HP.out]; omega)]; rfl, rfl⟩
      have hu2' : decide (60 < u) = false := by simpa using hu2
      go_wp2
      go_round
      case rel =>
        refine ⟨k + 1, by omega, by go_num, by rw [prevL_succ HX.out], fun j v hj hv => ?_⟩
        by_cases e : j = k
        · subst e; rw [HX.out] at hv; injection hv with hv; subst hv; rw [HP.out]; exact ⟨by omega, by omega⟩
        · exact HA.out j v (by omega) hv
      case measure => simp [intOf]; omega
    · obtain rfl : k = n := by omega
      go_wp2
      go_ret
      refine ⟨?_, rfl⟩
      rw [lensB_yes HN.out (by omega) (by omega) fun j u hj hu => HA.out j u hj hu]
      rfl

theorem implAreLengths_any (A : Option Addr) (n c : Nat) (xs : List Int) (lo hi : Nat) (w : World) (hn : xs.length = n) (hlen : n ≤ 1048576) (hs : Seg w lo hi A xs) (b : Bool) (hb : lensB xs = b) :
    Calls Try.prog 52 #[.slice A n c] w fun e w' => e = .returned (.bool b) ∧ w = w' :=
  (implAreLengths_ret A n c xs lo hi w hn hlen hs).mono fun _ _ ⟨he, hw⟩ => ⟨by rw [he, hb], hw⟩

end Go.Proofs.Ytoheoojpmndhoab

/-
  Both programs' tests for things: each says whether there are one to nine numbers, each from 1 to 100; nothing is written.
  Conditions: none.
-/
import Derived.Test.YtgcljhgpihpfgacGoodP
namespace Go.Proofs.Ytgcljhgpihpfgac
set_option linter.unusedVariables false
open Go.RowKit

set_option maxHeartbeats 400000 in
theorem bxGood_any (A : Option Addr) (n c : Nat) (xs : List Int) (lo hi : Nat) (w : World) (hn : xs.length = n) (hlen : n ≤ 1048576) (hs : Seg w lo hi A xs) (b : Bool) (hb : goodB xs = b) :
    Calls Try.prog 40 #[.slice A n c] w fun e w' => e = .returned (.bool b) ∧ w = w' := by
  by_cases h1 : inB (n : Int) 1 9 = true
  · have h2 : allB xs 1 100 = b := by rw [← hb, goodB, hn, h1, Bool.true_and]
    have HN := Lib.hid hn
    have H2 := Lib.hid h2
    clear hb hn h2
    cases b
    all_goals
      go_enter Try.func40, Try.ntmps40
      go_wp2_with (first
        | (go_at_call 41; refine (l1In_any _ _ _ true h1 _).mono ?_; rintro e w' ⟨rfl, rfl⟩)
        | (go_at_call 64; refine (l1All_any _ _ _ xs _ _ lo hi _ HN.out hlen hs _ H2.out).mono ?_; rintro e w' ⟨rfl, rfl⟩))
      go_ret
      exact ⟨rfl, rfl⟩
  · have h1' : inB (n : Int) 1 9 = false := by simpa using h1
    obtain rfl : b = false := by rw [← hb, goodB, hn, h1', Bool.false_and]
    clear hb h1 hn
    go_enter Try.func40, Try.ntmps40
    go_wp2_with (go_at_call 41; refine (l1In_any _ _ _ false h1' _).mono ?_; rintro e w' ⟨rfl, rfl⟩)
    go_ret
    exact ⟨rfl, rfl⟩

def RetG (xs : List Int) (w : World) (e : Ending) (w' : World) : Prop := e = .returned (.bool (goodB xs)) ∧ w = w'

set_option maxHeartbeats 400000 in
theorem implAreThings_ret (A : Option Addr) (n c : Nat) (xs : List Int) (lo hi : Nat) (w : World) (hn : xs.length = n) (hlen : n ≤ 1048576) (hs : Seg w lo hi A xs) :
    Calls Try.prog 67 #[.slice A n c] w (RetG xs w) := by
  have HN := Lib.hid hn
  clear hn
  by_cases h1 : n < 1
  · go_enter Try.func67, Try.ntmps67
    go_wp2
    go_ret
    exact ⟨by rw [goodB, HN.out, inB_false.2 (by omega)]; rfl, rfl⟩
  have h1' : decide ((n : Int) < 1) = false := by rw [decide_eq_false_iff_not]; omega
  by_cases h2 : 9 < n
  · go_enter Try.func67, Try.ntmps67
    go_wp2
    go_ret
    exact ⟨by rw [goodB, HN.out, inB_false.2 (by omega)]; rfl, rfl⟩
  have h2' : decide (9 < (n : Int)) = false := by rw [decide_eq_false_iff_not]; omega
  go_enter Try.func67, Try.ntmps67
  go_wp2
  go_loop [4, 15] (fun _ i => ∃ k : Nat, k ≤ n ∧ i = .int .i64 k ∧ ∀ j u, j < k → xs[j]? = some u → inB u 1 100 = true) (fun _ i => n - (intOf i).toNat)
  case atStart => exact ⟨0, Nat.zero_le _, rfl, fun j u hj => by omega⟩
  case round =>
    obtain ⟨k, hk, rfl, hall⟩ := hrel
    have HA := Lib.hid hall
    clear hall
    by_cases hlt : k < n
    · obtain ⟨b, off, u, rfl, _, _, hx, hc⟩ := hs.at_ (k := k) (by rw [HN.out]; exact hlt)
      have HX := Lib.hid hx
      clear hx
      by_cases hu1 : u < 1
      · go_wp2
        go_ret
        exact ⟨by rw [goodB, allB_not HX.out (inB_false.2 (by omega)), Bool.and_false]; rfl, rfl⟩
      have hu1' : decide (u < 1) = false := by simpa using hu1
      by_cases hu2 : 100 < u
      · go_wp2
        go_ret
        exact ⟨by rw [goodB, allB_not HX.out (inB_false.2 (by omega)), Bool.and_false]; rfl, rfl⟩
      have hu2' : decide (100 < u) = false := by simpa using hu2
      go_wp2
      go_round
      case rel =>
        refine ⟨k + 1, by omega, by go_num, fun j v hj hv => ?_⟩
        by_cases e : j = k
        · subst e; rw [HX.out] at hv; injection hv with hv; subst hv; exact inB_true.2 (by omega)
        · exact HA.out j v (by omega) hv
      case measure => simp [intOf]; omega
    · obtain rfl : k = n := by omega
      go_wp2
      go_ret
      refine ⟨?_, rfl⟩
      rw [goodB, HN.out, inB_true.2 (by omega), allB_of fun j u hj => HA.out j u (by rw [← HN.out]; exact (List.getElem?_eq_some_iff.1 hj).1) hj]
      rfl

theorem implAreThings_any (A : Option Addr) (n c : Nat) (xs : List Int) (lo hi : Nat) (w : World) (hn : xs.length = n) (hlen : n ≤ 1048576) (hs : Seg w lo hi A xs) (b : Bool) (hb : goodB xs = b) :
    Calls Try.prog 67 #[.slice A n c] w fun e w' => e = .returned (.bool b) ∧ w = w' :=
  (implAreThings_ret A n c xs lo hi w hn hlen hs).mono fun _ _ ⟨he, hw⟩ => ⟨by rw [he, hb], hw⟩
end Go.Proofs.Ytgcljhgpihpfgac

/-
  Both programs' tests for counts; nothing is written.
  Conditions: the list has at most 1048576 numbers.
-/
import Derived.Test.YtjpejhpilfjheabMinMax
namespace Go.Proofs.Ytjpejhpilfjheab
set_option linter.unusedVariables false
open Go.RowKit

set_option maxHeartbeats 400000 in
theorem areCounts_any (A : Option Addr) (n c : Nat) (xs : List Int) (lo hi : Nat) (w : World) (hn : xs.length = n) (hlen : n ≤ 1048576) (hs : Seg w lo hi A xs) (b : Bool) (hb : someB 4 6 xs = b) :
    Calls Try.prog 39 #[.slice A n c] w fun e w' => e = .returned (.bool b) ∧ w = w' := by
  have HN := Lib.hid hn
  by_cases h1 : n < 1
  · obtain rfl : b = false := by rw [← hb, someB, hn, inB_false.2 (by omega), Bool.false_and]
    clear hn hb
    have g1 : decide (1 ≤ (n : Int)) = false := by rw [decide_eq_false_iff_not]; omega
    go_enter Try.func39, Try.ntmps39
    go_wp2
    go_ret
    exact ⟨rfl, rfl⟩
  have g1 : decide (1 ≤ (n : Int)) = true := by rw [decide_eq_true_iff]; omega
  by_cases h2 : 4 < n
  · obtain rfl : b = false := by rw [← hb, someB, hn, inB_false.2 (by omega), Bool.false_and]
    clear hn hb
    have g2 : decide ((n : Int) ≤ 4) = false := by rw [decide_eq_false_iff_not]; omega
    go_enter Try.func39, Try.ntmps39
    go_wp2
    go_ret
    exact ⟨rfl, rfl⟩
  have g2 : decide ((n : Int) ≤ 4) = true := by rw [decide_eq_true_iff]; omega
  obtain ⟨u0, hu⟩ : ∃ u0, xs[0]? = some u0 := ⟨xs[0], List.getElem?_eq_getElem (by omega)⟩
  obtain ⟨mn, hmn⟩ : ∃ mn, xs.foldl min u0 = mn := ⟨_, rfl⟩
  obtain ⟨mx, hmx⟩ : ∃ mx, xs.foldl max u0 = mx := ⟨_, rfl⟩
  have hb2 : (decide (0 ≤ mn) && decide (mx ≤ 6)) = b := by
    rw [← hb, someB, hn, inB_true.2 (by omega), Bool.true_and, allB_fold hu, hmn, hmx]
  have HU := Lib.hid hu
  have HMN := Lib.hid hmn
  have HMX := Lib.hid hmx
  have hn1 : 1 ≤ n := by omega
  clear hn hb hu hmn hmx
  by_cases h3 : 0 ≤ mn
  · by_cases h4 : mx ≤ 6
    · have g3 : decide (0 ≤ mn) = true := by simpa using h3
      have g4 : decide (mx ≤ 6) = true := by simpa using h4
      obtain rfl : b = true := by rw [← hb2, g3, g4]; rfl
      clear hb2
      go_enter Try.func39, Try.ntmps39
      go_wp2_with (first
        | (go_at_call 41; refine (slicesMin_any _ _ _ xs u0 lo hi _ HN.out hlen hs hn1 HU.out).mono ?_; rw [HMN.out]; rintro e w' ⟨rfl, rfl⟩)
        | (go_at_call 75; refine (slicesMaxA_any _ _ _ xs u0 lo hi _ HN.out hlen hs hn1 HU.out).mono ?_; rw [HMX.out]; rintro e w' ⟨rfl, rfl⟩))
      go_ret
      exact ⟨rfl, rfl⟩
    · have g3 : decide (0 ≤ mn) = true := by simpa using h3
      have g4 : decide (mx ≤ 6) = false := by simpa using h4
      obtain rfl : b = false := by rw [← hb2, g3, g4]; rfl
      clear hb2
      go_enter Try.func39, Try.ntmps39
      go_wp2_with (first
        | (go_at_call 41; refine (slicesMin_any _ _ _ xs u0 lo hi _ HN.out hlen hs hn1 HU.out).mono ?_; rw [HMN.out]; rintro e w' ⟨rfl, rfl⟩)
        | (go_at_call 75; refine (slicesMaxA_any _ _ _ xs u0 lo hi _ HN.out hlen hs hn1 HU.out).mono ?_; rw [HMX.out]; rintro e w' ⟨rfl, rfl⟩))
      go_ret
      exact ⟨rfl, rfl⟩
  · have g3 : decide (0 ≤ mn) = false := by simpa using h3
    obtain rfl : b = false := by rw [← hb2, g3]; rfl
    clear hb2
    go_enter Try.func39, Try.ntmps39
    go_wp2_with (go_at_call 41; refine (slicesMin_any _ _ _ xs u0 lo hi _ HN.out hlen hs hn1 HU.out).mono ?_; rw [HMN.out]; rintro e w' ⟨rfl, rfl⟩)
    go_ret
    exact ⟨rfl, rfl⟩

set_option maxHeartbeats 400000 in
theorem rdCounts_any (A : Option Addr) (n c : Nat) (xs : List Int) (lo hi : Nat) (w : World) (hn : xs.length = n) (hlen : n ≤ 1048576) (hs : Seg w lo hi A xs) (b : Bool) (hb : someB 4 6 xs = b) :
    Calls Try.prog 36 #[.slice A n c] w fun e w' => e = .returned (.bool b) ∧ w = w' := by
  by_cases h1 : inB (n : Int) 1 4 = true
  · have h2 : allB xs 0 6 = b := by rw [← hb, someB, hn, h1, Bool.true_and]
    have HN := Lib.hid hn
    have H2 := Lib.hid h2
    clear hb hn h2
    cases b
    all_goals
      go_enter Try.func36, Try.ntmps36
      go_wp2_with (first
        | (go_at_call 74; refine (l1In_any _ _ _ true h1 _).mono ?_; rintro e w' ⟨rfl, rfl⟩)
        | (go_at_call 38; refine (l1All_any _ _ _ xs _ _ lo hi _ HN.out hlen hs _ H2.out).mono ?_; rintro e w' ⟨rfl, rfl⟩))
      go_ret
      exact ⟨rfl, rfl⟩
  · have h1' : inB (n : Int) 1 4 = false := by simpa using h1
    obtain rfl : b = false := by rw [← hb, someB, hn, h1', Bool.false_and]
    clear hb h1 hn
    go_enter Try.func36, Try.ntmps36
    go_wp2_with (go_at_call 74; refine (l1In_any _ _ _ false h1' _).mono ?_; rintro e w' ⟨rfl, rfl⟩)
    go_ret
    exact ⟨rfl, rfl⟩
end Go.Proofs.Ytjpejhpilfjheab

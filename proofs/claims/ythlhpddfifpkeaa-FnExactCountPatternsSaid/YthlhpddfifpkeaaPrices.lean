/-
  Both programs' tests for prices; nothing is written.
  Conditions: the list has at most 1048576 numbers.
-/
import Derived.Test.YthlhpddfifpkeaaMinMax
namespace Go.Proofs.Ythlhpddfifpkeaa
set_option linter.unusedVariables false
open Go.RowKit

set_option maxHeartbeats 400000 in
theorem arePrices_any (A : Option Addr) (n c : Nat) (xs : List Int) (lo hi : Nat) (w : World) (hn : xs.length = n) (hlen : n ≤ 1048576) (hs : Seg w lo hi A xs) (b : Bool) (hb : someB 60 1000 xs = b) :
    Calls Try.prog 73 #[.slice A n c] w fun e w' => e = .returned (.bool b) ∧ w = w' := by
  have HN := Lib.hid hn
  by_cases h1 : n < 1
  · obtain rfl : b = false := by rw [← hb, someB, hn, inB_false.2 (by omega), Bool.false_and]
    clear hn hb
    have g1 : decide (1 ≤ (n : Int)) = false := by rw [decide_eq_false_iff_not]; omega
    go_enter Try.func73, Try.ntmps73
    go_wp2
    go_ret
    exact ⟨rfl, rfl⟩
  have g1 : decide (1 ≤ (n : Int)) = true := by rw [decide_eq_true_iff]; omega
  by_cases h2 : 60 < n
  · obtain rfl : b = false := by rw [← hb, someB, hn, inB_false.2 (by omega), Bool.false_and]
    clear hn hb
    have g2 : decide ((n : Int) ≤ 60) = false := by rw [decide_eq_false_iff_not]; omega
    go_enter Try.func73, Try.ntmps73
    go_wp2
    go_ret
    exact ⟨rfl, rfl⟩
  have g2 : decide ((n : Int) ≤ 60) = true := by rw [decide_eq_true_iff]; omega
  obtain ⟨u0, hu⟩ : ∃ u0, xs[0]? = some u0 := ⟨xs[0], List.getElem?_eq_getElem (by omega)⟩
  obtain ⟨mn, hmn⟩ : ∃ mn, xs.foldl min u0 = mn := ⟨_, rfl⟩
  obtain ⟨mx, hmx⟩ : ∃ mx, xs.foldl max u0 = mx := ⟨_, rfl⟩
  have hb2 : (decide (0 ≤ mn) && decide (mx ≤ 1000)) = b := by
    rw [← hb, someB, hn, inB_true.2 (by omega), Bool.true_and, allB_fold hu, hmn, hmx]
  have HU := Lib.hid hu
  have HMN := Lib.hid hmn
  have HMX := Lib.hid hmx
  have hn1 : 1 ≤ n := by omega
  clear hn hb hu hmn hmx
  by_cases h3 : 0 ≤ mn
  · by_cases h4 : mx ≤ 1000
    · have g3 : decide (0 ≤ mn) = true := by simpa using h3
      have g4 : decide (mx ≤ 1000) = true := by simpa using h4
      obtain rfl : b = true := by rw [← hb2, g3, g4]; rfl
      clear hb2
      go_enter Try.func73, Try.ntmps73
      go_wp2_with (first
        | (go_at_call 71; refine (slicesMin_any _ _ _ xs u0 lo hi _ HN.out hlen hs hn1 HU.out).mono ?_; rw [HMN.out]; rintro e w' ⟨rfl, rfl⟩)
        | (go_at_call 79; refine (slicesMaxA_any _ _ _ xs u0 lo hi _ HN.out hlen hs hn1 HU.out).mono ?_; rw [HMX.out]; rintro e w' ⟨rfl, rfl⟩))
      go_ret
      exact ⟨rfl, rfl⟩
    · have g3 : decide (0 ≤ mn) = true := by simpa using h3
      have g4 : decide (mx ≤ 1000) = false := by simpa using h4
      obtain rfl : b = false := by rw [← hb2, g3, g4]; rfl
      clear hb2
      go_enter Try.func73, Try.ntmps73
      go_wp2_with (first
        | (go_at_call 71; refine (slicesMin_any _ _ _ xs u0 lo hi _ HN.out hlen hs hn1 HU.out).mono ?_; rw [HMN.out]; rintro e w' ⟨rfl, rfl⟩)
        | (go_at_call 79; refine (slicesMaxA_any _ _ _ xs u0 lo hi _ HN.out hlen hs hn1 HU.out).mono ?_; rw [HMX.out]; rintro e w' ⟨rfl, rfl⟩))
      go_ret
      exact ⟨rfl, rfl⟩
  · have g3 : decide (0 ≤ mn) = false := by simpa using h3
    obtain rfl : b = false := by rw [← hb2, g3]; rfl
    clear hb2
    go_enter Try.func73, Try.ntmps73
    go_wp2_with (go_at_call 71; refine (slicesMin_any _ _ _ xs u0 lo hi _ HN.out hlen hs hn1 HU.out).mono ?_; rw [HMN.out]; rintro e w' ⟨rfl, rfl⟩)
    go_ret
    exact ⟨rfl, rfl⟩

def cutB (xs : List Int) (rod : Int) : Bool := someB 60 1000 xs && inB rod 1 60

set_option maxHeartbeats 400000 in
theorem rdPrices_any (A : Option Addr) (n c : Nat) (xs : List Int) (rod : Int) (lo hi : Nat) (w : World) (hn : xs.length = n) (hlen : n ≤ 1048576) (hs : Seg w lo hi A xs) (b : Bool) (hb : cutB xs rod = b) :
    Calls Try.prog 72 #[.slice A n c, .int .i64 rod] w fun e w' => e = .returned (.bool b) ∧ w = w' := by
  by_cases h1 : inB (n : Int) 1 60 = true
  · by_cases h2 : allB xs 0 1000 = true
    · have h3 : inB rod 1 60 = b := by rw [← hb, cutB, someB, hn, h1, h2, Bool.true_and, Bool.true_and]
      have HN := Lib.hid hn
      have H2 := Lib.hid h2
      have H3 := Lib.hid h3
      clear hb hn h2 h3
      cases b
      all_goals
        go_enter Try.func72, Try.ntmps72
        go_wp2_with fail
        refine (l1In_any _ _ _ true h1 _).mono ?_; rintro e w' ⟨rfl, rfl⟩
        go_wp2_with fail
        refine (l1All_any _ _ _ xs _ _ lo hi _ HN.out hlen hs _ H2.out).mono ?_; rintro e w' ⟨rfl, rfl⟩
        go_wp2_with fail
        refine (l1In_any _ _ _ _ H3.out _).mono ?_; rintro e w' ⟨rfl, rfl⟩
        go_wp2
        go_ret
        exact ⟨rfl, rfl⟩
    · have h2' : allB xs 0 1000 = false := by simpa using h2
      obtain rfl : b = false := by rw [← hb, cutB, someB, h2', Bool.and_false, Bool.false_and]
      have HN := Lib.hid hn
      have H2 := Lib.hid h2'
      clear hb hn h2 h2'
      go_enter Try.func72, Try.ntmps72
      go_wp2_with (first
        | (go_at_call 77; refine (l1In_any _ _ _ true h1 _).mono ?_; rintro e w' ⟨rfl, rfl⟩)
        | (go_at_call 69; refine (l1All_any _ _ _ xs _ _ lo hi _ HN.out hlen hs _ H2.out).mono ?_; rintro e w' ⟨rfl, rfl⟩))
      go_ret
      exact ⟨rfl, rfl⟩
  · have h1' : inB (n : Int) 1 60 = false := by simpa using h1
    obtain rfl : b = false := by rw [← hb, cutB, someB, hn, h1', Bool.false_and, Bool.false_and]
    clear hb h1 hn
    go_enter Try.func72, Try.ntmps72
    go_wp2_with (go_at_call 77; refine (l1In_any _ _ _ false h1' _).mono ?_; rintro e w' ⟨rfl, rfl⟩)
    go_ret
    exact ⟨rfl, rfl⟩

theorem isRod_any (rod : Int) (w : World) (b : Bool) (hb : inB rod 1 60 = b) :
    Calls Try.prog 75 #[.int .i64 rod] w fun e w' => e = .returned (.bool b) ∧ w = w' := by
  by_cases h1 : 1 ≤ rod
  · have g1 : decide (1 ≤ rod) = true := by simpa using h1
    by_cases h2 : rod ≤ 60
    · have g2 : decide (rod ≤ 60) = true := by simpa using h2
      obtain rfl : b = true := by rw [← hb, inB_true]; exact ⟨h1, h2⟩
      clear hb
      go_enter Try.func75, Try.ntmps75
      go_wp2
      go_ret
      exact ⟨rfl, rfl⟩
    · have g2 : decide (rod ≤ 60) = false := by simpa using h2
      obtain rfl : b = false := by rw [← hb, inB_false]; omega
      clear hb
      go_enter Try.func75, Try.ntmps75
      go_wp2
      go_ret
      exact ⟨rfl, rfl⟩
  · have g1 : decide (1 ≤ rod) = false := by simpa using h1
    obtain rfl : b = false := by rw [← hb, inB_false]; omega
    clear hb
    go_enter Try.func75, Try.ntmps75
    go_wp2
    go_ret
    exact ⟨rfl, rfl⟩
end Go.Proofs.Ythlhpddfifpkeaa

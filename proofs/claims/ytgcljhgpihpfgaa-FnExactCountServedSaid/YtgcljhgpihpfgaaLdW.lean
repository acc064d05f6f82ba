/-
  Both programs count the served tours of so many boxes.
  Conditions: none.
-/
import Derived.Test.YtgcljhgpihpfgaaLdM
namespace Go.Proofs.Ytgcljhgpihpfgaa
set_option linter.unusedVariables false
open Go.RowKit

theorem wrapN {a : Int} (n : Nat) (h : a = n) (hn : n ≤ 4000000000) : wrap64 a = (n : Int) := by
  unfold wrap64; omega

theorem ways_any : ∀ (l o : Nat), l + o ≤ 8 → ∀ (a b : Int), a = l → b = o → ∀ (w : World),
    Calls Try.prog 39 #[.int .i64 a, .int .i64 b] w fun e w' => e = .returned (.int .i64 ((waysW l o : Nat) : Int)) ∧ w = w' := by
  intro l
  induction l with
  | zero =>
    intro o h a b ha hb w
    have a0 : (a == 0) = true := by simp; omega
    clear ha hb
    go_enter Try.func39, Try.ntmps39
    go_wp2
    go_ret
    exact ⟨by simp [waysW], rfl⟩
  | succ l ih =>
    intro o
    induction o with
    | zero =>
      intro h a b ha hb w
      have h1 := ih 1 (by omega) (wrap64 (a - 1)) (wrap64 (b + 1)) (wrapN l (by omega) (by omega)) (wrapN 1 (by omega) (by omega))
      have hx1 := waysW_bd l (by omega) 1 (by omega)
      have hv : waysW (l + 1) 0 = (l + 1) * waysW l 1 := rfl
      have hm : (l + 1) * waysW l 1 ≤ 8 * 100000000 := Nat.mul_le_mul (by omega) hx1
      have hr : wrap64 (a * ((waysW l 1 : Nat) : Int)) = ((waysW (l + 1) 0 : Nat) : Int) := wrapN _ (by rw [ha, hv]; push_cast; rfl) (by rw [hv]; omega)
      have a0 : (a == 0) = false := by simp; omega
      have b0 : decide (b > 0) = false := by simp; omega
      generalize waysW l 1 = x at *
      generalize waysW (l + 1) 0 = y at *
      have H1 := Lib.hid h1
      have HR := Lib.hid hr
      clear ih ha hb hv h1 hm hr hx1
      go_enter Try.func39, Try.ntmps39
      go_wp2_with fail
      refine (H1.out _).mono ?_
      rintro e w1 ⟨rfl, rfl⟩
      go_wp2
      go_ret
      exact ⟨by rw [HR.out]; rfl, rfl⟩
    | succ o iho =>
      intro h a b ha hb w
      have h1 := ih (o + 2) (by omega) (wrap64 (a - 1)) (wrap64 (b + 1)) (wrapN l (by omega) (by omega)) (wrapN (o + 2) (by omega) (by omega))
      have h2 := iho (by omega) a (wrap64 (b - 1)) ha (wrapN o (by omega) (by omega))
      have hx1 := waysW_bd l (by omega) (o + 2) (by omega)
      have hx2 := waysW_bd (l + 1) (by omega) o (by omega)
      have hv : waysW (l + 1) (o + 1) = (l + 1) * waysW l (o + 2) + waysW (l + 1) o := rfl
      have hm : (l + 1) * waysW l (o + 2) ≤ 8 * 100000000 := Nat.mul_le_mul (by omega) hx1
      have hr : wrap64 (a * ((waysW l (o + 2) : Nat) : Int)) = (((l + 1) * waysW l (o + 2) : Nat) : Int) := wrapN _ (by rw [ha]; push_cast; rfl) (by omega)
      have hs : wrap64 ((((l + 1) * waysW l (o + 2) : Nat) : Int) + ((waysW (l + 1) o : Nat) : Int)) = ((waysW (l + 1) (o + 1) : Nat) : Int) := wrapN _ (by rw [hv]; push_cast; rfl) (by rw [hv]; omega)
      have a0 : (a == 0) = false := by simp; omega
      have b0 : decide (b > 0) = true := by simp; omega
      generalize (l + 1) * waysW l (o + 2) = u at *
      generalize waysW l (o + 2) = x at *
      generalize waysW (l + 1) (o + 1) = y at *
      generalize waysW (l + 1) o = z at *
      have H1 := Lib.hid h1
      have H2 := Lib.hid h2
      have HR := Lib.hid hr
      have HS := Lib.hid hs
      clear ih iho ha hb hv h1 h2 hm hr hs hx1 hx2
      go_enter Try.func39, Try.ntmps39
      go_wp2_with fail
      refine (H1.out _).mono ?_
      rintro e w1 ⟨rfl, rfl⟩
      go_wp2_with fail
      refine (H2.out _).mono ?_
      rintro e w1 ⟨rfl, rfl⟩
      go_wp2
      go_ret
      exact ⟨by rw [HR.out, HS.out]; rfl, rfl⟩

theorem isNumber_any (a : Int) (q : Bool) (hq : inB a 0 8 = q) (w : World) :
    Calls Try.prog 38 #[.int .i64 a] w fun e w' => e = .returned (.bool q) ∧ w = w' := by
  cases q
  · rw [inB_false] at hq
    by_cases h1 : 0 ≤ a
    · have d1 : decide (a ≥ 0) = true := by simp; omega
      have d2 : decide (a ≤ 8) = false := by simp; omega
      clear hq
      go_enter Try.func38, Try.ntmps38
      go_wp2
      go_ret
      exact ⟨rfl, rfl⟩
    · have d1 : decide (a ≥ 0) = false := by simp; omega
      clear hq
      go_enter Try.func38, Try.ntmps38
      go_wp2
      go_ret
      exact ⟨rfl, rfl⟩
  · rw [inB_true] at hq
    have d1 : decide (a ≥ 0) = true := by simp; omega
    have d2 : decide (a ≤ 8) = true := by simp; omega
    clear hq
    go_enter Try.func38, Try.ntmps38
    go_wp2
    go_ret
    exact ⟨rfl, rfl⟩

theorem impl_CountServed (a : Int) (q : Bool) (w : World) (hq : inB a 0 8 = q) (v : Int) (hv : ((waysW a.toNat 0 : Nat) : Int) = v) :
    Calls Try.prog 14 #[.int .i64 a] w fun e w' => e = .returned (.tuple #[.int .i64 (if q then v else 0), .bool q]) ∧ Below w.heap.size w w' := by
  have HC := Lib.hid (isNumber_any a q hq w)
  have HW := Lib.hid (fun h : inB a 0 8 = true => ways_any a.toNat 0 (by have := inB_true.1 h; omega) a 0 (by have := inB_true.1 h; omega) rfl w)
  have HQ := Lib.hid hq
  have HV := Lib.hid hv
  clear hq hv
  cases q
  · go_enter Try.func14, Try.ntmps14
    go_wp2_with fail
    refine HC.out.mono ?_
    rintro e w1 ⟨rfl, rfl⟩
    go_wp2
    go_ret2
    exact ⟨rfl, Below.refl _ _⟩
  · go_enter Try.func14, Try.ntmps14
    go_wp2_with fail
    refine HC.out.mono ?_
    rintro e w1 ⟨rfl, rfl⟩
    go_wp2_with fail
    refine (HW.out HQ.out).mono ?_
    rintro e w1 ⟨rfl, rfl⟩
    go_wp2
    go_ret2
    exact ⟨by rw [HV.out]; rfl, Below.refl _ _⟩

set_option maxHeartbeats 1000000 in
theorem spec_CountServed (a : Int) (q : Bool) (w : World) (hq : inB a 0 8 = q) (v : Int) (hv : ((waysW a.toNat 0 : Nat) : Int) = v) :
    Calls Try.prog 13 #[.int .i64 a] w fun e w' => e = .returned (.tuple #[.int .i64 (if q then v else 0), .bool q]) ∧ Below w.heap.size w w' := by
  have HC := Lib.hid (l1In_any a 0 8 q hq w)
  have HQ := Lib.hid hq
  have HV := Lib.hid hv
  clear hq hv
  cases q
  · go_enter Try.func13, Try.ntmps13
    go_wp2_with fail
    refine HC.out.mono ?_
    rintro e w1 ⟨rfl, rfl⟩
    go_wp2
    go_ret2
    exact ⟨rfl, Below.refl _ _⟩
  · obtain ⟨n, rfl⟩ : ∃ n : Nat, a = n := ⟨a.toNat, by have := inB_true.1 HQ.out; omega⟩
    have hn : n ≤ 8 := by have := inB_true.1 HQ.out; omega
    go_enter Try.func13, Try.ntmps13
    go_wp2_with fail
    refine HC.out.mono ?_
    rintro e w1 ⟨rfl, rfl⟩
    go_wp2
    go_loopw [4, 5] (fun o i wr => ∃ k : Nat, k ≤ n ∧ i = .int .i64 ((k : Int) + 1) ∧ o = .int .i64 (prodW k : Nat) ∧ wr = w) (fun _ i _ => 9 - (intOf i).toNat)
    case atStart => exact ⟨0, Nat.zero_le _, rfl, rfl, rfl⟩
    case round =>
      obtain ⟨k, hk, rfl, rfl, rfl⟩ := hrel
      have hb := prodW_bd k (by omega)
      by_cases hlt : k < n
      · have hstep : prodW (k + 1) = prodW k * (4 * (k + 1) - 2) := rfl
        have hb2 := prodW_bd (k + 1) (by omega)
        have hm : wrap64 (((prodW k : Nat) : Int) * (4 * ((k : Int) + 1) - 2)) = ((prodW (k + 1) : Nat) : Int) :=
          wrapN _ (by rw [hstep, Int.natCast_mul]; congr 1; omega) (by omega)
        have HM := Lib.hid hm
        have d1 : decide (((k : Int) + 1) ≤ (n : Int)) = true := by simp; omega
        generalize hy : prodW (k + 1) = y at *
        have HY := Lib.hid hy
        clear hm hstep hy
        generalize hx : prodW k = x at *
        clear hx
        go_wp2
        go_roundw
        case rel => exact ⟨k + 1, by omega, by first | go_num | (push_cast; go_num), by rw [HM.out, HY.out], by first | rfl | trivial⟩
        case measure => simp [intOf]; omega
      · obtain rfl : k = n := by omega
        have d1 : decide (((k : Int) + 1) ≤ (k : Int)) = false := by simp; omega
        have hs : wrap64 (((prodW k : Nat) : Int) / ((k : Int) + 1)) = v := by
          have h1 : ((prodW k : Nat) : Int) / ((k : Int) + 1) = ((prodW k / (k + 1) : Nat) : Int) := by rw [Int.natCast_ediv]; rfl
          have h2 := waysW_bd k (by omega) 0 (by omega)
          rw [wrapN _ (h1.trans (by rw [ways_same k (by omega)])) (by omega), ← HV.out]; rfl
        have HS := Lib.hid hs
        clear hs
        go_wp2
        go_ret2
        exact ⟨by rw [HS.out]; rfl, Below.refl _ _⟩
end Go.Proofs.Ytgcljhgpihpfgaa

/-
  The written program's small functions on boards and pieces.
  Conditions: none.
-/
import Derived.Test.YtjpejhpilfjheaaBdM
import Derived.Test.YtjpejhpilfjheaaMem
import Derived.Test.YtjpejhpilfjheaaTriM
import Derived.Deep.RegionHeld3
import Derived.Laws.StructEq
namespace Go.Proofs.Ytjpejhpilfjheaa
set_option linter.unusedVariables false
open Go.RowKit

def bdB (x y : Int) : Bool := inB x 1 24 && inB y 1 24
theorem bdB_true {x y : Int} : bdB x y = true ↔ (1 ≤ x ∧ x ≤ 24) ∧ 1 ≤ y ∧ y ≤ 24 := by simp [bdB, inB_true]
theorem bdB_nat {x y : Int} (h : bdB x y = true) : ∃ a b : Nat, x = (a : Int) ∧ y = (b : Int) ∧ (1 ≤ a ∧ a ≤ 24) ∧ 1 ≤ b ∧ b ≤ 24 := by
  have := bdB_true.1 h
  exact ⟨x.toNat, y.toNat, by omega, by omega, by omega, by omega⟩
def pcB (p : Int × Int × Int) : Bool := bdB p.1 p.2.1 && inB p.2.2 0 1000
theorem pcB_true {p : Int × Int × Int} : pcB p = true ↔ ((1 ≤ p.1 ∧ p.1 ≤ 24) ∧ 1 ≤ p.2.1 ∧ p.2.1 ≤ 24) ∧ 0 ≤ p.2.2 ∧ p.2.2 ≤ 1000 := by simp [pcB, bdB_true, inB_true]
def goodPc (ps : List (Int × Int × Int)) : Bool := inB (ps.length : Int) 1 4 && ps.all pcB
theorem goodPc_at {ps : List (Int × Int × Int)} (h : goodPc ps = true) : 1 ≤ ps.length ∧ ps.length ≤ 4 ∧ ∀ p ∈ ps, pcB p = true := by
  simp only [goodPc, Bool.and_eq_true, inB_true, List.all_eq_true] at h
  exact ⟨by omega, by omega, h.2⟩
theorem goodPc_vals {ps : List (Int × Int × Int)} (h : goodPc ps = true) : ∀ p ∈ ps, 0 ≤ p.2.2 ∧ p.2.2 ≤ 1000 := fun p hp => (pcB_true.1 ((goodPc_at h).2.2 p hp)).2

theorem brd_eql (a b c d : Int) (w : World) : (binOp .eql 55 (.agg #[.int .i64 a, .int .i64 b]) (.agg #[.int .i64 c, .int .i64 d])).run Try.prog w = .ok (.bool (a == c && b == d)) w := by
  have u3 := Try.underlying3
  have a3 := Try.isAgg3
  have z3 := Try.sizeOf3
  rw [run_eql_struct, show (10000 : Nat) = 9999 + 1 from rfl, Op.equalIn]
  simp only [Sem.run_bind, run_underlying Try.underlying55, Result.andThen_ok]
  simp only [Std.Legacy.Range.forIn_eq_forIn_range', Std.Legacy.Range.size, Nat.sub_zero, Nat.add_sub_cancel, Nat.div_one, List.range'_succ, List.range'_zero, List.forIn_cons, List.forIn_nil]
  go_simp
  by_cases h1 : a = c <;> by_cases h2 : b = d <;> simp [h1, h2]

theorem isBoard_any (a b : Int) (w : World) (q : Bool) (hq : bdB a b = q) :
    Calls Try.prog 46 #[.agg #[.int .i64 a, .int .i64 b]] w fun e w' => e = .returned (.bool q) ∧ Below w.heap.size w w' := by
  have hb0 := (Below.refl w.heap.size w).alloc (Nat.le_refl _) (.cells #[.int .i64 a, .int .i64 b] 55)
  rcases Int.lt_trichotomy a b with hab | hab | hab
  · have hab1 : a ≤ b := by omega
    have hba1 : ¬ b ≤ a := by omega
    have hba2 : ¬ b < a := by omega
    by_cases h1 : 1 ≤ a
    · by_cases h2 : b ≤ 24
      · have h2' : decide (b ≤ 24) = true := decide_eq_true h2
        have h1' : decide (1 ≤ a) = true := decide_eq_true h1
        obtain rfl : q = true := by rw [← hq]; exact bdB_true.2 (by omega)
        clear hq
        go_enter Try.func46, Try.ntmps46
        go_wp2
        go_ret
        exact ⟨rfl, hb0⟩
      · have h2' : decide (b ≤ 24) = false := decide_eq_false h2
        have h1' : decide (1 ≤ a) = true := decide_eq_true h1
        obtain rfl : q = false := by rw [← hq, Bool.eq_false_iff]; intro h; have := bdB_true.1 h; omega
        clear hq
        go_enter Try.func46, Try.ntmps46
        go_wp2
        go_ret
        exact ⟨rfl, hb0⟩
    · have h1' : decide (1 ≤ a) = false := decide_eq_false h1
      obtain rfl : q = false := by rw [← hq, Bool.eq_false_iff]; intro h; have := bdB_true.1 h; omega
      clear hq
      go_enter Try.func46, Try.ntmps46
      go_wp2
      go_ret
      exact ⟨rfl, hb0⟩
  · subst hab
    by_cases h1 : 1 ≤ a
    · by_cases h2 : a ≤ 24
      · have h2' : decide (a ≤ 24) = true := decide_eq_true h2
        have h1' : decide (1 ≤ a) = true := decide_eq_true h1
        obtain rfl : q = true := by rw [← hq]; exact bdB_true.2 (by omega)
        clear hq
        go_enter Try.func46, Try.ntmps46
        go_wp2
        go_ret
        exact ⟨rfl, hb0⟩
      · have h2' : decide (a ≤ 24) = false := decide_eq_false h2
        have h1' : decide (1 ≤ a) = true := decide_eq_true h1
        obtain rfl : q = false := by rw [← hq, Bool.eq_false_iff]; intro h; have := bdB_true.1 h; omega
        clear hq
        go_enter Try.func46, Try.ntmps46
        go_wp2
        go_ret
        exact ⟨rfl, hb0⟩
    · have h1' : decide (1 ≤ a) = false := decide_eq_false h1
      obtain rfl : q = false := by rw [← hq, Bool.eq_false_iff]; intro h; have := bdB_true.1 h; omega
      clear hq
      go_enter Try.func46, Try.ntmps46
      go_wp2
      go_ret
      exact ⟨rfl, hb0⟩
  · have hab1 : b ≤ a := by omega
    have hba1 : ¬ a ≤ b := by omega
    have hba2 : ¬ a < b := by omega
    by_cases h1 : 1 ≤ b
    · by_cases h2 : a ≤ 24
      · have h2' : decide (a ≤ 24) = true := decide_eq_true h2
        have h1' : decide (1 ≤ b) = true := decide_eq_true h1
        obtain rfl : q = true := by rw [← hq]; exact bdB_true.2 (by omega)
        clear hq
        go_enter Try.func46, Try.ntmps46
        go_wp2
        go_ret
        exact ⟨rfl, hb0⟩
      · have h2' : decide (a ≤ 24) = false := decide_eq_false h2
        have h1' : decide (1 ≤ b) = true := decide_eq_true h1
        obtain rfl : q = false := by rw [← hq, Bool.eq_false_iff]; intro h; have := bdB_true.1 h; omega
        clear hq
        go_enter Try.func46, Try.ntmps46
        go_wp2
        go_ret
        exact ⟨rfl, hb0⟩
    · have h1' : decide (1 ≤ b) = false := decide_eq_false h1
      obtain rfl : q = false := by rw [← hq, Bool.eq_false_iff]; intro h; have := bdB_true.1 h; omega
      clear hq
      go_enter Try.func46, Try.ntmps46
      go_wp2
      go_ret
      exact ⟨rfl, hb0⟩

theorem area_any (a b : Nat) (ha : a ≤ 24) (hb : b ≤ 24) (w : World) :
    Calls Try.prog 40 #[.agg #[.int .i64 (a : Int), .int .i64 (b : Int)]] w fun e w' => e = .returned (.int .i64 ((a * b : Nat) : Int)) ∧ Below w.heap.size w w' := by
  have hb0 := (Below.refl w.heap.size w).alloc (Nat.le_refl _) (.cells #[.int .i64 (a : Int), .int .i64 (b : Int)] 55)
  have hle : a * b ≤ 24 * 24 := Nat.mul_le_mul ha hb
  obtain ⟨v, hv⟩ : ∃ v : Nat, a * b = v := ⟨_, rfl⟩
  have hmul : (a : Int) * (b : Int) = (v : Int) := by rw [← hv]; push_cast; rfl
  have hw : IntKind.i64.wrap (v : Int) = (v : Int) := by rw [IntKind.wrap_i64]; omega
  rw [hv]
  clear hv hle
  go_enter Try.func40, Try.ntmps40
  go_wp2
  go_ret
  exact ⟨rfl, hb0⟩

theorem isSquare_any (a b : Nat) (w : World) (q : Bool) (hq : decide (a = b) = q) :
    Calls Try.prog 49 #[.agg #[.int .i64 (a : Int), .int .i64 (b : Int)]] w fun e w' => e = .returned (.bool q) ∧ Below w.heap.size w w' := by
  have hb0 := (Below.refl w.heap.size w).alloc (Nat.le_refl _) (.cells #[.int .i64 (a : Int), .int .i64 (b : Int)] 55)
  have he : ((a : Int) == (b : Int)) = q := by rw [← hq]; by_cases h : a = b <;> simp [h]; omega
  clear hq
  go_enter Try.func49, Try.ntmps49
  go_wp2
  go_ret
  exact ⟨rfl, hb0⟩

theorem boardOf_any (x y z : Int) (w : World) :
    Calls Try.prog 41 #[.agg #[.int .i64 x, .int .i64 y, .int .i64 z]] w fun e w' => e = .returned (.agg #[.int .i64 x, .int .i64 y]) ∧ Below w.heap.size w w' := by
  go_enter Try.func41, Try.ntmps41
  go_wp2
  refine bodyPost_ret (v := .agg #[.int .i64 x, .int .i64 y]) (by simp [results, Try.results41, go_sem]) rfl ⟨rfl, ?_⟩
  exact ((Below.refl _ _).alloc (Nat.le_refl _) _).alloc (by simp) _

theorem turnedOf_any (x y z : Int) (w : World) :
    Calls Try.prog 78 #[.agg #[.int .i64 x, .int .i64 y, .int .i64 z]] w fun e w' => e = .returned (.agg #[.int .i64 y, .int .i64 x, .int .i64 z]) ∧ Below w.heap.size w w' := by
  go_enter Try.func78, Try.ntmps78
  go_wp2
  refine bodyPost_ret (v := .agg #[.int .i64 y, .int .i64 x, .int .i64 z]) (by simp [results, Try.results78, go_sem]) rfl ⟨rfl, ?_⟩
  exact ((Below.refl _ _).alloc (Nat.le_refl _) _).alloc (by simp) _

set_option maxHeartbeats 1000000 in
theorem isPiece_any (x y z : Int) (w : World) (q : Bool) (hq : pcB (x, y, z) = q) :
    Calls Try.prog 34 #[.agg #[.int .i64 x, .int .i64 y, .int .i64 z]] w fun e w' => e = .returned (.bool q) ∧ Below w.heap.size w w' := by
  have hb0 := (Below.refl w.heap.size w).alloc (Nat.le_refl _) (.cells #[.int .i64 x, .int .i64 y, .int .i64 z] 26)
  cases h1 : bdB x y
  · obtain rfl : q = false := by rw [← hq]; simp [pcB, h1]
    clear hq
    go_enter Try.func34, Try.ntmps34
    go_wp2_with fail
    refine (boardOf_any _ _ _ _).mono ?_
    rintro e w1 ⟨rfl, hb1⟩
    have hB1 := hb0.trans (hb1.mono (by simp))
    go_wp2_with fail
    refine (isBoard_any _ _ _ _ h1).mono ?_
    rintro e w2 ⟨rfl, hb2⟩
    have hB2 := hB1.trans (hb2.mono hB1.size)
    go_wp2
    go_ret
    exact ⟨rfl, hB2⟩
  · have hq' : inB z 0 1000 = q := by rw [← hq]; simp [pcB, h1]
    go_enter Try.func34, Try.ntmps34
    go_wp2_with fail
    refine (boardOf_any _ _ _ _).mono ?_
    rintro e w1 ⟨rfl, hb1⟩
    have hB1 := hb0.trans (hb1.mono (by simp))
    have hc := (hb1.block w.heap.size (by simp)).trans (new_at w (.cells #[.int .i64 x, .int .i64 y, .int .i64 z] 26) rfl)
    have HC := Lib.hid hc
    clear hc
    go_wp2_with fail
    refine (isBoard_any _ _ _ _ h1).mono ?_
    rintro e w2 ⟨rfl, hb2⟩
    have hB2 := hB1.trans (hb2.mono hB1.size)
    have hc2 := (hb2.block w.heap.size (heap_lt HC.out)).trans HC.out
    have k2 := cell_of hc2 2
    clear hc2
    by_cases h2 : 0 ≤ z
    · have h2' : decide (0 ≤ z) = true := decide_eq_true h2
      by_cases h3 : z ≤ 1000
      · have h3' : decide (z ≤ 1000) = true := decide_eq_true h3
        obtain rfl : q = true := by rw [← hq']; exact inB_true.2 ⟨h2, h3⟩
        clear hq hq'
        go_wp2
        go_ret
        exact ⟨rfl, hB2⟩
      · have h3' : decide (z ≤ 1000) = false := decide_eq_false h3
        obtain rfl : q = false := by rw [← hq']; exact inB_false.2 (by omega)
        clear hq hq'
        go_wp2
        go_ret
        exact ⟨rfl, hB2⟩
    · have h2' : decide (0 ≤ z) = false := decide_eq_false h2
      obtain rfl : q = false := by rw [← hq']; exact inB_false.2 (by omega)
      clear hq hq'
      go_wp2
      go_ret
      exact ⟨rfl, hB2⟩

end Go.Proofs.Ytjpejhpilfjheaa

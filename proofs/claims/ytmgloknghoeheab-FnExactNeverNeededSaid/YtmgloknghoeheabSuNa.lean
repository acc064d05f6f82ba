/-
  Items that are no worse than others, and items of which there is one that is no worse.
  Conditions: none.
-/
import Derived.Test.YtmgloknghoeheabSuS
import Derived.Test.YtmgloknghoeheabItms
import Derived.Test.YtmgloknghoeheabSomeN
import Derived.Test.YtmgloknghoeheabL1Own
import Derived.Laws.StructEq
namespace Go.Proofs.Ytmgloknghoeheab
set_option linter.unusedVariables false
open Go.RowKit

/-- An item is no heavier, no bulkier and no cheaper than another one. -/
def worseB (b a : Int × Int × Int) : Bool := decide (b.1 ≤ a.1) && decide (b.2.1 ≤ a.2.1) && decide (a.2.2 ≤ b.2.2)
/-- The item 'b' in place 'k' makes the item 'a' in place 'i' needless. -/
def hitB (b a : Int × Int × Int) (k i : Nat) : Bool := worseB b a && (!(decide (b = a)) || decide (k < i))
def hitK (ts : List (Int × Int × Int)) (a : Int × Int × Int) (i : Nat) : Nat → Bool
  | 0 => false
  | j + 1 => hitK ts a i j || hitB (ts.getD j (0, 0, 0)) a j i
theorem hitK_next {ts : List (Int × Int × Int)} {a b : Int × Int × Int} {i j : Nat} (h : ts[j]? = some b) : hitK ts a i (j + 1) = (hitK ts a i j || hitB b a j i) := by simp [hitK, List.getD, h]
theorem hitK_up {ts : List (Int × Int × Int)} {a : Int × Int × Int} {i : Nat} {j n : Nat} (hj : j ≤ n) (h : hitK ts a i j = true) : hitK ts a i n = true := by
  induction n with
  | zero => obtain rfl : j = 0 := by omega
            exact h
  | succ n ih =>
    rcases Nat.lt_or_ge j (n + 1) with hlt | hge
    · rw [hitK, ih (by omega)]; rfl
    · obtain rfl : j = n + 1 := by omega
      exact h
/-- The needless ones of the first items. -/
def nnK (ts : List (Int × Int × Int)) : Nat → List Int
  | 0 => []
  | j + 1 => nnK ts j ++ (if hitK ts (ts.getD j (0, 0, 0)) j ts.length = true then [(j : Int)] else [])
theorem nnK_yes {ts : List (Int × Int × Int)} {a : Int × Int × Int} {j : Nat} (h : ts[j]? = some a) (hh : hitK ts a j ts.length = true) : nnK ts (j + 1) = nnK ts j ++ [(j : Int)] := by
  rw [nnK, if_pos (by simpa [List.getD, h] using hh)]
theorem nnK_no {ts : List (Int × Int × Int)} {a : Int × Int × Int} {j : Nat} (h : ts[j]? = some a) (hh : hitK ts a j ts.length = false) : nnK ts (j + 1) = nnK ts j := by
  rw [nnK, if_neg (by simp [List.getD, h, hh]), List.append_nil]
theorem nnK_len (ts : List (Int × Int × Int)) (j : Nat) : (nnK ts j).length ≤ j := by
  induction j with
  | zero => exact Nat.le_refl _
  | succ j ih =>
    rw [nnK, List.length_append]
    split
    · simp only [List.length_singleton]; omega
    · simp only [List.length_nil]; omega

theorem item_eql (x y z x2 y2 z2 : Int) (w : World) : (binOp .eql 57 (.agg #[.int .i64 x, .int .i64 y, .int .i64 z]) (.agg #[.int .i64 x2, .int .i64 y2, .int .i64 z2])).run Try.prog w = .ok (.bool (decide ((x, y, z) = (x2, y2, z2)))) w := by
  have u3 := Try.underlying3
  have a3 := Try.isAgg3
  have z3 := Try.sizeOf3
  have hS : Try.prog.underlying 57 = some (.struct (Try.prog.fieldsOf 57)) := by kernel_rfl
  have hp : Try.prog.stoodInHeld 57 = false := by kernel_rfl
  rw [run_eql_struct, show (10000 : Nat) = 9999 + 1 from rfl, run_equalIn_agg w 9999 57 _ _ hS hp]
  simp only [Program.fieldsOf, Try.underlying57]
  go_simp
  by_cases h1 : x = x2 <;> by_cases h2 : y = y2 <;> by_cases h3 : z = z2 <;> simp [h1, h2, h3]
theorem item_neq (x y z x2 y2 z2 : Int) (w : World) : (binOp .neq 57 (.agg #[.int .i64 x, .int .i64 y, .int .i64 z]) (.agg #[.int .i64 x2, .int .i64 y2, .int .i64 z2])).run Try.prog w = .ok (.bool (!(decide ((x, y, z) = (x2, y2, z2))))) w := by
  have u3 := Try.underlying3
  have a3 := Try.isAgg3
  have z3 := Try.sizeOf3
  have hS : Try.prog.underlying 57 = some (.struct (Try.prog.fieldsOf 57)) := by kernel_rfl
  have hp : Try.prog.stoodInHeld 57 = false := by kernel_rfl
  rw [run_neq_struct, show (10000 : Nat) = 9999 + 1 from rfl, run_equalIn_agg w 9999 57 _ _ hS hp]
  simp only [Program.fieldsOf, Try.underlying57]
  go_simp
  by_cases h1 : x = x2 <;> by_cases h2 : y = y2 <;> by_cases h3 : z = z2 <;> simp [h1, h2, h3]

set_option maxRecDepth 100000 in
set_option maxHeartbeats 1000000 in
theorem noWorse_any (x y z x2 y2 z2 : Int) (w : World) (q : Bool) (hq : worseB (x, y, z) (x2, y2, z2) = q) :
    Calls Try.prog 75 #[.agg #[.int .i64 x, .int .i64 y, .int .i64 z], .agg #[.int .i64 x2, .int .i64 y2, .int .i64 z2]] w fun e w' => e = .returned (.bool q) ∧ Below w.heap.size w w' := by
  have HB := Lib.hid (show Below w.heap.size w ((w.alloc (.cells #[.int .i64 x, .int .i64 y, .int .i64 z] 57)).alloc (.cells #[.int .i64 x2, .int .i64 y2, .int .i64 z2] 57)) from ((Below.refl _ _).alloc (Nat.le_refl _) _).alloc (by simp) _)
  have hc0 : ((w.alloc (.cells #[.int .i64 x, .int .i64 y, .int .i64 z] 57)).alloc (.cells #[.int .i64 x2, .int .i64 y2, .int .i64 z2] 57)).heap[w.heap.size]? = some (.cells #[.int .i64 x, .int .i64 y, .int .i64 z] 57 (0, 0)) := by rw [alloc_old _ (by simp)]; exact new_at w _ rfl
  have hc1 : ((w.alloc (.cells #[.int .i64 x, .int .i64 y, .int .i64 z] 57)).alloc (.cells #[.int .i64 x2, .int .i64 y2, .int .i64 z2] 57)).heap[w.heap.size + 1]? = some (.cells #[.int .i64 x2, .int .i64 y2, .int .i64 z2] 57 (0, 0)) := new_at _ _ (by simp)
  have a0 := cell_of hc0 0
  have a1 := cell_of hc0 1
  have a2 := cell_of hc0 2
  have b0 := cell_of hc1 0
  have b1 := cell_of hc1 1
  have b2 := cell_of hc1 2
  clear hc0 hc1
  by_cases h1 : x ≤ x2
  · have d1 : decide (x ≤ x2) = true := decide_eq_true h1
    by_cases h2 : y ≤ y2
    · have d2 : decide (y ≤ y2) = true := decide_eq_true h2
      obtain rfl : q = decide (z2 ≤ z) := by rw [← hq]; simp [worseB, h1, h2]
      clear hq
      go_enter Try.func75, Try.ntmps75
      go_wp2
      go_ret
      exact ⟨rfl, HB.out⟩
    · have d2 : decide (y ≤ y2) = false := decide_eq_false h2
      obtain rfl : q = false := by rw [← hq]; simp [worseB, h1, h2]
      clear hq
      go_enter Try.func75, Try.ntmps75
      go_wp2
      go_ret
      exact ⟨rfl, HB.out⟩
  · have d1 : decide (x ≤ x2) = false := decide_eq_false h1
    obtain rfl : q = false := by rw [← hq]; simp [worseB, h1]
    clear hq
    go_enter Try.func75, Try.ntmps75
    go_wp2
    go_ret
    exact ⟨rfl, HB.out⟩
end Go.Proofs.Ytmgloknghoeheab

/-
  The written program's numbers below one, and the block they lie in.
  Conditions: at most 1048576 numbers.
-/
import Derived.Test.YtjpejhpilfjheabArr
import Derived.Test.YtjpejhpilfjheabMem
namespace Go.Proofs.Ytjpejhpilfjheab
set_option linter.unusedVariables false
open Go.RowKit

/-- The numbers 0, 1, .. -/
def below (n : Nat) : List Int := (List.range n).map fun i : Nat => (i : Int)
theorem below_length (n : Nat) : (below n).length = n := by simp [below]
theorem below_at {n i : Nat} (h : i < n) : (below n)[i]? = some (i : Int) := by simp [below, h]
theorem below_mem {n : Nat} {x : Int} (h : x ∈ below n) : 0 ≤ x ∧ x < (n : Int) := by
  obtain ⟨i, hi, rfl⟩ := List.mem_map.1 h
  have := List.mem_range.1 hi
  omega

/-- The numbers so far, nothing behind them. -/
def belowP (n k : Nat) : List Int := below k ++ List.replicate (n - k) 0
theorem below_snoc (k : Nat) : below (k + 1) = below k ++ [(k : Int)] := by simp [below, List.range_succ]
theorem belowP_set {n k : Nat} (h : k < n) : (belowP n k).set k (k : Int) = belowP n (k + 1) := by
  have hl : (below k).length = k := below_length k
  rw [belowP, List.set_append_right _ _ (by omega), hl, Nat.sub_self, belowP, below_snoc]
  obtain ⟨r, hr⟩ : ∃ r, n - k = r + 1 := ⟨n - k - 1, by omega⟩
  rw [hr, show n - (k + 1) = r by omega, List.replicate_succ, List.set_cons_zero, List.append_assoc]
  rfl
theorem belowP_at {n k : Nat} (h : k < n) : (belowP n k)[k]? = some 0 := by
  have hl : (below k).length = k := below_length k
  rw [belowP, List.getElem?_append_right (by omega), hl, Nat.sub_self, List.getElem?_replicate, if_pos (by omega)]

set_option maxHeartbeats 1000000 in
theorem numbersBelow_any (n : Nat) (w : World) (hn : n ≤ 1048576) :
    Calls Try.prog 87 #[.int .i64 (n : Int)] w fun e w' => e = .returned (.slice (some ⟨w.heap.size, 0, none⟩) n n) ∧ Arr w' w.heap.size 3 (below n) ∧ Below w.heap.size w w' := by
  have hmk := fun W : World => run_make_row' 22 3 (.int .i64 0) 8 Try.underlying22 int_info rfl .i64 .i64 n (by omega) (by omega) W
  have HA0 := Lib.hid (show Arr (w.alloc (.cells (madeCells #[.int .i64 0] n) 3)) w.heap.size 3 (belowP n 0) by
    have h := arr_new w 3 n
    exact h)
  have HB0 := Lib.hid ((Below.refl w.heap.size w).alloc (Nat.le_refl _) (.cells (madeCells #[.int .i64 0] n) 3))
  go_enter Try.func87, Try.ntmps87
  go_wp2
  clear hmk
  go_loopw [9] (fun i wr => ∃ k : Nat, k ≤ n ∧ i = .int .i64 k ∧ Below w.heap.size w wr ∧ Arr wr w.heap.size 3 (belowP n k)) (fun i _ => n - (intOf i).toNat)
  case atStart => exact ⟨0, Nat.zero_le _, rfl, HB0.out, HA0.out⟩
  case round =>
    obtain ⟨k, hk, rfl, hb, harr⟩ := hrel
    by_cases hlt : k < n
    · have hck := harr.cell (belowP_at hlt)
      have hfk := harr.frozen k
      have HST := Lib.hid (belowP_set hlt)
      have HAR := Lib.hid harr
      clear harr
      go_wp2
      go_roundw
      case rel => exact ⟨k + 1, by omega, by go_num, hb.setCell (Nat.le_refl _) _, by rw [← HST.out]; exact HAR.out.set k _⟩
      case measure => simp [intOf]; omega
    · obtain rfl : k = n := by omega
      go_wp2
      go_ret
      have e : belowP k k = below k := by rw [belowP, Nat.sub_self]; simp
      rw [e] at harr
      exact ⟨rfl, harr, hb⟩


end Go.Proofs.Ytjpejhpilfjheab

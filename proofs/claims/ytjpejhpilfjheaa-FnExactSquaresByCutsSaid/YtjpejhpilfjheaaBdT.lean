/-
  The written program's table of values: what of it is filled.
  Conditions: none.
-/
import Derived.Test.YtjpejhpilfjheaaBdL
import Derived.Test.YtjpejhpilfjheaaBdA
namespace Go.Proofs.Ytjpejhpilfjheaa
set_option linter.unusedVariables false
open Go.RowKit

/-- How many values of a row there are, when so many rows are full and so many values of the next one are there. -/
def lenI (H n m i : Nat) : Nat := if i < n then H else if i = n then m else 0
theorem lenI_next (H n i : Nat) : lenI H n H i = lenI H (n + 1) 0 i := by
  unfold lenI
  by_cases h1 : i < n
  · rw [if_pos h1, if_pos (by omega)]
  · by_cases h2 : i = n
    · rw [if_neg h1, if_pos h2, if_pos (by omega)]
    · rw [if_neg h1, if_neg h2, if_neg (by omega)]
      split <;> rfl

structure TabI (W : World) (lo V R X A H : Nat) (t : Nat → Nat → Int) (n m : Nat) : Prop where
  far : lo ≤ V ∧ V < R ∧ R < X
  box : W.heap[X]? = some (.cells #[.slice (some ⟨R, 0, none⟩) A A] 49 (0, 0))
  rows : ∃ rs : Array Value, W.heap[R]? = some (.cells rs 31 (0, 0)) ∧ rs.size = A ∧ ∀ i, i < A → rs[i]? = some (.slice (some ⟨V, i * H, none⟩) (lenI H n m i) H)
  vals : ∃ vs : Array Value, W.heap[V]? = some (.cells vs 3 (0, 0)) ∧ vs.size = A * H ∧ ∀ i b, i < A → b < lenI H n m i → vs[i * H + b]? = some (.int .i64 (t (i + 1) (b + 1)))

theorem TabI.below {W W' : World} {lo V R X A H : Nat} {t : Nat → Nat → Int} {n m : Nat} (h : TabI W lo V R X A H t n m) (hb : Below W.heap.size W W') : TabI W' lo V R X A H t n m := by
  obtain ⟨rs, r1, r2, r3⟩ := h.rows
  obtain ⟨vs, v1, v2, v3⟩ := h.vals
  exact ⟨h.far, (hb.block X (heap_lt h.box)).trans h.box, ⟨rs, (hb.block R (heap_lt r1)).trans r1, r2, r3⟩, ⟨vs, (hb.block V (heap_lt v1)).trans v1, v2, v3⟩⟩
theorem TabI.next {W : World} {lo V R X A H : Nat} {t : Nat → Nat → Int} {n : Nat} (h : TabI W lo V R X A H t n H) : TabI W lo V R X A H t (n + 1) 0 := by
  obtain ⟨rs, r1, r2, r3⟩ := h.rows
  obtain ⟨vs, v1, v2, v3⟩ := h.vals
  exact ⟨h.far, h.box, ⟨rs, r1, r2, fun i hi => by rw [← lenI_next]; exact r3 i hi⟩, ⟨vs, v1, v2, fun i b hi hb => v3 i b hi (by rw [lenI_next]; exact hb)⟩⟩
theorem TabI.worth {W : World} {lo V R X A H : Nat} {t : Nat → Nat → Int} {n m : Nat} (h : TabI W lo V R X A H t n m) (hA : A ≤ 24) (hH : H ≤ 24) (ok : Nat → Nat → Prop) (hok : ∀ a b, ok a b → 1 ≤ a ∧ 1 ≤ b ∧ a ≤ A ∧ b ≤ H ∧ b ≤ lenI H n m (a - 1)) : Worth W (X + 1) X t ok := by
  obtain ⟨rs, r1, r2, r3⟩ := h.rows
  obtain ⟨vs, v1, v2, v3⟩ := h.vals
  have hf := h.far
  refine ⟨R, V, H, A, _, by omega, by omega, by omega, h.box, fun a b hab => ?_⟩
  obtain ⟨a1, b1, aA, bH, bl⟩ := hok a b hab
  refine ⟨a1, b1, ⟨by omega, by omega, aA⟩, lenI H n m (a - 1), H, ?_, bl, ?_⟩
  · rw [cell_of r1, r3 (a - 1) (by omega)]
  · rw [cell_of v1, v3 (a - 1) (b - 1) (by omega) (by omega), show a - 1 + 1 = a by omega, show b - 1 + 1 = b by omega]
theorem row_in {A H n m : Nat} (hn : n < A) (hm : m < H) : n * H + m < A * H := by
  have h1 : (n + 1) * H ≤ A * H := Nat.mul_le_mul_right _ hn
  have h2 : (n + 1) * H = n * H + H := by rw [Nat.add_mul, Nat.one_mul]
  omega
theorem row_other {H i n b m : Nat} (hb : b < H) (hm : m < H) (h : i ≠ n) : i * H + b ≠ n * H + m := by
  intro e
  rcases Nat.lt_or_ge i n with hlt | hge
  · have h1 : (i + 1) * H ≤ n * H := Nat.mul_le_mul_right _ hlt
    have h2 : (i + 1) * H = i * H + H := by rw [Nat.add_mul, Nat.one_mul]
    omega
  · have h1 : (n + 1) * H ≤ i * H := Nat.mul_le_mul_right _ (by omega)
    have h2 : (n + 1) * H = n * H + H := by rw [Nat.add_mul, Nat.one_mul]
    omega
theorem lenI_le {H n m i : Nat} (hm : m ≤ H) : lenI H n m i ≤ H := by unfold lenI; (repeat' split) <;> omega
/-- One value more. -/
theorem TabI.step {W : World} {lo V R X A H : Nat} {t : Nat → Nat → Int} {n m : Nat} {v : Int} (h : TabI W lo V R X A H t n m) (hn : n < A) (hm : m < H) (hv : t (n + 1) (m + 1) = v) :
    TabI ((W.setCell ⟨V, n * H + m, none⟩ (.int .i64 v)).setCell ⟨R, n, none⟩ (.slice (some ⟨V, n * H, none⟩) (m + 1) H)) lo V R X A H t n (m + 1) := by
  obtain ⟨rs, r1, r2, r3⟩ := h.rows
  obtain ⟨vs, v1, v2, v3⟩ := h.vals
  have hf := h.far
  refine ⟨hf, (set_far _ (by show X ≠ R; omega) _).trans ((set_far _ (by show X ≠ V; omega) _).trans h.box),
    ⟨_, set_self ((set_far _ (by show R ≠ V; omega) _).trans r1) n _, by simpa using r2, fun i hi => ?_⟩, ⟨_, (set_far _ (by show V ≠ R; omega) _).trans (set_self v1 (n * H + m) _), by simpa using v2, fun i b hi hb => ?_⟩⟩
  · by_cases e : i = n
    · subst e
      rw [Array.getElem?_setIfInBounds_self_of_lt (by omega)]
      simp [lenI]
    · rw [Array.getElem?_setIfInBounds_ne (by omega), r3 i hi]
      unfold lenI
      by_cases h1 : i < n
      · rw [if_pos h1, if_pos h1]
      · rw [if_neg h1, if_neg h1, if_neg e, if_neg e]
  · by_cases e : i = n
    · subst e
      have hbm : b < m + 1 := by simpa [lenI] using hb
      by_cases e2 : b = m
      · subst e2
        rw [Array.getElem?_setIfInBounds_self_of_lt (by rw [v2]; exact row_in hn hm), hv]
      · rw [Array.getElem?_setIfInBounds_ne (by omega)]
        exact v3 i b hi (by simp [lenI]; omega)
    · have hbH : b < H := Nat.lt_of_lt_of_le hb (lenI_le (by omega))
      rw [Array.getElem?_setIfInBounds_ne (fun e2 => row_other hbH hm e e2.symm)]
      refine v3 i b hi ?_
      unfold lenI at hb ⊢
      by_cases h1 : i < n
      · rw [if_pos h1] at hb ⊢; exact hb
      · rw [if_neg h1, if_neg e] at hb ⊢; exact hb

theorem rows_info : (Try.prog.info? 31).map (fun i => (i.zero, i.size, i.bytes)) = some (some (.slice none 0 0), 1, 24) := by kernel_rfl
theorem make_cap (n : Nat) (hn : n ≤ 576) (hn1 : 1 ≤ n) (W : World) : (Instr.makeSlice 31 (.int .i64 0) (.int .i64 (n : Int))).run Try.prog W =
    .ok (.slice (some ⟨W.heap.size, 0, none⟩) 0 n) (W.alloc (.cells (madeCells #[.int .i64 0] n) 3)) := by
  obtain ⟨i, hi, hz, hs, hb⟩ := info_parts int_info
  have h := run_make (P := Try.prog) W 31 3 i _ Try.underlying31 hi hz .i64 .i64 0 (n : Int) (by omega) (by omega) (by rw [hb]; omega) (by omega)
  simpa [hs, Value.cells] using h
theorem make_rows (n : Nat) (hn : n ≤ 24) (W : World) : (Instr.makeSlice 49 (.int .i64 (n : Int)) (.int .i64 (n : Int))).run Try.prog W =
    .ok (.slice (some ⟨W.heap.size, 0, none⟩) n n) (W.alloc (.cells (madeCells #[.slice none 0 0] n) 31)) := by
  obtain ⟨i, hi, hz, hs, hb⟩ := info_parts rows_info
  have h := run_make (P := Try.prog) W 49 31 i _ Try.underlying49 hi hz .i64 .i64 (n : Int) (n : Int) (by omega) (by omega) (by rw [hb]; omega) (by omega)
  simpa [hs, Value.cells] using h
end Go.Proofs.Ytjpejhpilfjheaa

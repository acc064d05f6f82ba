/-
  The given program's table of values: what of it is filled.
  Conditions: none.
-/
import Derived.Test.YtjpejhpilfjheaaBdT
namespace Go.Proofs.Ytjpejhpilfjheaa
set_option linter.unusedVariables false
open Go.RowKit

theorem halfL_parts (a b : Nat) : halfL a b = upL a b (a / 2) ++ lvL a b (b / 2) := rfl

structure TabS (W : World) (lo F A H : Nat) (t : Nat → Nat → Int) (n m : Nat) : Prop where
  far : lo ≤ F
  tab : ∃ (cs : Array Value) (g : Nat → Nat), W.heap[F]? = some (.cells cs 31 (0, 0)) ∧ cs.size = A + 1 ∧
    (∀ a, 1 ≤ a → a ≤ n → cs[a]? = some (.slice (some ⟨g a, 0, none⟩) (H + 1) (H + 1)) ∧ F < g a ∧ ∃ rs : Array Value, W.heap[g a]? = some (.cells rs 3 (0, 0)) ∧ rs.size = H + 1 ∧ ∀ b, 1 ≤ b → b ≤ H → (a < n ∨ b ≤ m) → rs[b]? = some (.int .i64 (t a b))) ∧
    (∀ a a', 1 ≤ a → a < a' → a' ≤ n → g a < g a')

theorem TabS.below {W W' : World} {lo F A H : Nat} {t : Nat → Nat → Int} {n m : Nat} (h : TabS W lo F A H t n m) (hb : Below W.heap.size W W') : TabS W' lo F A H t n m := by
  obtain ⟨hl, cs, g, h1, h2, h3, h4⟩ := h
  refine ⟨hl, cs, g, (hb.block F (heap_lt h1)).trans h1, h2, fun a a1 an => ?_, h4⟩
  obtain ⟨r1, r2, rs, r3, r4, r5⟩ := h3 a a1 an
  exact ⟨r1, r2, rs, (hb.block _ (heap_lt r3)).trans r3, r4, r5⟩
theorem TabS.low {W : World} {lo lo' F A H : Nat} {t : Nat → Nat → Int} {n m : Nat} (h : TabS W lo F A H t n m) (hl : lo' ≤ lo) : TabS W lo' F A H t n m := ⟨Nat.le_trans hl h.far, h.tab⟩
theorem TabS.same {W : World} {lo F A H : Nat} {t t' : Nat → Nat → Int} {n m : Nat} (h : TabS W lo F A H t n m) (ht : ∀ a b, 1 ≤ a → 1 ≤ b → t a b = t' a b) : TabS W lo F A H t' n m := by
  obtain ⟨hl, cs, g, h1, h2, h3, h4⟩ := h
  refine ⟨hl, cs, g, h1, h2, fun a a1 an => ?_, h4⟩
  obtain ⟨r1, r2, rs, r3, r4, r5⟩ := h3 a a1 an
  exact ⟨r1, r2, rs, r3, r4, fun b b1 bH hb => by rw [r5 b b1 bH hb, ht a b a1 b1]⟩
/-- A value is read. -/
theorem TabS.read {W : World} {lo F A H : Nat} {t : Nat → Nat → Int} {n m : Nat} (h : TabS W lo F A H t n m) {a b : Nat} (a1 : 1 ≤ a) (an : a ≤ n) (b1 : 1 ≤ b) (bH : b ≤ H) (hf : a < n ∨ b ≤ m) :
    ∃ g, W.cell? ⟨F, a, none⟩ = some (.slice (some ⟨g, 0, none⟩) (H + 1) (H + 1)) ∧ W.cell? ⟨g, b, none⟩ = some (.int .i64 (t a b)) := by
  obtain ⟨hl, cs, g, h1, h2, h3, h4⟩ := h
  obtain ⟨r1, r2, rs, r3, r4, r5⟩ := h3 a a1 an
  exact ⟨g a, (cell_of h1 a).trans r1, (cell_of r3 b).trans (r5 b b1 bH hf)⟩
/-- The row that is being filled. -/
theorem TabS.row {W : World} {lo F A H : Nat} {t : Nat → Nat → Int} {n m : Nat} (h : TabS W lo F A H t n m) (hn : 1 ≤ n) (hm : m < H) (v : Int) (hv : t n (m + 1) = v) :
    ∃ g u, W.cell? ⟨F, n, none⟩ = some (.slice (some ⟨g, 0, none⟩) (H + 1) (H + 1)) ∧ W.cell? ⟨g, m + 1, none⟩ = some u ∧ W.frozen? ⟨g, m + 1, none⟩ = false ∧ F < g ∧ TabS (W.setCell ⟨g, m + 1, none⟩ (.int .i64 v)) lo F A H t n (m + 1) := by
  obtain ⟨hl, cs, g, h1, h2, h3, h4⟩ := h
  obtain ⟨r1, r2, rs, r3, r4, r5⟩ := h3 n hn (Nat.le_refl _)
  refine ⟨g n, rs[m + 1]'(by omega), (cell_of h1 n).trans r1, (cell_of r3 (m + 1)).trans (Array.getElem?_eq_getElem (by omega)), frozen_of r3 (m + 1), r2, hl, cs, g, (set_far _ (by show F ≠ g n; omega) _).trans h1, h2, fun a a1 an => ?_, h4⟩
  obtain ⟨q1, q2, qs, q3, q4, q5⟩ := h3 a a1 an
  by_cases e : a = n
  · subst e
    refine ⟨q1, q2, _, set_self r3 (m + 1) _, by simpa using r4, fun b b1 bH hb => ?_⟩
    by_cases e2 : b = m + 1
    · subst e2
      rw [Array.getElem?_setIfInBounds_self_of_lt (by omega), hv]
    · rw [Array.getElem?_setIfInBounds_ne (by omega)]
      exact r5 b b1 bH (by omega)
  · have hlt := h4 a n a1 (by omega) (Nat.le_refl _)
    exact ⟨q1, q2, qs, (set_far _ (by show g a ≠ g n; omega) _).trans q3, q4, fun b b1 bH hb => q5 b b1 bH (by omega)⟩
/-- One row more. -/
theorem TabS.more {W : World} {lo F A H : Nat} {t : Nat → Nat → Int} {n : Nat} (h : TabS W lo F A H t n H) (hn : n < A) :
    TabS ((W.alloc (.cells (madeCells #[.int .i64 0] (H + 1)) 3)).setCell ⟨F, n + 1, none⟩ (.slice (some ⟨W.heap.size, 0, none⟩) (H + 1) (H + 1))) lo F A H t (n + 1) 0 := by
  obtain ⟨hl, cs, g, h1, h2, h3, h4⟩ := h
  have hF := heap_lt h1
  refine ⟨hl, _, fun a => if a ≤ n then g a else W.heap.size, set_self ((alloc_old _ hF _).trans h1) (n + 1) _, by simpa using h2, fun a a1 an => ?_, fun a a' a1 h5 h6 => ?_⟩
  · by_cases e : a ≤ n
    · obtain ⟨q1, q2, qs, q3, q4, q5⟩ := h3 a a1 e
      simp only [if_pos e]
      refine ⟨by rw [Array.getElem?_setIfInBounds_ne (by omega)]; exact q1, q2, qs, (set_far _ (by show g a ≠ F; omega) _).trans ((alloc_old _ (heap_lt q3) _).trans q3), q4, fun b b1 bH _ => q5 b b1 bH (by omega)⟩
    · obtain rfl : a = n + 1 := by omega
      simp only [if_neg e]
      refine ⟨by rw [Array.getElem?_setIfInBounds_self_of_lt (by omega)], hF, _, (set_far _ (by show W.heap.size ≠ F; omega) _).trans (new_at _ _ rfl), by simp [madeCells], fun b b1 bH hb => by omega⟩
  · have e1 : a ≤ n := by omega
    simp only [if_pos e1]
    by_cases e2 : a' ≤ n
    · rw [if_pos e2]; exact h4 a a' a1 h5 e2
    · rw [if_neg e2]
      obtain ⟨q1, q2, qs, q3, q4, q5⟩ := h3 a a1 e1
      exact heap_lt q3
theorem TabS.cells {W : World} {lo F A H : Nat} {t : Nat → Nat → Int} {n m : Nat} (h : TabS W lo F A H t n m) : ∃ cs : Array Value, W.heap[F]? = some (.cells cs 31 (0, 0)) ∧ cs.size = A + 1 := by
  obtain ⟨hl, cs, g, h1, h2, h3, h4⟩ := h
  exact ⟨cs, h1, h2⟩
/-- No row yet. -/
theorem TabS.new (w : World) (A H : Nat) (t : Nat → Nat → Int) : TabS (w.alloc (.cells (madeCells #[.slice none 0 0] (A + 1)) 31)) w.heap.size w.heap.size A H t 0 H :=
  ⟨Nat.le_refl _, _, fun _ => 0, new_at _ _ rfl, by simp [madeCells], fun a a1 a0 => by omega, fun a a' a1 h h0 => by omega⟩
/-- What a table is answered as. -/
def RetTab (A H : Nat) (t : Nat → Nat → Int) (w : World) (e : Ending) (w' : World) : Prop :=
  ∃ F, e = .returned (.slice (some ⟨F, 0, none⟩) (A + 1) (A + 1)) ∧ TabS w' w.heap.size F A H t A H ∧ Below w.heap.size w w'
theorem make_row (n : Nat) (hn : n ≤ 24) (W : World) : (Instr.makeSlice 31 (.int .i64 ((n : Int) + 1)) (.int .i64 ((n : Int) + 1))).run Try.prog W =
    .ok (.slice (some ⟨W.heap.size, 0, none⟩) (n + 1) (n + 1)) (W.alloc (.cells (madeCells #[.int .i64 0] (n + 1)) 3)) := by
  obtain ⟨i, hi, hz, hs, hb⟩ := info_parts int_info
  have h := run_make (P := Try.prog) W 31 3 i _ Try.underlying31 hi hz .i64 .i64 ((n : Int) + 1) ((n : Int) + 1) (by omega) (by omega) (by rw [hb]; omega) (by omega)
  rw [show ((n : Int) + 1).toNat = n + 1 by omega] at h
  simpa [hs, Value.cells] using h
theorem make_tab (n : Nat) (hn : n ≤ 24) (W : World) : (Instr.makeSlice 49 (.int .i64 ((n : Int) + 1)) (.int .i64 ((n : Int) + 1))).run Try.prog W =
    .ok (.slice (some ⟨W.heap.size, 0, none⟩) (n + 1) (n + 1)) (W.alloc (.cells (madeCells #[.slice none 0 0] (n + 1)) 31)) := by
  obtain ⟨i, hi, hz, hs, hb⟩ := info_parts rows_info
  have h := run_make (P := Try.prog) W 49 31 i _ Try.underlying49 hi hz .i64 .i64 ((n : Int) + 1) ((n : Int) + 1) (by omega) (by omega) (by rw [hb]; omega) (by omega)
  rw [show ((n : Int) + 1).toNat = n + 1 by omega] at h
  simpa [hs, Value.cells] using h
end Go.Proofs.Ytjpejhpilfjheaa

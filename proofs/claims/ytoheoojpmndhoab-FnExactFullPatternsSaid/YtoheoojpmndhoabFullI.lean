/-
  The written program's list of a pattern.
  Conditions: there are at most 4 lengths, and one at least.
-/
import Derived.Test.YtoheoojpmndhoabFullM
import Derived.Test.YtoheoojpmndhoabRodI
import Derived.Test.YtoheoojpmndhoabCloneI
namespace Go.Proofs.Ytoheoojpmndhoab
set_option linter.unusedVariables false
open Go.RowKit

theorem slice4p (g off m : Nat) (hm : m ≤ 4) (W : World) : (Instr.sliceAt 38 (.pointer (some ⟨g, off, none⟩)) none (some (.int .i64 (m : Int))) none).run Try.prog W = .ok (.slice (some ⟨g, off, none⟩) m 4) W := by
  have hu : Try.prog.underlying 38 = some (.array (Try.prog.arrayLen 38) (Try.prog.elem 38)) := by kernel_rfl
  have hl : Try.prog.arrayLen 38 = 4 := by kernel_rfl
  have hs : (sizeOf (Try.prog.elem 38)).run Try.prog W = .ok 1 W := by kernel_rfl
  rw [run_sliceAt_array_h W _ ⟨g, off, none⟩ hu .i64 (m : Int) (by omega) (by rw [hl]; omega), hs]
  simp [Result.andThen, slicedAt, hl, Addr.add]

set_option maxHeartbeats 1000000 in
theorem listP_any (rod : Int) (A : Option Addr) (n c : Nat) (m0 m1 m2 m3 v0 v1 v2 v3 : Int) (w : World) (hn : n ≤ 4) :
    Calls Try.prog 33 #[.agg #[.int .i64 rod, .slice A n c, .int .i64 m0, .int .i64 m1, .int .i64 m2, .int .i64 m3], .agg #[.int .i64 v0, .int .i64 v1, .int .i64 v2, .int .i64 v3]] w fun e w' => ∃ A' c', e = .returned (.slice A' n c') ∧ Own w' w.heap.size w'.heap.size A' ([v0, v1, v2, v3].take n) ∧ Below w.heap.size w w' := by
  have HB0 := Lib.hid (((Below.refl w.heap.size w).alloc (Nat.le_refl _) (.cells #[.int .i64 rod, .slice A n c, .int .i64 m0, .int .i64 m1, .int .i64 m2, .int .i64 m3] 40)).alloc (by simp) (.cells #[.int .i64 v0, .int .i64 v1, .int .i64 v2, .int .i64 v3] 38))
  obtain ⟨q0, q1, q2, q3, q4, q5⟩ := Cut6.of (w := (w.alloc (.cells #[.int .i64 rod, .slice A n c, .int .i64 m0, .int .i64 m1, .int .i64 m2, .int .i64 m3] 40)).alloc (.cells #[.int .i64 v0, .int .i64 v1, .int .i64 v2, .int .i64 v3] 38)) (g := w.heap.size) ((alloc_old _ (by simp) _).trans (new_at _ _ rfl))
  have har := arr4 (w := (w.alloc (.cells #[.int .i64 rod, .slice A n c, .int .i64 m0, .int .i64 m1, .int .i64 m2, .int .i64 m3] 40)).alloc (.cells #[.int .i64 v0, .int .i64 v1, .int .i64 v2, .int .i64 v3] 38)) (g := w.heap.size + 1) (new_at _ _ (by simp))
  have HSEG := Lib.hid (show Seg ((w.alloc (.cells #[.int .i64 rod, .slice A n c, .int .i64 m0, .int .i64 m1, .int .i64 m2, .int .i64 m3] 40)).alloc (.cells #[.int .i64 v0, .int .i64 v1, .int .i64 v2, .int .i64 v3] 38)) 0 (w.heap.size + 2) (some ⟨w.heap.size + 1, 0, none⟩) ([v0, v1, v2, v3].take n) from .inr ⟨w.heap.size + 1, 0, rfl, Nat.zero_le _, by omega, fun k hk => by
    have hk4 : k < 4 := by simp at hk; omega
    have hkn : k < n := by simp at hk; omega
    obtain ⟨x, hx⟩ : ∃ x, ([v0, v1, v2, v3].take n)[k]? = some x := ⟨_, List.getElem?_eq_getElem hk⟩
    have e : ([v0, v1, v2, v3].take n).getD k 0 = x := by rw [List.getD, hx]; rfl
    rw [e, Nat.zero_add]
    exact har.cell (by rw [← List.getElem?_take_of_lt hkn]; exact hx)⟩)
  have HTL := Lib.hid (show ([v0, v1, v2, v3].take n).length = n by simp; omega)
  have hsl := slice4p (w.heap.size + 1) 0 n hn
  clear har
  go_enter Try.func33, Try.ntmps33
  go_wp2_with fail
  refine (cloneI_any _ n 4 ([v0, v1, v2, v3].take n) 0 (w.heap.size + 2) _ HTL.out (by omega) HSEG.out (by simp)).mono ?_
  rintro e w2 ⟨v, rfl, hown2, hb2⟩
  obtain ⟨A2, c2, rfl⟩ := ownsRow_form hown2
  have HO2 := Lib.hid (ownsRow_own (ys := [v0, v1, v2, v3].take n) (by rw [HTL.out]; exact hown2)).2
  have HB2 := Lib.hid (HB0.out.trans (hb2.mono (by simp; omega)))
  clear hown2 hb2
  go_wp2
  go_ret
  exact ⟨A2, c2, rfl, HO2.out.more (by simp; omega) (Nat.le_refl _), HB2.out⟩
end Go.Proofs.Ytoheoojpmndhoab

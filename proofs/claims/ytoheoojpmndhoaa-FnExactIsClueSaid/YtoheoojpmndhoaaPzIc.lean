/-
  Whether there is a clue of so many things, by both programs.
  Conditions: none.
-/
import Derived.Test.YtoheoojpmndhoaaPzI
namespace Go.Proofs.Ytoheoojpmndhoaa
set_option linter.unusedVariables false
set_option linter.unusedSimpArgs false
open Go.RowKit

theorem spec_IsClue (n k a b c : Int) (w : World) (q : Bool) (hq : clN k n a b c = q) :
    Calls Try.prog 18 #[.int .i64 n, clV (k, a, b, c)] w fun e w' => e = .returned (.bool q) ∧ Below w.heap.size w w' := by
  obtain ⟨W, hW⟩ : ∃ W, w.alloc (.cells #[.int .i64 k, .int .i64 a, .int .i64 b, .int .i64 c] 25) = W := ⟨_, rfl⟩
  have z0 : Below w.heap.size w W := by rw [← hW]; exact (Below.refl _ _).alloc (Nat.le_refl _) _
  have p0 : W.heap[w.heap.size]? = some (.cells #[.int .i64 k, .int .i64 a, .int .i64 b, .int .i64 c] 25 (0, 0)) := by rw [← hW]; exact new_at _ _ rfl
  obtain ⟨g, hg⟩ : ∃ g, inB n 2 4 = g := ⟨_, rfl⟩
  have HW := Lib.hid hW
  have HG := Lib.hid hg
  have HQ := Lib.hid hq
  clear hW hg hq
  have q0 := cell_of p0 0
  have q1 := cell_of p0 1
  have q2 := cell_of p0 2
  have q3 := cell_of p0 3
  simp only [List.getElem?_toArray, List.getElem?_cons_zero, List.getElem?_cons_succ] at q0 q1 q2 q3
  go_enter Try.func18, Try.ntmps18
  go_wp2_with fail
  rw [HW.out]
  refine (pzThings_any n g HG.out _).mono ?_
  rintro e w' ⟨rfl, rfl⟩
  cases g
  · obtain rfl : q = false := by rw [← HQ.out, clN, HG.out]; rfl
    go_wp2
    go_ret
    exact ⟨rfl, z0⟩
  · have hn := inB_true.1 HG.out
    have hk : clK k n a b c = q := by rw [← HQ.out, clN, HG.out]; rfl
    have HK := Lib.hid hk
    clear hk
    go_wp2_with fail
    refine (pzClue_any n k a b c (by omega) _).mono ?_
    rintro e v1 ⟨rfl, hb1⟩
    rw [HK.out]
    go_wp2
    go_ret
    exact ⟨rfl, z0.trans (hb1.mono z0.size)⟩

theorem impl_IsClue (n k a b c : Int) (w : World) (q : Bool) (hq : clN k n a b c = q) :
    Calls Try.prog 20 #[.int .i64 n, clV (k, a, b, c)] w fun e w' => e = .returned (.bool q) ∧ Below w.heap.size w w' := by
  obtain ⟨W, hW⟩ : ∃ W, w.alloc (.cells #[.int .i64 k, .int .i64 a, .int .i64 b, .int .i64 c] 25) = W := ⟨_, rfl⟩
  have z0 : Below w.heap.size w W := by rw [← hW]; exact (Below.refl _ _).alloc (Nat.le_refl _) _
  have HW := Lib.hid hW
  have HQ := Lib.hid hq
  clear hW hq
  go_enter Try.func20, Try.ntmps20
  go_wp2_with fail
  rw [HW.out]
  refine (isNoneOf_all n k a b c _).mono ?_
  rintro e v1 ⟨rfl, hb1⟩
  rw [HQ.out]
  go_wp2
  go_ret
  exact ⟨by simp, z0.trans (hb1.mono z0.size)⟩
end Go.Proofs.Ytoheoojpmndhoaa

/-
  For every number and every clue the law of IsClue returns true.
  Conditions: none.
-/
import Derived.Test.YtoheoojpmndhoaaPzIc
import Derived.Test.YtoheoojpmndhoaaClus
import Derived.Lib.SmallJoins
import Derived.Deep.RegionHeld3
import Derived.OpenShut
import Derived.ShutString
import Derived.ChangeOld
namespace Go.Proofs.Ytoheoojpmndhoaa
namespace LawIsClue
open Go.ChangeShapes Go.WideShapes Go.ChangeAt Go.RowKit
open Go.Joins (open_agg2 open_agg4)
set_option linter.unusedVariables false
set_option linter.unusedSimpArgs false

theorem own : ownKnob Try.prog.godebug = none := by kernel_rfl
theorem laidOut : laidOutB Try.prog = true := by kernel_rfl

set_option maxHeartbeats 2000000 in
set_option maxRecDepth 100000 in
theorem walk {a0 : Int} {a1a a1b a1c a1d : Int} {w : World} (hi0 : -9223372036854775808 ≤ a0 ∧ a0 ≤ 9223372036854775807) :
    Calls Try.prog 3 #[.int .i64 a0, clV (a1a, a1b, a1c, a1d)] w fun e w' => e = .returned (.bool true) ∧ Below w.heap.size w w' := by
  obtain ⟨W, hW⟩ : ∃ W, w.alloc (.cells #[.int .i64 a1a, .int .i64 a1b, .int .i64 a1c, .int .i64 a1d] 23) = W := ⟨_, rfl⟩
  have y0 : Below w.heap.size w W := by rw [← hW]; exact (Below.refl _ _).alloc (Nat.le_refl _) _
  have p0 : W.heap[w.heap.size]? = some (.cells #[.int .i64 a1a, .int .i64 a1b, .int .i64 a1c, .int .i64 a1d] 23 (0, 0)) := by rw [← hW]; exact new_at _ _ rfl
  have HW := Lib.hid hW
  clear hW
  obtain ⟨q, hq⟩ : ∃ q, clN a1a a0 a1b a1c a1d = q := ⟨_, rfl⟩
  have HQ := Lib.hid hq
  clear hq
  have q0 := cell_of p0 0
  have q1 := cell_of p0 1
  have q2 := cell_of p0 2
  have q3 := cell_of p0 3
  simp only [List.getElem?_toArray, List.getElem?_cons_zero, List.getElem?_cons_succ] at q0 q1 q2 q3
  go_enter Try.func3, Try.ntmps3
  go_wp2_with fail
  rw [HW.out]
  refine (toClue_any _ _ _ _ _).mono ?_
  rintro e v1 ⟨rfl, hb1⟩
  have y1 := y0.trans (hb1.mono y0.size)
  have p1 := (hb1.block _ (heap_lt p0)).trans p0
  clear q0 q1 q2 q3
  have q0 := cell_of p1 0
  have q1 := cell_of p1 1
  have q2 := cell_of p1 2
  have q3 := cell_of p1 3
  simp only [List.getElem?_toArray, List.getElem?_cons_zero, List.getElem?_cons_succ] at q0 q1 q2 q3
  go_wp2_with fail
  refine (spec_IsClue a0 a1a a1b a1c a1d _ q HQ.out).mono ?_
  rintro e v2 ⟨rfl, hb2⟩
  have y2 := y1.trans (hb2.mono y1.size)
  have p2 := (hb2.block _ (heap_lt p1)).trans p1
  clear q0 q1 q2 q3
  have q0 := cell_of p2 0
  have q1 := cell_of p2 1
  have q2 := cell_of p2 2
  have q3 := cell_of p2 3
  simp only [List.getElem?_toArray, List.getElem?_cons_zero, List.getElem?_cons_succ] at q0 q1 q2 q3
  go_wp2_with fail
  refine (toClue_any _ _ _ _ _).mono ?_
  rintro e v3 ⟨rfl, hb3⟩
  have y3 := y2.trans (hb3.mono y2.size)
  have p3 := (hb3.block _ (heap_lt p2)).trans p2
  clear q0 q1 q2 q3
  have q0 := cell_of p3 0
  have q1 := cell_of p3 1
  have q2 := cell_of p3 2
  have q3 := cell_of p3 3
  simp only [List.getElem?_toArray, List.getElem?_cons_zero, List.getElem?_cons_succ] at q0 q1 q2 q3
  go_wp2_with fail
  refine (impl_IsClue a0 a1a a1b a1c a1d _ q HQ.out).mono ?_
  rintro e v4 ⟨rfl, hb4⟩
  have y4 := y3.trans (hb4.mono y3.size)
  have p4 := (hb4.block _ (heap_lt p3)).trans p3
  clear q0 q1 q2 q3
  have q0 := cell_of p4 0
  have q1 := cell_of p4 1
  have q2 := cell_of p4 2
  have q3 := cell_of p4 3
  simp only [List.getElem?_toArray, List.getElem?_cons_zero, List.getElem?_cons_succ] at q0 q1 q2 q3
  cases q <;> (go_wp2; go_ret; exact ⟨rfl, y4⟩)

end LawIsClue
end Go.Proofs.Ytoheoojpmndhoaa

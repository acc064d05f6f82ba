/-
  The written program's boxes before the first thing: none is open, there is room for all.
  Conditions: at most nine things; a room of at most 1000.
-/
import Derived.Test.YtoheoojpmndhoaaPut
namespace Go.Proofs.Ytoheoojpmndhoaa
set_option linter.unusedVariables false
open Go.RowKit

theorem make_boxes (n : Nat) (hn : n ≤ 9) (W : World) : (Instr.makeSlice 106 (.int .i64 0) (.int .i64 (n : Int))).run Try.prog W =
    .ok (.slice (some ⟨W.heap.size, 0, none⟩) 0 n) (W.alloc (.cells (madeCells #[.int .i64 0, .int .i64 0] (n * 2)) 105)) := by
  obtain ⟨i, hi, hz, hs, hb⟩ := info_parts carton_info
  have h := run_make (P := Try.prog) W 106 105 i _ Try.underlying106 hi hz .i64 .i64 0 (n : Int) (by omega) (by omega) (by rw [hb]; omega) (by omega)
  simpa [hs, Value.cells] using h

theorem make_plan (n : Nat) (hn : n ≤ 9) (W : World) : (Instr.makeSlice 39 (.int .i64 0) (.int .i64 (n : Int))).run Try.prog W =
    .ok (.slice (some ⟨W.heap.size, 0, none⟩) 0 n) (W.alloc (.cells (madeCells #[.int .i64 0] n) 3)) := by
  obtain ⟨i, hi, hz, hs, hb⟩ := info_parts int_info
  have h := run_make (P := Try.prog) W 39 3 i _ Try.underlying39 hi hz .i64 .i64 0 (n : Int) (by omega) (by omega) (by rw [hb]; omega) (by omega)
  simpa [hs, Value.cells] using h

theorem boxes_new {w : World} {g n : Nat} {z : Array Value} (h : w.heap[g]? = some (.cells (madeCells z (n * 2)) 105 (0, 0))) : Boxes w g n [] :=
  ⟨_, h, by simp [madeCells], fun i l hi => by simp at hi⟩
theorem plan_new {w : World} {g n : Nat} {z : Array Value} (h : w.heap[g]? = some (.cells (madeCells z n) 3 (0, 0))) : Plan w g n [] :=
  ⟨_, h, by simp [madeCells], fun i l hi => by simp at hi⟩

/-- A packing that is handed over as a value. -/
def pkv (Bo Bp cap : Nat) (room : Int) (ls pl : List Int) : Value := .agg (five Bo Bp cap room ls pl).toArray

def NewPk (n : Nat) (room : Int) (w : World) (e : Ending) (w' : World) : Prop :=
  ∃ Bo Bp, e = .returned (.agg #[.int .i64 0, .int .i64 0, .int .i64 room, .slice (some ⟨Bo, 0, none⟩) 0 n, .slice (some ⟨Bp, 0, none⟩) 0 n]) ∧ Boxes w' Bo n [] ∧ Plan w' Bp n [] ∧ Bo ≠ Bp ∧ w.heap.size ≤ Bo ∧ w.heap.size ≤ Bp ∧ Below w.heap.size w w'

set_option maxHeartbeats 1000000 in
theorem newPacking_any (A : Option Addr) (n c : Nat) (room : Int) (w : World) (hn : n ≤ 9) :
    Calls Try.prog 124 #[.slice A n c, .int .i64 room] w (NewPk n room w) := by
  have hm1 := make_boxes n hn
  have hm2 := make_plan n hn
  go_enter Try.func124, Try.ntmps124
  go_wp2
  go_region
  all_goals go_wp2
  · refine bodyPost_ret (v := pkv (w.heap.size + 1) (w.heap.size + 1 + 1) n room [] []) (by simp [results, Try.results124, go_sem, pkv, five]) rfl ⟨_, _, rfl, boxes_new (z := #[.int .i64 0, .int .i64 0]) ?_, plan_new (z := #[.int .i64 0]) ?_, by omega, by omega, by omega, ?_⟩
    · exact (alloc_old _ (by simp) _).trans (new_at _ _ (by simp))
    · exact new_at _ _ (by simp)
    · exact ((((Below.refl _ _).alloc (Nat.le_refl _) _).alloc (by simp) _).alloc (by simp; omega) _).drew
  · refine bodyPost_ret (v := pkv (w.heap.size + 1 + 1) (w.heap.size + 1) n room [] []) (by simp [results, Try.results124, go_sem, pkv, five]) rfl ⟨_, _, rfl, boxes_new (z := #[.int .i64 0, .int .i64 0]) ?_, plan_new (z := #[.int .i64 0]) ?_, by omega, by omega, by omega, ?_⟩
    · exact new_at _ _ (by simp)
    · exact (alloc_old _ (by simp) _).trans (new_at _ _ (by simp))
    · exact ((((Below.refl _ _).alloc (Nat.le_refl _) _).alloc (by simp) _).alloc (by simp; omega) _).drew
end Go.Proofs.Ytoheoojpmndhoaa

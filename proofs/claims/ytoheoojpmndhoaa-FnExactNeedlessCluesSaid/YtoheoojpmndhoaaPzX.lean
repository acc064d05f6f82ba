/-
  Clues cut, without one, and with one more, as the written program has them.
  Conditions: none.
-/
import Derived.Test.YtoheoojpmndhoaaPzW
import Derived.Lib.AppendZeros
namespace Go.Proofs.Ytoheoojpmndhoaa
set_option linter.unusedVariables false
set_option linter.unusedSimpArgs false
open Go.RowKit

set_option maxHeartbeats 1000000 in
theorem cut_any (t : Int) (A : Option Addr) (n c l h : Nat) (w : World) (hlen : n ≤ 1048576) (hnc : n ≤ c) (hl : l ≤ h) (hh : h ≤ n) :
    Calls Try.prog 86 #[pzV t A n c, .int .i64 (l : Int), .int .i64 (h : Int)] w fun e w' => e = .returned (pzV t (cutV A h l) (h - l) (h - l)) ∧ Below w.heap.size w w' := by
  have t1 := cut_max A n c l h hl (by omega)
  obtain ⟨A2, hA2⟩ : ∃ x, cutV A h l = x := ⟨_, rfl⟩
  rw [hA2]
  simp only [hA2] at t1
  obtain ⟨W, hW⟩ : ∃ W, (w.alloc (.cells #[.int .i64 t, .slice A n c] 35)).alloc (.cells #[.int .i64 0, .slice none 0 0] 35) = W := ⟨_, rfl⟩
  have hBl : Below w.heap.size w W := by rw [← hW]; exact ((Below.refl _ _).alloc (Nat.le_refl _) _).alloc (by simp) _
  have m0 : W.heap[w.heap.size]? = some (.cells #[.int .i64 t, .slice A n c] 35 (0, 0)) := by rw [← hW]; exact (alloc_old _ (by simp) _).trans (new_at _ _ rfl)
  have m1 : W.heap[w.heap.size + 1]? = some (.cells #[.int .i64 0, .slice none 0 0] 35 (0, 0)) := by rw [← hW]; exact new_at _ _ (by simp)
  have HW := Lib.hid hW
  clear hW hA2
  go_enter Try.func86, Try.ntmps86
  go_wp2_with fail
  rw [HW.out]
  refine wp_region_held_drew (S := fun wq => wq.heap[w.heap.size]? = some (.cells #[.int .i64 t, .slice A n c] 35 (0, 0))) (by kernel_rfl) m0 (fun hH0 => ?_)
  refine wpAnyH_take (i := 0) (v := ?_) (ops_at rfl) (by kernel_rfl) (by kernel_rfl) (by kernel_rfl) (fun _ _ _ h => h) (Or.inl ⟨by rfl, ?ya0⟩) (by assumption) ?na0
  case ya0 => (intro wS hSw; have q0 := cell_of hSw 0; have q1 := cell_of hSw 1; go_simp; try rfl)
  try simp only [Act.put, List.setIfInBounds_toArray, List.set_cons_zero, List.set_cons_succ]
  refine wpAnyH_take (i := 1) (v := ?_) (ops_at rfl) (by kernel_rfl) (by kernel_rfl) (by kernel_rfl) (fun _ _ _ h => h) (Or.inl ⟨by rfl, ?ya1⟩) (by assumption) ?na1
  case ya1 => (intro wS hSw; have q0 := cell_of hSw 0; have q1 := cell_of hSw 1; go_simp; try rfl)
  try simp only [Act.put, List.setIfInBounds_toArray, List.set_cons_zero, List.set_cons_succ]
  refine wpAnyH_take (i := 2) (v := ?_) (ops_at rfl) (by kernel_rfl) (by kernel_rfl) (by kernel_rfl) (fun _ _ _ h => h) (Or.inl ⟨by rfl, ?ya2⟩) (by assumption) ?na2
  case ya2 => (intro wS hSw; have q0 := cell_of hSw 0; have q1 := cell_of hSw 1; go_simp; try rfl)
  try simp only [Act.put, List.setIfInBounds_toArray, List.set_cons_zero, List.set_cons_succ]
  refine wpAnyH_take (i := 3) (v := ?_) (ops_at rfl) (by kernel_rfl) (by kernel_rfl) (by kernel_rfl) (fun _ _ _ h => h) (Or.inl ⟨by rfl, ?ya3⟩) (by assumption) ?na3
  case ya3 => (intro wS hSw; have q0 := cell_of hSw 0; have q1 := cell_of hSw 1; go_simp; try rfl)
  try simp only [Act.put, List.setIfInBounds_toArray, List.set_cons_zero, List.set_cons_succ]
  refine wpAnyH_take (i := 4) (v := ?_) (ops_at rfl) (by kernel_rfl) (by kernel_rfl) (by kernel_rfl) (fun _ _ _ h => h) (Or.inl ⟨by rfl, ?ya4⟩) (by assumption) ?na4
  case ya4 => (intro wS hSw; have q0 := cell_of hSw 0; have q1 := cell_of hSw 1; go_simp; try rfl)
  try simp only [Act.put, List.setIfInBounds_toArray, List.set_cons_zero, List.set_cons_succ]
  refine wpAnyH_take (i := 5) (v := ?_) (ops_at rfl) (by kernel_rfl) (by kernel_rfl) (by kernel_rfl) (fun _ _ _ h => h) (Or.inl ⟨by rfl, ?ya5⟩) (by assumption) ?na5
  case ya5 => (intro wS hSw; have q0 := cell_of hSw 0; have q1 := cell_of hSw 1; go_simp; try rfl)
  try simp only [Act.put, List.setIfInBounds_toArray, List.set_cons_zero, List.set_cons_succ]
  refine wpAnyH_take (i := 6) (v := ?_) (ops_at rfl) (by kernel_rfl) (by kernel_rfl) (by kernel_rfl) (fun _ _ _ h => h) (Or.inl ⟨by rfl, ?ya6⟩) (by assumption) ?na6
  case ya6 => (intro wS hSw; have q0 := cell_of hSw 0; have q1 := cell_of hSw 1; go_simp; try rfl)
  try simp only [Act.put, List.setIfInBounds_toArray, List.set_cons_zero, List.set_cons_succ]
  refine wpAnyH_take (i := 7) (v := ?_) (ops_at rfl) (by kernel_rfl) (by kernel_rfl) (by kernel_rfl) (fun _ _ _ h => h) (Or.inl ⟨by rfl, ?ya7⟩) (by assumption) ?na7
  case ya7 => (intro wS hSw; have q0 := cell_of hSw 0; have q1 := cell_of hSw 1; go_simp; try rfl)
  try simp only [Act.put, List.setIfInBounds_toArray, List.set_cons_zero, List.set_cons_succ]
  refine wpAnyH_take (i := 8) (v := ?_) (ops_at rfl) (by kernel_rfl) (by kernel_rfl) (by kernel_rfl) (fun _ _ _ h => h) (Or.inl ⟨by rfl, ?ya8⟩) (by assumption) ?na8
  case ya8 => (intro wS hSw; have q0 := cell_of hSw 0; have q1 := cell_of hSw 1; go_simp; try rfl)
  try simp only [Act.put, List.setIfInBounds_toArray, List.set_cons_zero, List.set_cons_succ]
  have c0 : W.cell? ⟨w.heap.size + 1, 0, none⟩ = some (.int .i64 0) := cell_of m1 0
  have c1 : W.cell? ⟨w.heap.size + 1, 1, none⟩ = some (.slice none 0 0) := cell_of m1 1
  have f0 : W.frozen? ⟨w.heap.size + 1, 0, none⟩ = false := frozen_of m1 0
  have f1 : W.frozen? ⟨w.heap.size + 1, 1, none⟩ = false := frozen_of m1 1
  refine wpAnyH_ready (rs := [9]) (by kernel_rfl) (by simp) ?_
  refine AllReadyH.cons (ops_at rfl) (fun K hK => ?_) AllReadyH.nil
  go_simp
  refine hK.out _ _ ((set_far (p := ⟨w.heap.size + 1, 1, none⟩) _ (by simp) _).trans ((set_far (p := ⟨w.heap.size + 1, 0, none⟩) _ (by simp) _).trans m0)) (fun hR => ?_)
  clear hK K
  refine wpAnyH_done (by kernel_rfl) ?_ _
  go_wp2
  refine bodyPost_ret (v := pzV t A2 (h - l) (h - l)) (by simp [results, Try.results86, go_sem, c0, c1]) rfl ⟨rfl, ?_⟩
  exact ((below_drewN hBl 1).setCell (by simp) _).setCell (by simp) _

set_option maxRecDepth 100000 in
theorem grow_any (n : Nat) (hn : n ≤ 1000) (w : World) :
    Calls Try.prog 121 #[.slice none 0 0, .int .i64 (n : Int)] w fun e w' => ∃ v, e = .returned v ∧ w'.ownsRow w.heap.size 25 4 v 0 [] ∧ Below w.heap.size w w' := by
  obtain ⟨i0, hi0, hz0, hz1, hz2⟩ := info_parts clue_infoI
  by_cases h0 : n = 0
  · subst h0
    go_enter Try.func121, Try.ntmps121
    go_wp2
    go_ret
    exact ⟨_, rfl, World.ownsRow_nil _ _ _ _, Below.refl _ _⟩
  · have hr := Lib.run_append_nil_zeros (P := Try.prog) w 33 3 33 25 i0 _ .i64 .i64 Try.underlying33 Try.underlying3 hi0 hz0 n (by omega) (by omega) (by omega) (by rw [hz2]; omega)
    have hg1 := grownCap_ge w n 0 25
    have hg2 := grownCap_le_maxLen w n 0 25 (by unfold maxLen; omega)
    generalize grownCap w n 0 25 = cap at hr hg1 hg2
    go_enter Try.func121, Try.ntmps121
    go_wp2_with (at_builtin; refine Lib.wpList_append_run _ rfl _ _ _ _ rfl _ _ rfl rfl _ _ hr ?_)
    go_ret
    refine ⟨_, rfl, ⟨by simp, .inr ⟨w.heap.size, cap, _, rfl, Nat.le_refl _, new_at _ _ rfl, Nat.zero_le _, hg2, ?_, by simp⟩⟩, (Below.refl _ _).drew.alloc (Nat.le_refl _) _⟩
    simp [Builtin.zeroCells, Value.cells]
    omega
end Go.Proofs.Ytoheoojpmndhoaa

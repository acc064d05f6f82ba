/-
  The written program's test for a clue: what is none is raised, and comes to a recovered door.
  Conditions: none.
-/
import Derived.Test.YtoheoojpmndhoabDoorPzC
import Derived.Test.YtoheoojpmndhoabDoorMem
import Derived.Deep.RegionHeld3
import Derived.Deep.DeepCutAuto
import Derived.Defers
import Derived.Recover
import Derived.WalkLawsBesides
namespace Go.Proofs.YtoheoojpmndhoabDoor
set_option linter.unusedVariables false
set_option linter.unusedSimpArgs false
open Go.RowKit

theorem has_any (n lo hi : Int) (b : Bool) (hb : inB n lo hi = b) (w : World) :
    Calls Tryd.prog 46 #[.agg #[.int .i64 lo, .int .i64 hi], .int .i64 n] w fun e w' => e = .returned (.bool b) ∧ Below w.heap.size w w' := by
  cases b
  · rw [inB_false] at hb
    by_cases h1 : lo ≤ n
    · have h2 : ¬ n ≤ hi := by omega
      have h3 : decide (n ≤ hi) = false := by simpa using h2
      clear hb
      go_enter Tryd.func46, Tryd.ntmps46
      go_wp2
      go_ret
      exact ⟨rfl, (Below.refl _ _).alloc (Nat.le_refl _) _⟩
    · have h3 : decide (lo ≤ n) = false := by simpa using h1
      clear hb
      go_enter Tryd.func46, Tryd.ntmps46
      go_wp2
      go_ret
      exact ⟨rfl, (Below.refl _ _).alloc (Nat.le_refl _) _⟩
  · rw [inB_true] at hb
    obtain ⟨h1, h2⟩ := hb
    go_enter Tryd.func46, Tryd.ntmps46
    go_wp2
    go_ret
    exact ⟨rfl, (Below.refl _ _).alloc (Nat.le_refl _) _⟩

theorem canBeHidden_any (n : Int) (b : Bool) (hb : inB n 2 4 = b) (w : World) :
    Calls Tryd.prog 32 #[.int .i64 n] w fun e w' => e = .returned (.bool b) ∧ Below w.heap.size w w' := by
  go_enter Tryd.func32, Tryd.ntmps32
  go_wp2_with (go_at_call 46; refine (has_any _ _ _ b hb _).mono ?_; rintro e w' ⟨rfl, hb1⟩)
  go_ret
  exact ⟨rfl, hb1⟩

/-- The clue is raised, or not. -/
def RetM (ok : Bool) (c : Clu) (w : World) (e : Ending) (w' : World) : Prop :=
  e = (if ok = true then .returned (.tuple #[]) else .panicked [{ v := .iface 76 (clV c), recovered := false }]) ∧ Below w.heap.size w w'

theorem must_yes (k a b c : Int) (w : World) :
    Calls Tryd.prog 60 #[clV (k, a, b, c), .bool true] w fun e w' => e = .returned (.tuple #[]) ∧ Below w.heap.size w w' := by
  go_enter Tryd.func60, Tryd.ntmps60
  go_wp2
  go_end0
  exact ⟨rfl, (Below.refl _ _).alloc (Nat.le_refl _) _⟩

theorem must_no (k a b c : Int) (w : World) :
    Calls Tryd.prog 60 #[clV (k, a, b, c), .bool false] w fun e w' => e = .panicked [{ v := .iface 76 (clV (k, a, b, c)), recovered := false }] ∧ Below w.heap.size w w' := by
  go_enter Tryd.func60, Tryd.ntmps60
  go_wp2
  exact ⟨rfl, rfl, (Below.refl _ _).alloc (Nat.le_refl _) _⟩

set_option maxHeartbeats 1000000 in
theorem mustBeIn_yes (k a b c l0 g0 l1 g1 l2 g2 : Int) (hA : inB a l0 g0 = true) (hB : inB b l1 g1 = true) (hC : inB c l2 g2 = true) (w : World) :
    Calls Tryd.prog 61 #[clV (k, a, b, c), .agg #[.int .i64 l0, .int .i64 g0], .agg #[.int .i64 l1, .int .i64 g1], .agg #[.int .i64 l2, .int .i64 g2]] w fun e w' => e = .returned (.tuple #[]) ∧ Below w.heap.size w w' := by
  obtain ⟨W, hW⟩ : ∃ W, (((w.alloc (.cells #[.int .i64 k, .int .i64 a, .int .i64 b, .int .i64 c] 44)).alloc (.cells #[.int .i64 l0, .int .i64 g0] 75)).alloc (.cells #[.int .i64 l1, .int .i64 g1] 75)).alloc (.cells #[.int .i64 l2, .int .i64 g2] 75) = W := ⟨_, rfl⟩
  have hBl : Below w.heap.size w W := by rw [← hW]; exact ((((Below.refl _ _).alloc (Nat.le_refl _) _).alloc (by simp) _).alloc (by simp; omega) _).alloc (by simp; omega) _
  have m0 : W.heap[w.heap.size]? = some (.cells #[.int .i64 k, .int .i64 a, .int .i64 b, .int .i64 c] 44 (0, 0)) := by rw [← hW]; exact (alloc_old _ (by simp <;> omega) _).trans ((alloc_old _ (by simp <;> omega) _).trans ((alloc_old _ (by simp) _).trans (new_at _ _ rfl)))
  have m1 : W.heap[w.heap.size + 1]? = some (.cells #[.int .i64 l0, .int .i64 g0] 75 (0, 0)) := by rw [← hW]; exact (alloc_old _ (by simp) _).trans ((alloc_old _ (by simp) _).trans (new_at _ _ (by simp)))
  have m2 : W.heap[w.heap.size + 1 + 1]? = some (.cells #[.int .i64 l1, .int .i64 g1] 75 (0, 0)) := by rw [← hW]; exact (alloc_old _ (by simp) _).trans (new_at _ _ (by simp))
  have m3 : W.heap[w.heap.size + 1 + 1 + 1]? = some (.cells #[.int .i64 l2, .int .i64 g2] 75 (0, 0)) := by rw [← hW]; exact new_at _ _ (by simp)
  have HW := Lib.hid hW
  clear hW
  go_enter Tryd.func61, Tryd.ntmps61
  go_wp2_with fail
  rw [HW.out]
  refine wp_region_held_drew (S := fun wq => Below w.heap.size w wq ∧ wq.heap[w.heap.size]? = some (.cells #[.int .i64 k, .int .i64 a, .int .i64 b, .int .i64 c] 44 (0, 0)) ∧ wq.heap[w.heap.size + 1]? = some (.cells #[.int .i64 l0, .int .i64 g0] 75 (0, 0)) ∧ wq.heap[w.heap.size + 1 + 1]? = some (.cells #[.int .i64 l1, .int .i64 g1] 75 (0, 0)) ∧ wq.heap[w.heap.size + 1 + 1 + 1]? = some (.cells #[.int .i64 l2, .int .i64 g2] 75 (0, 0))) (by kernel_rfl) ⟨below_drewN hBl 1, m0, m1, m2, m3⟩ (fun hR0 => ?_)
  clear m0 m1 m2 m3
  refine wpAnyH_take (i := 0) (v := ?_) (ops_at rfl) (by kernel_rfl) (by kernel_rfl) (by kernel_rfl) (fun _ _ _ h => h) (Or.inl ⟨by rfl, ?ya0⟩) (by assumption) ?na0
  case ya0 => (intro wS hSw; obtain ⟨-, s0, s1, s2, s3⟩ := hSw; have q0 := cell_of s0 0; have q1 := cell_of s0 1; have q2 := cell_of s0 2; have q3 := cell_of s0 3; have q4 := cell_of s1 0; have q5 := cell_of s1 1; have q6 := cell_of s2 0; have q7 := cell_of s2 1; have q8 := cell_of s3 0; have q9 := cell_of s3 1; go_simp; try rfl)
  try simp only [Act.put, List.setIfInBounds_toArray, List.set_cons_zero, List.set_cons_succ]
  refine wpAnyH_take (i := 1) (v := ?_) (ops_at rfl) (by kernel_rfl) (by kernel_rfl) (by kernel_rfl) (fun _ _ _ h => h) (Or.inl ⟨by rfl, ?ya1⟩) (by assumption) ?na1
  case ya1 => (intro wS hSw; obtain ⟨-, s0, s1, s2, s3⟩ := hSw; have q0 := cell_of s0 0; have q1 := cell_of s0 1; have q2 := cell_of s0 2; have q3 := cell_of s0 3; have q4 := cell_of s1 0; have q5 := cell_of s1 1; have q6 := cell_of s2 0; have q7 := cell_of s2 1; have q8 := cell_of s3 0; have q9 := cell_of s3 1; go_simp; try rfl)
  try simp only [Act.put, List.setIfInBounds_toArray, List.set_cons_zero, List.set_cons_succ]
  refine wpAnyH_take (i := 2) (v := ?_) (ops_at rfl) (by kernel_rfl) (by kernel_rfl) (by kernel_rfl) (fun _ _ _ h => h) (Or.inl ⟨by rfl, ?ya2⟩) (by assumption) ?na2
  case ya2 => (intro wS hSw; obtain ⟨-, s0, s1, s2, s3⟩ := hSw; have q0 := cell_of s0 0; have q1 := cell_of s0 1; have q2 := cell_of s0 2; have q3 := cell_of s0 3; have q4 := cell_of s1 0; have q5 := cell_of s1 1; have q6 := cell_of s2 0; have q7 := cell_of s2 1; have q8 := cell_of s3 0; have q9 := cell_of s3 1; go_simp; try rfl)
  try simp only [Act.put, List.setIfInBounds_toArray, List.set_cons_zero, List.set_cons_succ]
  refine wpAnyH_take (i := 3) (v := ?_) (ops_at rfl) (by kernel_rfl) (by kernel_rfl) (by kernel_rfl) (fun _ _ _ h => h) (Or.inl ⟨by rfl, ?ya3⟩) (by assumption) ?na3
  case ya3 => (intro wS hSw; obtain ⟨-, s0, s1, s2, s3⟩ := hSw; have q0 := cell_of s0 0; have q1 := cell_of s0 1; have q2 := cell_of s0 2; have q3 := cell_of s0 3; have q4 := cell_of s1 0; have q5 := cell_of s1 1; have q6 := cell_of s2 0; have q7 := cell_of s2 1; have q8 := cell_of s3 0; have q9 := cell_of s3 1; go_simp; try rfl)
  try simp only [Act.put, List.setIfInBounds_toArray, List.set_cons_zero, List.set_cons_succ]
  refine wpAnyH_ready (rs := [4]) (by kernel_rfl) (by simp) ?_
  refine AllReadyH.cons (ops_at rfl) (fun K hK => ?_) AllReadyH.nil
  go_simp
  refine (has_any _ _ _ _ hA _).mono ?_
  rintro e w1 ⟨rfl, hb1⟩
  have hp1 := ((hR0).1.trans (hb1.mono (hR0).1.size))
  refine hK.out _ _ ⟨hp1, (hb1.block _ (heap_lt (hR0).2.1)).trans (hR0).2.1, (hb1.block _ (heap_lt (hR0).2.2.1)).trans (hR0).2.2.1, (hb1.block _ (heap_lt (hR0).2.2.2.1)).trans (hR0).2.2.2.1, (hb1.block _ (heap_lt (hR0).2.2.2.2)).trans (hR0).2.2.2.2⟩ (fun hR1 => ?_)
  clear hK K
  refine wpAnyH_take (i := 5) (v := ?_) (ops_at rfl) (by kernel_rfl) (by kernel_rfl) (by kernel_rfl) (fun _ _ _ h => h) (Or.inl ⟨by rfl, ?yb5⟩) (by assumption) ?nb5
  case yb5 => (intro wS hSw; obtain ⟨-, s0, s1, s2, s3⟩ := hSw; have q0 := cell_of s0 0; have q1 := cell_of s0 1; have q2 := cell_of s0 2; have q3 := cell_of s0 3; have q4 := cell_of s1 0; have q5 := cell_of s1 1; have q6 := cell_of s2 0; have q7 := cell_of s2 1; have q8 := cell_of s3 0; have q9 := cell_of s3 1; go_simp; try rfl)
  try simp only [Act.put, List.setIfInBounds_toArray, List.set_cons_zero, List.set_cons_succ]
  refine wpAnyH_take (i := 6) (v := ?_) (ops_at rfl) (by kernel_rfl) (by kernel_rfl) (by kernel_rfl) (fun _ _ _ h => h) (Or.inl ⟨by rfl, ?yc6⟩) (by assumption) ?nc6
  case yc6 => (intro wS hSw; obtain ⟨-, s0, s1, s2, s3⟩ := hSw; have q0 := cell_of s0 0; have q1 := cell_of s0 1; have q2 := cell_of s0 2; have q3 := cell_of s0 3; have q4 := cell_of s1 0; have q5 := cell_of s1 1; have q6 := cell_of s2 0; have q7 := cell_of s2 1; have q8 := cell_of s3 0; have q9 := cell_of s3 1; go_simp; try rfl)
  try simp only [Act.put, List.setIfInBounds_toArray, List.set_cons_zero, List.set_cons_succ]
  refine wpAnyH_take (i := 7) (v := ?_) (ops_at rfl) (by kernel_rfl) (by kernel_rfl) (by kernel_rfl) (fun _ _ _ h => h) (Or.inl ⟨by rfl, ?yc7⟩) (by assumption) ?nc7
  case yc7 => (intro wS hSw; obtain ⟨-, s0, s1, s2, s3⟩ := hSw; have q0 := cell_of s0 0; have q1 := cell_of s0 1; have q2 := cell_of s0 2; have q3 := cell_of s0 3; have q4 := cell_of s1 0; have q5 := cell_of s1 1; have q6 := cell_of s2 0; have q7 := cell_of s2 1; have q8 := cell_of s3 0; have q9 := cell_of s3 1; go_simp; try rfl)
  try simp only [Act.put, List.setIfInBounds_toArray, List.set_cons_zero, List.set_cons_succ]
  refine wpAnyH_take (i := 8) (v := ?_) (ops_at rfl) (by kernel_rfl) (by kernel_rfl) (by kernel_rfl) (fun _ _ _ h => h) (Or.inl ⟨by rfl, ?yc8⟩) (by assumption) ?nc8
  case yc8 => (intro wS hSw; obtain ⟨-, s0, s1, s2, s3⟩ := hSw; have q0 := cell_of s0 0; have q1 := cell_of s0 1; have q2 := cell_of s0 2; have q3 := cell_of s0 3; have q4 := cell_of s1 0; have q5 := cell_of s1 1; have q6 := cell_of s2 0; have q7 := cell_of s2 1; have q8 := cell_of s3 0; have q9 := cell_of s3 1; go_simp; try rfl)
  try simp only [Act.put, List.setIfInBounds_toArray, List.set_cons_zero, List.set_cons_succ]
  refine wpAnyH_ready (rs := [9]) (by kernel_rfl) (by simp) ?_
  refine AllReadyH.cons (ops_at rfl) (fun K hK => ?_) AllReadyH.nil
  go_simp
  refine (has_any _ _ _ _ hB _).mono ?_
  rintro e w2 ⟨rfl, hb2⟩
  have hp2 := ((hR1).1.trans (hb2.mono (hR1).1.size))
  refine hK.out _ _ ⟨hp2, (hb2.block _ (heap_lt (hR1).2.1)).trans (hR1).2.1, (hb2.block _ (heap_lt (hR1).2.2.1)).trans (hR1).2.2.1, (hb2.block _ (heap_lt (hR1).2.2.2.1)).trans (hR1).2.2.2.1, (hb2.block _ (heap_lt (hR1).2.2.2.2)).trans (hR1).2.2.2.2⟩ (fun hR2 => ?_)
  clear hK K
  refine wpAnyH_take (i := 10) (v := ?_) (ops_at rfl) (by kernel_rfl) (by kernel_rfl) (by kernel_rfl) (fun _ _ _ h => h) (Or.inl ⟨by rfl, ?yd10⟩) (by assumption) ?nd10
  case yd10 => (intro wS hSw; obtain ⟨-, s0, s1, s2, s3⟩ := hSw; have q0 := cell_of s0 0; have q1 := cell_of s0 1; have q2 := cell_of s0 2; have q3 := cell_of s0 3; have q4 := cell_of s1 0; have q5 := cell_of s1 1; have q6 := cell_of s2 0; have q7 := cell_of s2 1; have q8 := cell_of s3 0; have q9 := cell_of s3 1; go_simp; try rfl)
  try simp only [Act.put, List.setIfInBounds_toArray, List.set_cons_zero, List.set_cons_succ]
  refine wpAnyH_take (i := 11) (v := ?_) (ops_at rfl) (by kernel_rfl) (by kernel_rfl) (by kernel_rfl) (fun _ _ _ h => h) (Or.inl ⟨by rfl, ?yd11⟩) (by assumption) ?nd11
  case yd11 => (intro wS hSw; obtain ⟨-, s0, s1, s2, s3⟩ := hSw; have q0 := cell_of s0 0; have q1 := cell_of s0 1; have q2 := cell_of s0 2; have q3 := cell_of s0 3; have q4 := cell_of s1 0; have q5 := cell_of s1 1; have q6 := cell_of s2 0; have q7 := cell_of s2 1; have q8 := cell_of s3 0; have q9 := cell_of s3 1; go_simp; try rfl)
  try simp only [Act.put, List.setIfInBounds_toArray, List.set_cons_zero, List.set_cons_succ]
  refine wpAnyH_take (i := 12) (v := ?_) (ops_at rfl) (by kernel_rfl) (by kernel_rfl) (by kernel_rfl) (fun _ _ _ h => h) (Or.inl ⟨by rfl, ?ye12⟩) (by assumption) ?ne12
  case ye12 => (intro wS hSw; obtain ⟨-, s0, s1, s2, s3⟩ := hSw; have q0 := cell_of s0 0; have q1 := cell_of s0 1; have q2 := cell_of s0 2; have q3 := cell_of s0 3; have q4 := cell_of s1 0; have q5 := cell_of s1 1; have q6 := cell_of s2 0; have q7 := cell_of s2 1; have q8 := cell_of s3 0; have q9 := cell_of s3 1; go_simp; try rfl)
  try simp only [Act.put, List.setIfInBounds_toArray, List.set_cons_zero, List.set_cons_succ]
  refine wpAnyH_take (i := 13) (v := ?_) (ops_at rfl) (by kernel_rfl) (by kernel_rfl) (by kernel_rfl) (fun _ _ _ h => h) (Or.inl ⟨by rfl, ?ye13⟩) (by assumption) ?ne13
  case ye13 => (intro wS hSw; obtain ⟨-, s0, s1, s2, s3⟩ := hSw; have q0 := cell_of s0 0; have q1 := cell_of s0 1; have q2 := cell_of s0 2; have q3 := cell_of s0 3; have q4 := cell_of s1 0; have q5 := cell_of s1 1; have q6 := cell_of s2 0; have q7 := cell_of s2 1; have q8 := cell_of s3 0; have q9 := cell_of s3 1; go_simp; try rfl)
  try simp only [Act.put, List.setIfInBounds_toArray, List.set_cons_zero, List.set_cons_succ]
  refine wpAnyH_take (i := 14) (v := ?_) (ops_at rfl) (by kernel_rfl) (by kernel_rfl) (by kernel_rfl) (fun _ _ _ h => h) (Or.inl ⟨by rfl, ?ye14⟩) (by assumption) ?ne14
  case ye14 => (intro wS hSw; obtain ⟨-, s0, s1, s2, s3⟩ := hSw; have q0 := cell_of s0 0; have q1 := cell_of s0 1; have q2 := cell_of s0 2; have q3 := cell_of s0 3; have q4 := cell_of s1 0; have q5 := cell_of s1 1; have q6 := cell_of s2 0; have q7 := cell_of s2 1; have q8 := cell_of s3 0; have q9 := cell_of s3 1; go_simp; try rfl)
  try simp only [Act.put, List.setIfInBounds_toArray, List.set_cons_zero, List.set_cons_succ]
  refine wpAnyH_ready (rs := [15]) (by kernel_rfl) (by simp) ?_
  refine AllReadyH.cons (ops_at rfl) (fun K hK => ?_) AllReadyH.nil
  go_simp
  refine (has_any _ _ _ _ hC _).mono ?_
  rintro e w3 ⟨rfl, hb3⟩
  have hp3 := ((hR2).1.trans (hb3.mono (hR2).1.size))
  refine hK.out _ _ ⟨hp3, (hb3.block _ (heap_lt (hR2).2.1)).trans (hR2).2.1, (hb3.block _ (heap_lt (hR2).2.2.1)).trans (hR2).2.2.1, (hb3.block _ (heap_lt (hR2).2.2.2.1)).trans (hR2).2.2.2.1, (hb3.block _ (heap_lt (hR2).2.2.2.2)).trans (hR2).2.2.2.2⟩ (fun hR3 => ?_)
  clear hK K
  refine wpAnyH_take (i := 16) (v := ?_) (ops_at rfl) (by kernel_rfl) (by kernel_rfl) (by kernel_rfl) (fun _ _ _ h => h) (Or.inl ⟨by rfl, ?yf16⟩) (by assumption) ?nf16
  case yf16 => (intro wS hSw; obtain ⟨-, s0, s1, s2, s3⟩ := hSw; have q0 := cell_of s0 0; have q1 := cell_of s0 1; have q2 := cell_of s0 2; have q3 := cell_of s0 3; have q4 := cell_of s1 0; have q5 := cell_of s1 1; have q6 := cell_of s2 0; have q7 := cell_of s2 1; have q8 := cell_of s3 0; have q9 := cell_of s3 1; go_simp; try rfl)
  try simp only [Act.put, List.setIfInBounds_toArray, List.set_cons_zero, List.set_cons_succ]
  refine wpAnyH_ready (rs := [17]) (by kernel_rfl) (by simp) ?_
  refine AllReadyH.cons (ops_at rfl) (fun K hK => ?_) AllReadyH.nil
  go_simp
  refine (must_yes _ _ _ _ _).mono ?_
  rintro e w5 ⟨rfl, hb5⟩
  have hp5 := (hR3).1.trans (hb5.mono (hR3).1.size)
  refine hK.out _ _ ⟨hp5, (hb5.block _ (heap_lt (hR3).2.1)).trans (hR3).2.1, (hb5.block _ (heap_lt (hR3).2.2.1)).trans (hR3).2.2.1, (hb5.block _ (heap_lt (hR3).2.2.2.1)).trans (hR3).2.2.2.1, (hb5.block _ (heap_lt (hR3).2.2.2.2)).trans (hR3).2.2.2.2⟩ (fun hR5 => ?_)
  clear hK K
  refine wpAnyH_done (by kernel_rfl) ?_ _
  go_wp2
  go_end0
  exact ⟨rfl, hR5.1⟩

set_option maxHeartbeats 1000000 in
theorem mustBeIn_no3 (k a b c l0 g0 l1 g1 l2 g2 : Int) (hA : inB a l0 g0 = true) (hB : inB b l1 g1 = true) (hC : inB c l2 g2 = false) (w : World) :
    Calls Tryd.prog 61 #[clV (k, a, b, c), .agg #[.int .i64 l0, .int .i64 g0], .agg #[.int .i64 l1, .int .i64 g1], .agg #[.int .i64 l2, .int .i64 g2]] w fun e w' => e = .panicked [{ v := .iface 76 (clV (k, a, b, c)), recovered := false }] ∧ Below w.heap.size w w' := by
  obtain ⟨W, hW⟩ : ∃ W, (((w.alloc (.cells #[.int .i64 k, .int .i64 a, .int .i64 b, .int .i64 c] 44)).alloc (.cells #[.int .i64 l0, .int .i64 g0] 75)).alloc (.cells #[.int .i64 l1, .int .i64 g1] 75)).alloc (.cells #[.int .i64 l2, .int .i64 g2] 75) = W := ⟨_, rfl⟩
  have hBl : Below w.heap.size w W := by rw [← hW]; exact ((((Below.refl _ _).alloc (Nat.le_refl _) _).alloc (by simp) _).alloc (by simp; omega) _).alloc (by simp; omega) _
  have m0 : W.heap[w.heap.size]? = some (.cells #[.int .i64 k, .int .i64 a, .int .i64 b, .int .i64 c] 44 (0, 0)) := by rw [← hW]; exact (alloc_old _ (by simp <;> omega) _).trans ((alloc_old _ (by simp <;> omega) _).trans ((alloc_old _ (by simp) _).trans (new_at _ _ rfl)))
  have m1 : W.heap[w.heap.size + 1]? = some (.cells #[.int .i64 l0, .int .i64 g0] 75 (0, 0)) := by rw [← hW]; exact (alloc_old _ (by simp) _).trans ((alloc_old _ (by simp) _).trans (new_at _ _ (by simp)))
  have m2 : W.heap[w.heap.size + 1 + 1]? = some (.cells #[.int .i64 l1, .int .i64 g1] 75 (0, 0)) := by rw [← hW]; exact (alloc_old _ (by simp) _).trans (new_at _ _ (by simp))
  have m3 : W.heap[w.heap.size + 1 + 1 + 1]? = some (.cells #[.int .i64 l2, .int .i64 g2] 75 (0, 0)) := by rw [← hW]; exact new_at _ _ (by simp)
  have HW := Lib.hid hW
  clear hW
  go_enter Tryd.func61, Tryd.ntmps61
  go_wp2_with fail
  rw [HW.out]
  refine wp_region_held_drew (S := fun wq => Below w.heap.size w wq ∧ wq.heap[w.heap.size]? = some (.cells #[.int .i64 k, .int .i64 a, .int .i64 b, .int .i64 c] 44 (0, 0)) ∧ wq.heap[w.heap.size + 1]? = some (.cells #[.int .i64 l0, .int .i64 g0] 75 (0, 0)) ∧ wq.heap[w.heap.size + 1 + 1]? = some (.cells #[.int .i64 l1, .int .i64 g1] 75 (0, 0)) ∧ wq.heap[w.heap.size + 1 + 1 + 1]? = some (.cells #[.int .i64 l2, .int .i64 g2] 75 (0, 0))) (by kernel_rfl) ⟨below_drewN hBl 1, m0, m1, m2, m3⟩ (fun hR0 => ?_)
  clear m0 m1 m2 m3
  refine wpAnyH_take (i := 0) (v := ?_) (ops_at rfl) (by kernel_rfl) (by kernel_rfl) (by kernel_rfl) (fun _ _ _ h => h) (Or.inl ⟨by rfl, ?ya0⟩) (by assumption) ?na0
  case ya0 => (intro wS hSw; obtain ⟨-, s0, s1, s2, s3⟩ := hSw; have q0 := cell_of s0 0; have q1 := cell_of s0 1; have q2 := cell_of s0 2; have q3 := cell_of s0 3; have q4 := cell_of s1 0; have q5 := cell_of s1 1; have q6 := cell_of s2 0; have q7 := cell_of s2 1; have q8 := cell_of s3 0; have q9 := cell_of s3 1; go_simp; try rfl)
  try simp only [Act.put, List.setIfInBounds_toArray, List.set_cons_zero, List.set_cons_succ]
  refine wpAnyH_take (i := 1) (v := ?_) (ops_at rfl) (by kernel_rfl) (by kernel_rfl) (by kernel_rfl) (fun _ _ _ h => h) (Or.inl ⟨by rfl, ?ya1⟩) (by assumption) ?na1
  case ya1 => (intro wS hSw; obtain ⟨-, s0, s1, s2, s3⟩ := hSw; have q0 := cell_of s0 0; have q1 := cell_of s0 1; have q2 := cell_of s0 2; have q3 := cell_of s0 3; have q4 := cell_of s1 0; have q5 := cell_of s1 1; have q6 := cell_of s2 0; have q7 := cell_of s2 1; have q8 := cell_of s3 0; have q9 := cell_of s3 1; go_simp; try rfl)
  try simp only [Act.put, List.setIfInBounds_toArray, List.set_cons_zero, List.set_cons_succ]
  refine wpAnyH_take (i := 2) (v := ?_) (ops_at rfl) (by kernel_rfl) (by kernel_rfl) (by kernel_rfl) (fun _ _ _ h => h) (Or.inl ⟨by rfl, ?ya2⟩) (by assumption) ?na2
  case ya2 => (intro wS hSw; obtain ⟨-, s0, s1, s2, s3⟩ := hSw; have q0 := cell_of s0 0; have q1 := cell_of s0 1; have q2 := cell_of s0 2; have q3 := cell_of s0 3; have q4 := cell_of s1 0; have q5 := cell_of s1 1; have q6 := cell_of s2 0; have q7 := cell_of s2 1; have q8 := cell_of s3 0; have q9 := cell_of s3 1; go_simp; try rfl)
  try simp only [Act.put, List.setIfInBounds_toArray, List.set_cons_zero, List.set_cons_succ]
  refine wpAnyH_take (i := 3) (v := ?_) (ops_at rfl) (by kernel_rfl) (by kernel_rfl) (by kernel_rfl) (fun _ _ _ h => h) (Or.inl ⟨by rfl, ?ya3⟩) (by assumption) ?na3
  case ya3 => (intro wS hSw; obtain ⟨-, s0, s1, s2, s3⟩ := hSw; have q0 := cell_of s0 0; have q1 := cell_of s0 1; have q2 := cell_of s0 2; have q3 := cell_of s0 3; have q4 := cell_of s1 0; have q5 := cell_of s1 1; have q6 := cell_of s2 0; have q7 := cell_of s2 1; have q8 := cell_of s3 0; have q9 := cell_of s3 1; go_simp; try rfl)
  try simp only [Act.put, List.setIfInBounds_toArray, List.set_cons_zero, List.set_cons_succ]
  refine wpAnyH_ready (rs := [4]) (by kernel_rfl) (by simp) ?_
  refine AllReadyH.cons (ops_at rfl) (fun K hK => ?_) AllReadyH.nil
  go_simp
  refine (has_any _ _ _ _ hA _).mono ?_
  rintro e w1 ⟨rfl, hb1⟩
  have hp1 := ((hR0).1.trans (hb1.mono (hR0).1.size))
  refine hK.out _ _ ⟨hp1, (hb1.block _ (heap_lt (hR0).2.1)).trans (hR0).2.1, (hb1.block _ (heap_lt (hR0).2.2.1)).trans (hR0).2.2.1, (hb1.block _ (heap_lt (hR0).2.2.2.1)).trans (hR0).2.2.2.1, (hb1.block _ (heap_lt (hR0).2.2.2.2)).trans (hR0).2.2.2.2⟩ (fun hR1 => ?_)
  clear hK K
  refine wpAnyH_take (i := 5) (v := ?_) (ops_at rfl) (by kernel_rfl) (by kernel_rfl) (by kernel_rfl) (fun _ _ _ h => h) (Or.inl ⟨by rfl, ?yb5⟩) (by assumption) ?nb5
  case yb5 => (intro wS hSw; obtain ⟨-, s0, s1, s2, s3⟩ := hSw; have q0 := cell_of s0 0; have q1 := cell_of s0 1; have q2 := cell_of s0 2; have q3 := cell_of s0 3; have q4 := cell_of s1 0; have q5 := cell_of s1 1; have q6 := cell_of s2 0; have q7 := cell_of s2 1; have q8 := cell_of s3 0; have q9 := cell_of s3 1; go_simp; try rfl)
  try simp only [Act.put, List.setIfInBounds_toArray, List.set_cons_zero, List.set_cons_succ]
  refine wpAnyH_take (i := 6) (v := ?_) (ops_at rfl) (by kernel_rfl) (by kernel_rfl) (by kernel_rfl) (fun _ _ _ h => h) (Or.inl ⟨by rfl, ?yc6⟩) (by assumption) ?nc6
  case yc6 => (intro wS hSw; obtain ⟨-, s0, s1, s2, s3⟩ := hSw; have q0 := cell_of s0 0; have q1 := cell_of s0 1; have q2 := cell_of s0 2; have q3 := cell_of s0 3; have q4 := cell_of s1 0; have q5 := cell_of s1 1; have q6 := cell_of s2 0; have q7 := cell_of s2 1; have q8 := cell_of s3 0; have q9 := cell_of s3 1; go_simp; try rfl)
  try simp only [Act.put, List.setIfInBounds_toArray, List.set_cons_zero, List.set_cons_succ]
  refine wpAnyH_take (i := 7) (v := ?_) (ops_at rfl) (by kernel_rfl) (by kernel_rfl) (by kernel_rfl) (fun _ _ _ h => h) (Or.inl ⟨by rfl, ?yc7⟩) (by assumption) ?nc7
  case yc7 => (intro wS hSw; obtain ⟨-, s0, s1, s2, s3⟩ := hSw; have q0 := cell_of s0 0; have q1 := cell_of s0 1; have q2 := cell_of s0 2; have q3 := cell_of s0 3; have q4 := cell_of s1 0; have q5 := cell_of s1 1; have q6 := cell_of s2 0; have q7 := cell_of s2 1; have q8 := cell_of s3 0; have q9 := cell_of s3 1; go_simp; try rfl)
  try simp only [Act.put, List.setIfInBounds_toArray, List.set_cons_zero, List.set_cons_succ]
  refine wpAnyH_take (i := 8) (v := ?_) (ops_at rfl) (by kernel_rfl) (by kernel_rfl) (by kernel_rfl) (fun _ _ _ h => h) (Or.inl ⟨by rfl, ?yc8⟩) (by assumption) ?nc8
  case yc8 => (intro wS hSw; obtain ⟨-, s0, s1, s2, s3⟩ := hSw; have q0 := cell_of s0 0; have q1 := cell_of s0 1; have q2 := cell_of s0 2; have q3 := cell_of s0 3; have q4 := cell_of s1 0; have q5 := cell_of s1 1; have q6 := cell_of s2 0; have q7 := cell_of s2 1; have q8 := cell_of s3 0; have q9 := cell_of s3 1; go_simp; try rfl)
  try simp only [Act.put, List.setIfInBounds_toArray, List.set_cons_zero, List.set_cons_succ]
  refine wpAnyH_ready (rs := [9]) (by kernel_rfl) (by simp) ?_
  refine AllReadyH.cons (ops_at rfl) (fun K hK => ?_) AllReadyH.nil
  go_simp
  refine (has_any _ _ _ _ hB _).mono ?_
  rintro e w2 ⟨rfl, hb2⟩
  have hp2 := ((hR1).1.trans (hb2.mono (hR1).1.size))
  refine hK.out _ _ ⟨hp2, (hb2.block _ (heap_lt (hR1).2.1)).trans (hR1).2.1, (hb2.block _ (heap_lt (hR1).2.2.1)).trans (hR1).2.2.1, (hb2.block _ (heap_lt (hR1).2.2.2.1)).trans (hR1).2.2.2.1, (hb2.block _ (heap_lt (hR1).2.2.2.2)).trans (hR1).2.2.2.2⟩ (fun hR2 => ?_)
  clear hK K
  refine wpAnyH_take (i := 10) (v := ?_) (ops_at rfl) (by kernel_rfl) (by kernel_rfl) (by kernel_rfl) (fun _ _ _ h => h) (Or.inl ⟨by rfl, ?yd10⟩) (by assumption) ?nd10
  case yd10 => (intro wS hSw; obtain ⟨-, s0, s1, s2, s3⟩ := hSw; have q0 := cell_of s0 0; have q1 := cell_of s0 1; have q2 := cell_of s0 2; have q3 := cell_of s0 3; have q4 := cell_of s1 0; have q5 := cell_of s1 1; have q6 := cell_of s2 0; have q7 := cell_of s2 1; have q8 := cell_of s3 0; have q9 := cell_of s3 1; go_simp; try rfl)
  try simp only [Act.put, List.setIfInBounds_toArray, List.set_cons_zero, List.set_cons_succ]
  refine wpAnyH_take (i := 11) (v := ?_) (ops_at rfl) (by kernel_rfl) (by kernel_rfl) (by kernel_rfl) (fun _ _ _ h => h) (Or.inl ⟨by rfl, ?yd11⟩) (by assumption) ?nd11
  case yd11 => (intro wS hSw; obtain ⟨-, s0, s1, s2, s3⟩ := hSw; have q0 := cell_of s0 0; have q1 := cell_of s0 1; have q2 := cell_of s0 2; have q3 := cell_of s0 3; have q4 := cell_of s1 0; have q5 := cell_of s1 1; have q6 := cell_of s2 0; have q7 := cell_of s2 1; have q8 := cell_of s3 0; have q9 := cell_of s3 1; go_simp; try rfl)
  try simp only [Act.put, List.setIfInBounds_toArray, List.set_cons_zero, List.set_cons_succ]
  refine wpAnyH_take (i := 12) (v := ?_) (ops_at rfl) (by kernel_rfl) (by kernel_rfl) (by kernel_rfl) (fun _ _ _ h => h) (Or.inl ⟨by rfl, ?ye12⟩) (by assumption) ?ne12
  case ye12 => (intro wS hSw; obtain ⟨-, s0, s1, s2, s3⟩ := hSw; have q0 := cell_of s0 0; have q1 := cell_of s0 1; have q2 := cell_of s0 2; have q3 := cell_of s0 3; have q4 := cell_of s1 0; have q5 := cell_of s1 1; have q6 := cell_of s2 0; have q7 := cell_of s2 1; have q8 := cell_of s3 0; have q9 := cell_of s3 1; go_simp; try rfl)
  try simp only [Act.put, List.setIfInBounds_toArray, List.set_cons_zero, List.set_cons_succ]
  refine wpAnyH_take (i := 13) (v := ?_) (ops_at rfl) (by kernel_rfl) (by kernel_rfl) (by kernel_rfl) (fun _ _ _ h => h) (Or.inl ⟨by rfl, ?ye13⟩) (by assumption) ?ne13
  case ye13 => (intro wS hSw; obtain ⟨-, s0, s1, s2, s3⟩ := hSw; have q0 := cell_of s0 0; have q1 := cell_of s0 1; have q2 := cell_of s0 2; have q3 := cell_of s0 3; have q4 := cell_of s1 0; have q5 := cell_of s1 1; have q6 := cell_of s2 0; have q7 := cell_of s2 1; have q8 := cell_of s3 0; have q9 := cell_of s3 1; go_simp; try rfl)
  try simp only [Act.put, List.setIfInBounds_toArray, List.set_cons_zero, List.set_cons_succ]
  refine wpAnyH_take (i := 14) (v := ?_) (ops_at rfl) (by kernel_rfl) (by kernel_rfl) (by kernel_rfl) (fun _ _ _ h => h) (Or.inl ⟨by rfl, ?ye14⟩) (by assumption) ?ne14
  case ye14 => (intro wS hSw; obtain ⟨-, s0, s1, s2, s3⟩ := hSw; have q0 := cell_of s0 0; have q1 := cell_of s0 1; have q2 := cell_of s0 2; have q3 := cell_of s0 3; have q4 := cell_of s1 0; have q5 := cell_of s1 1; have q6 := cell_of s2 0; have q7 := cell_of s2 1; have q8 := cell_of s3 0; have q9 := cell_of s3 1; go_simp; try rfl)
  try simp only [Act.put, List.setIfInBounds_toArray, List.set_cons_zero, List.set_cons_succ]
  refine wpAnyH_ready (rs := [15]) (by kernel_rfl) (by simp) ?_
  refine AllReadyH.cons (ops_at rfl) (fun K hK => ?_) AllReadyH.nil
  go_simp
  refine (has_any _ _ _ _ hC _).mono ?_
  rintro e w3 ⟨rfl, hb3⟩
  have hp3 := ((hR2).1.trans (hb3.mono (hR2).1.size))
  refine hK.out _ _ ⟨hp3, (hb3.block _ (heap_lt (hR2).2.1)).trans (hR2).2.1, (hb3.block _ (heap_lt (hR2).2.2.1)).trans (hR2).2.2.1, (hb3.block _ (heap_lt (hR2).2.2.2.1)).trans (hR2).2.2.2.1, (hb3.block _ (heap_lt (hR2).2.2.2.2)).trans (hR2).2.2.2.2⟩ (fun hR3 => ?_)
  clear hK K
  refine wpAnyH_take (i := 16) (v := ?_) (ops_at rfl) (by kernel_rfl) (by kernel_rfl) (by kernel_rfl) (fun _ _ _ h => h) (Or.inl ⟨by rfl, ?yf16⟩) (by assumption) ?nf16
  case yf16 => (intro wS hSw; obtain ⟨-, s0, s1, s2, s3⟩ := hSw; have q0 := cell_of s0 0; have q1 := cell_of s0 1; have q2 := cell_of s0 2; have q3 := cell_of s0 3; have q4 := cell_of s1 0; have q5 := cell_of s1 1; have q6 := cell_of s2 0; have q7 := cell_of s2 1; have q8 := cell_of s3 0; have q9 := cell_of s3 1; go_simp; try rfl)
  try simp only [Act.put, List.setIfInBounds_toArray, List.set_cons_zero, List.set_cons_succ]
  refine wpAnyH_ready (rs := [17]) (by kernel_rfl) (by simp) ?_
  refine AllReadyH.cons (ops_at rfl) (fun K hK => ?_) AllReadyH.nil
  go_simp
  refine (must_no _ _ _ _ _).mono ?_
  rintro e w5 ⟨rfl, hb5⟩
  exact ⟨rfl, rfl, (hR3).1.trans (hb5.mono (hR3).1.size)⟩

set_option maxHeartbeats 1000000 in
theorem mustBeIn_no2 (k a b c l0 g0 l1 g1 l2 g2 : Int) (hA : inB a l0 g0 = true) (hB : inB b l1 g1 = false) (w : World) :
    Calls Tryd.prog 61 #[clV (k, a, b, c), .agg #[.int .i64 l0, .int .i64 g0], .agg #[.int .i64 l1, .int .i64 g1], .agg #[.int .i64 l2, .int .i64 g2]] w fun e w' => e = .panicked [{ v := .iface 76 (clV (k, a, b, c)), recovered := false }] ∧ Below w.heap.size w w' := by
  obtain ⟨W, hW⟩ : ∃ W, (((w.alloc (.cells #[.int .i64 k, .int .i64 a, .int .i64 b, .int .i64 c] 44)).alloc (.cells #[.int .i64 l0, .int .i64 g0] 75)).alloc (.cells #[.int .i64 l1, .int .i64 g1] 75)).alloc (.cells #[.int .i64 l2, .int .i64 g2] 75) = W := ⟨_, rfl⟩
  have hBl : Below w.heap.size w W := by rw [← hW]; exact ((((Below.refl _ _).alloc (Nat.le_refl _) _).alloc (by simp) _).alloc (by simp; omega) _).alloc (by simp; omega) _
  have m0 : W.heap[w.heap.size]? = some (.cells #[.int .i64 k, .int .i64 a, .int .i64 b, .int .i64 c] 44 (0, 0)) := by rw [← hW]; exact (alloc_old _ (by simp <;> omega) _).trans ((alloc_old _ (by simp <;> omega) _).trans ((alloc_old _ (by simp) _).trans (new_at _ _ rfl)))
  have m1 : W.heap[w.heap.size + 1]? = some (.cells #[.int .i64 l0, .int .i64 g0] 75 (0, 0)) := by rw [← hW]; exact (alloc_old _ (by simp) _).trans ((alloc_old _ (by simp) _).trans (new_at _ _ (by simp)))
  have m2 : W.heap[w.heap.size + 1 + 1]? = some (.cells #[.int .i64 l1, .int .i64 g1] 75 (0, 0)) := by rw [← hW]; exact (alloc_old _ (by simp) _).trans (new_at _ _ (by simp))
  have m3 : W.heap[w.heap.size + 1 + 1 + 1]? = some (.cells #[.int .i64 l2, .int .i64 g2] 75 (0, 0)) := by rw [← hW]; exact new_at _ _ (by simp)
  have HW := Lib.hid hW
  clear hW
  go_enter Tryd.func61, Tryd.ntmps61
  go_wp2_with fail
  rw [HW.out]
  refine wp_region_held_drew (S := fun wq => Below w.heap.size w wq ∧ wq.heap[w.heap.size]? = some (.cells #[.int .i64 k, .int .i64 a, .int .i64 b, .int .i64 c] 44 (0, 0)) ∧ wq.heap[w.heap.size + 1]? = some (.cells #[.int .i64 l0, .int .i64 g0] 75 (0, 0)) ∧ wq.heap[w.heap.size + 1 + 1]? = some (.cells #[.int .i64 l1, .int .i64 g1] 75 (0, 0)) ∧ wq.heap[w.heap.size + 1 + 1 + 1]? = some (.cells #[.int .i64 l2, .int .i64 g2] 75 (0, 0))) (by kernel_rfl) ⟨below_drewN hBl 1, m0, m1, m2, m3⟩ (fun hR0 => ?_)
  clear m0 m1 m2 m3
  refine wpAnyH_take (i := 0) (v := ?_) (ops_at rfl) (by kernel_rfl) (by kernel_rfl) (by kernel_rfl) (fun _ _ _ h => h) (Or.inl ⟨by rfl, ?ya0⟩) (by assumption) ?na0
  case ya0 => (intro wS hSw; obtain ⟨-, s0, s1, s2, s3⟩ := hSw; have q0 := cell_of s0 0; have q1 := cell_of s0 1; have q2 := cell_of s0 2; have q3 := cell_of s0 3; have q4 := cell_of s1 0; have q5 := cell_of s1 1; have q6 := cell_of s2 0; have q7 := cell_of s2 1; have q8 := cell_of s3 0; have q9 := cell_of s3 1; go_simp; try rfl)
  try simp only [Act.put, List.setIfInBounds_toArray, List.set_cons_zero, List.set_cons_succ]
  refine wpAnyH_take (i := 1) (v := ?_) (ops_at rfl) (by kernel_rfl) (by kernel_rfl) (by kernel_rfl) (fun _ _ _ h => h) (Or.inl ⟨by rfl, ?ya1⟩) (by assumption) ?na1
  case ya1 => (intro wS hSw; obtain ⟨-, s0, s1, s2, s3⟩ := hSw; have q0 := cell_of s0 0; have q1 := cell_of s0 1; have q2 := cell_of s0 2; have q3 := cell_of s0 3; have q4 := cell_of s1 0; have q5 := cell_of s1 1; have q6 := cell_of s2 0; have q7 := cell_of s2 1; have q8 := cell_of s3 0; have q9 := cell_of s3 1; go_simp; try rfl)
  try simp only [Act.put, List.setIfInBounds_toArray, List.set_cons_zero, List.set_cons_succ]
  refine wpAnyH_take (i := 2) (v := ?_) (ops_at rfl) (by kernel_rfl) (by kernel_rfl) (by kernel_rfl) (fun _ _ _ h => h) (Or.inl ⟨by rfl, ?ya2⟩) (by assumption) ?na2
  case ya2 => (intro wS hSw; obtain ⟨-, s0, s1, s2, s3⟩ := hSw; have q0 := cell_of s0 0; have q1 := cell_of s0 1; have q2 := cell_of s0 2; have q3 := cell_of s0 3; have q4 := cell_of s1 0; have q5 := cell_of s1 1; have q6 := cell_of s2 0; have q7 := cell_of s2 1; have q8 := cell_of s3 0; have q9 := cell_of s3 1; go_simp; try rfl)
  try simp only [Act.put, List.setIfInBounds_toArray, List.set_cons_zero, List.set_cons_succ]
  refine wpAnyH_take (i := 3) (v := ?_) (ops_at rfl) (by kernel_rfl) (by kernel_rfl) (by kernel_rfl) (fun _ _ _ h => h) (Or.inl ⟨by rfl, ?ya3⟩) (by assumption) ?na3
  case ya3 => (intro wS hSw; obtain ⟨-, s0, s1, s2, s3⟩ := hSw; have q0 := cell_of s0 0; have q1 := cell_of s0 1; have q2 := cell_of s0 2; have q3 := cell_of s0 3; have q4 := cell_of s1 0; have q5 := cell_of s1 1; have q6 := cell_of s2 0; have q7 := cell_of s2 1; have q8 := cell_of s3 0; have q9 := cell_of s3 1; go_simp; try rfl)
  try simp only [Act.put, List.setIfInBounds_toArray, List.set_cons_zero, List.set_cons_succ]
  refine wpAnyH_ready (rs := [4]) (by kernel_rfl) (by simp) ?_
  refine AllReadyH.cons (ops_at rfl) (fun K hK => ?_) AllReadyH.nil
  go_simp
  refine (has_any _ _ _ _ hA _).mono ?_
  rintro e w1 ⟨rfl, hb1⟩
  have hp1 := ((hR0).1.trans (hb1.mono (hR0).1.size))
  refine hK.out _ _ ⟨hp1, (hb1.block _ (heap_lt (hR0).2.1)).trans (hR0).2.1, (hb1.block _ (heap_lt (hR0).2.2.1)).trans (hR0).2.2.1, (hb1.block _ (heap_lt (hR0).2.2.2.1)).trans (hR0).2.2.2.1, (hb1.block _ (heap_lt (hR0).2.2.2.2)).trans (hR0).2.2.2.2⟩ (fun hR1 => ?_)
  clear hK K
  refine wpAnyH_take (i := 5) (v := ?_) (ops_at rfl) (by kernel_rfl) (by kernel_rfl) (by kernel_rfl) (fun _ _ _ h => h) (Or.inl ⟨by rfl, ?yb5⟩) (by assumption) ?nb5
  case yb5 => (intro wS hSw; obtain ⟨-, s0, s1, s2, s3⟩ := hSw; have q0 := cell_of s0 0; have q1 := cell_of s0 1; have q2 := cell_of s0 2; have q3 := cell_of s0 3; have q4 := cell_of s1 0; have q5 := cell_of s1 1; have q6 := cell_of s2 0; have q7 := cell_of s2 1; have q8 := cell_of s3 0; have q9 := cell_of s3 1; go_simp; try rfl)
  try simp only [Act.put, List.setIfInBounds_toArray, List.set_cons_zero, List.set_cons_succ]
  refine wpAnyH_take (i := 6) (v := ?_) (ops_at rfl) (by kernel_rfl) (by kernel_rfl) (by kernel_rfl) (fun _ _ _ h => h) (Or.inl ⟨by rfl, ?yc6⟩) (by assumption) ?nc6
  case yc6 => (intro wS hSw; obtain ⟨-, s0, s1, s2, s3⟩ := hSw; have q0 := cell_of s0 0; have q1 := cell_of s0 1; have q2 := cell_of s0 2; have q3 := cell_of s0 3; have q4 := cell_of s1 0; have q5 := cell_of s1 1; have q6 := cell_of s2 0; have q7 := cell_of s2 1; have q8 := cell_of s3 0; have q9 := cell_of s3 1; go_simp; try rfl)
  try simp only [Act.put, List.setIfInBounds_toArray, List.set_cons_zero, List.set_cons_succ]
  refine wpAnyH_take (i := 7) (v := ?_) (ops_at rfl) (by kernel_rfl) (by kernel_rfl) (by kernel_rfl) (fun _ _ _ h => h) (Or.inl ⟨by rfl, ?yc7⟩) (by assumption) ?nc7
  case yc7 => (intro wS hSw; obtain ⟨-, s0, s1, s2, s3⟩ := hSw; have q0 := cell_of s0 0; have q1 := cell_of s0 1; have q2 := cell_of s0 2; have q3 := cell_of s0 3; have q4 := cell_of s1 0; have q5 := cell_of s1 1; have q6 := cell_of s2 0; have q7 := cell_of s2 1; have q8 := cell_of s3 0; have q9 := cell_of s3 1; go_simp; try rfl)
  try simp only [Act.put, List.setIfInBounds_toArray, List.set_cons_zero, List.set_cons_succ]
  refine wpAnyH_take (i := 8) (v := ?_) (ops_at rfl) (by kernel_rfl) (by kernel_rfl) (by kernel_rfl) (fun _ _ _ h => h) (Or.inl ⟨by rfl, ?yc8⟩) (by assumption) ?nc8
  case yc8 => (intro wS hSw; obtain ⟨-, s0, s1, s2, s3⟩ := hSw; have q0 := cell_of s0 0; have q1 := cell_of s0 1; have q2 := cell_of s0 2; have q3 := cell_of s0 3; have q4 := cell_of s1 0; have q5 := cell_of s1 1; have q6 := cell_of s2 0; have q7 := cell_of s2 1; have q8 := cell_of s3 0; have q9 := cell_of s3 1; go_simp; try rfl)
  try simp only [Act.put, List.setIfInBounds_toArray, List.set_cons_zero, List.set_cons_succ]
  refine wpAnyH_ready (rs := [9]) (by kernel_rfl) (by simp) ?_
  refine AllReadyH.cons (ops_at rfl) (fun K hK => ?_) AllReadyH.nil
  go_simp
  refine (has_any _ _ _ _ hB _).mono ?_
  rintro e w2 ⟨rfl, hb2⟩
  have hp2 := ((hR1).1.trans (hb2.mono (hR1).1.size))
  refine hK.out _ _ ⟨hp2, (hb2.block _ (heap_lt (hR1).2.1)).trans (hR1).2.1, (hb2.block _ (heap_lt (hR1).2.2.1)).trans (hR1).2.2.1, (hb2.block _ (heap_lt (hR1).2.2.2.1)).trans (hR1).2.2.2.1, (hb2.block _ (heap_lt (hR1).2.2.2.2)).trans (hR1).2.2.2.2⟩ (fun hR2 => ?_)
  clear hK K
  refine wpAnyH_take (i := 10) (v := ?_) (ops_at rfl) (by kernel_rfl) (by kernel_rfl) (by kernel_rfl) (fun _ _ _ h => h) (Or.inl ⟨by rfl, ?yd10⟩) (by assumption) ?nd10
  case yd10 => (intro wS hSw; obtain ⟨-, s0, s1, s2, s3⟩ := hSw; have q0 := cell_of s0 0; have q1 := cell_of s0 1; have q2 := cell_of s0 2; have q3 := cell_of s0 3; have q4 := cell_of s1 0; have q5 := cell_of s1 1; have q6 := cell_of s2 0; have q7 := cell_of s2 1; have q8 := cell_of s3 0; have q9 := cell_of s3 1; go_simp; try rfl)
  try simp only [Act.put, List.setIfInBounds_toArray, List.set_cons_zero, List.set_cons_succ]
  refine wpAnyH_take (i := 11) (v := ?_) (ops_at rfl) (by kernel_rfl) (by kernel_rfl) (by kernel_rfl) (fun _ _ _ h => h) (Or.inl ⟨by rfl, ?yd11⟩) (by assumption) ?nd11
  case yd11 => (intro wS hSw; obtain ⟨-, s0, s1, s2, s3⟩ := hSw; have q0 := cell_of s0 0; have q1 := cell_of s0 1; have q2 := cell_of s0 2; have q3 := cell_of s0 3; have q4 := cell_of s1 0; have q5 := cell_of s1 1; have q6 := cell_of s2 0; have q7 := cell_of s2 1; have q8 := cell_of s3 0; have q9 := cell_of s3 1; go_simp; try rfl)
  try simp only [Act.put, List.setIfInBounds_toArray, List.set_cons_zero, List.set_cons_succ]
  refine wpAnyH_take (i := 12) (v := undef) (ops_at rfl) (by kernel_rfl) (by kernel_rfl) (by kernel_rfl) (fun _ _ _ h => h) (Or.inr ⟨by rfl, rfl⟩) (by assumption) ?_
  try simp only [Act.put, List.setIfInBounds_toArray, List.set_cons_zero, List.set_cons_succ]
  refine wpAnyH_take (i := 13) (v := undef) (ops_at rfl) (by kernel_rfl) (by kernel_rfl) (by kernel_rfl) (fun _ _ _ h => h) (Or.inr ⟨by rfl, rfl⟩) (by assumption) ?_
  try simp only [Act.put, List.setIfInBounds_toArray, List.set_cons_zero, List.set_cons_succ]
  refine wpAnyH_take (i := 14) (v := undef) (ops_at rfl) (by kernel_rfl) (by kernel_rfl) (by kernel_rfl) (fun _ _ _ h => h) (Or.inr ⟨by rfl, rfl⟩) (by assumption) ?_
  try simp only [Act.put, List.setIfInBounds_toArray, List.set_cons_zero, List.set_cons_succ]
  refine wpAnyH_take (i := 15) (v := undef) (ops_at rfl) (by kernel_rfl) (by kernel_rfl) (by kernel_rfl) (fun _ _ _ h => h) (Or.inr ⟨by rfl, rfl⟩) (by assumption) ?_
  try simp only [Act.put, List.setIfInBounds_toArray, List.set_cons_zero, List.set_cons_succ]
  refine wpAnyH_take (i := 16) (v := ?_) (ops_at rfl) (by kernel_rfl) (by kernel_rfl) (by kernel_rfl) (fun _ _ _ h => h) (Or.inl ⟨by rfl, ?yf16⟩) (by assumption) ?nf16
  case yf16 => (intro wS hSw; obtain ⟨-, s0, s1, s2, s3⟩ := hSw; have q0 := cell_of s0 0; have q1 := cell_of s0 1; have q2 := cell_of s0 2; have q3 := cell_of s0 3; have q4 := cell_of s1 0; have q5 := cell_of s1 1; have q6 := cell_of s2 0; have q7 := cell_of s2 1; have q8 := cell_of s3 0; have q9 := cell_of s3 1; go_simp; try rfl)
  try simp only [Act.put, List.setIfInBounds_toArray, List.set_cons_zero, List.set_cons_succ]
  refine wpAnyH_ready (rs := [17]) (by kernel_rfl) (by simp) ?_
  refine AllReadyH.cons (ops_at rfl) (fun K hK => ?_) AllReadyH.nil
  go_simp
  refine (must_no _ _ _ _ _).mono ?_
  rintro e w5 ⟨rfl, hb5⟩
  exact ⟨rfl, rfl, (hR2).1.trans (hb5.mono (hR2).1.size)⟩

set_option maxHeartbeats 1000000 in
theorem mustBeIn_no1 (k a b c l0 g0 l1 g1 l2 g2 : Int) (hA : inB a l0 g0 = false) (w : World) :
    Calls Tryd.prog 61 #[clV (k, a, b, c), .agg #[.int .i64 l0, .int .i64 g0], .agg #[.int .i64 l1, .int .i64 g1], .agg #[.int .i64 l2, .int .i64 g2]] w fun e w' => e = .panicked [{ v := .iface 76 (clV (k, a, b, c)), recovered := false }] ∧ Below w.heap.size w w' := by
  obtain ⟨W, hW⟩ : ∃ W, (((w.alloc (.cells #[.int .i64 k, .int .i64 a, .int .i64 b, .int .i64 c] 44)).alloc (.cells #[.int .i64 l0, .int .i64 g0] 75)).alloc (.cells #[.int .i64 l1, .int .i64 g1] 75)).alloc (.cells #[.int .i64 l2, .int .i64 g2] 75) = W := ⟨_, rfl⟩
  have hBl : Below w.heap.size w W := by rw [← hW]; exact ((((Below.refl _ _).alloc (Nat.le_refl _) _).alloc (by simp) _).alloc (by simp; omega) _).alloc (by simp; omega) _
  have m0 : W.heap[w.heap.size]? = some (.cells #[.int .i64 k, .int .i64 a, .int .i64 b, .int .i64 c] 44 (0, 0)) := by rw [← hW]; exact (alloc_old _ (by simp <;> omega) _).trans ((alloc_old _ (by simp <;> omega) _).trans ((alloc_old _ (by simp) _).trans (new_at _ _ rfl)))
  have m1 : W.heap[w.heap.size + 1]? = some (.cells #[.int .i64 l0, .int .i64 g0] 75 (0, 0)) := by rw [← hW]; exact (alloc_old _ (by simp) _).trans ((alloc_old _ (by simp) _).trans (new_at _ _ (by simp)))
  have m2 : W.heap[w.heap.size + 1 + 1]? = some (.cells #[.int .i64 l1, .int .i64 g1] 75 (0, 0)) := by rw [← hW]; exact (alloc_old _ (by simp) _).trans (new_at _ _ (by simp))
  have m3 : W.heap[w.heap.size + 1 + 1 + 1]? = some (.cells #[.int .i64 l2, .int .i64 g2] 75 (0, 0)) := by rw [← hW]; exact new_at _ _ (by simp)
  have HW := Lib.hid hW
  clear hW
  go_enter Tryd.func61, Tryd.ntmps61
  go_wp2_with fail
  rw [HW.out]
  refine wp_region_held_drew (S := fun wq => Below w.heap.size w wq ∧ wq.heap[w.heap.size]? = some (.cells #[.int .i64 k, .int .i64 a, .int .i64 b, .int .i64 c] 44 (0, 0)) ∧ wq.heap[w.heap.size + 1]? = some (.cells #[.int .i64 l0, .int .i64 g0] 75 (0, 0)) ∧ wq.heap[w.heap.size + 1 + 1]? = some (.cells #[.int .i64 l1, .int .i64 g1] 75 (0, 0)) ∧ wq.heap[w.heap.size + 1 + 1 + 1]? = some (.cells #[.int .i64 l2, .int .i64 g2] 75 (0, 0))) (by kernel_rfl) ⟨below_drewN hBl 1, m0, m1, m2, m3⟩ (fun hR0 => ?_)
  clear m0 m1 m2 m3
  refine wpAnyH_take (i := 0) (v := ?_) (ops_at rfl) (by kernel_rfl) (by kernel_rfl) (by kernel_rfl) (fun _ _ _ h => h) (Or.inl ⟨by rfl, ?ya0⟩) (by assumption) ?na0
  case ya0 => (intro wS hSw; obtain ⟨-, s0, s1, s2, s3⟩ := hSw; have q0 := cell_of s0 0; have q1 := cell_of s0 1; have q2 := cell_of s0 2; have q3 := cell_of s0 3; have q4 := cell_of s1 0; have q5 := cell_of s1 1; have q6 := cell_of s2 0; have q7 := cell_of s2 1; have q8 := cell_of s3 0; have q9 := cell_of s3 1; go_simp; try rfl)
  try simp only [Act.put, List.setIfInBounds_toArray, List.set_cons_zero, List.set_cons_succ]
  refine wpAnyH_take (i := 1) (v := ?_) (ops_at rfl) (by kernel_rfl) (by kernel_rfl) (by kernel_rfl) (fun _ _ _ h => h) (Or.inl ⟨by rfl, ?ya1⟩) (by assumption) ?na1
  case ya1 => (intro wS hSw; obtain ⟨-, s0, s1, s2, s3⟩ := hSw; have q0 := cell_of s0 0; have q1 := cell_of s0 1; have q2 := cell_of s0 2; have q3 := cell_of s0 3; have q4 := cell_of s1 0; have q5 := cell_of s1 1; have q6 := cell_of s2 0; have q7 := cell_of s2 1; have q8 := cell_of s3 0; have q9 := cell_of s3 1; go_simp; try rfl)
  try simp only [Act.put, List.setIfInBounds_toArray, List.set_cons_zero, List.set_cons_succ]
  refine wpAnyH_take (i := 2) (v := ?_) (ops_at rfl) (by kernel_rfl) (by kernel_rfl) (by kernel_rfl) (fun _ _ _ h => h) (Or.inl ⟨by rfl, ?ya2⟩) (by assumption) ?na2
  case ya2 => (intro wS hSw; obtain ⟨-, s0, s1, s2, s3⟩ := hSw; have q0 := cell_of s0 0; have q1 := cell_of s0 1; have q2 := cell_of s0 2; have q3 := cell_of s0 3; have q4 := cell_of s1 0; have q5 := cell_of s1 1; have q6 := cell_of s2 0; have q7 := cell_of s2 1; have q8 := cell_of s3 0; have q9 := cell_of s3 1; go_simp; try rfl)
  try simp only [Act.put, List.setIfInBounds_toArray, List.set_cons_zero, List.set_cons_succ]
  refine wpAnyH_take (i := 3) (v := ?_) (ops_at rfl) (by kernel_rfl) (by kernel_rfl) (by kernel_rfl) (fun _ _ _ h => h) (Or.inl ⟨by rfl, ?ya3⟩) (by assumption) ?na3
  case ya3 => (intro wS hSw; obtain ⟨-, s0, s1, s2, s3⟩ := hSw; have q0 := cell_of s0 0; have q1 := cell_of s0 1; have q2 := cell_of s0 2; have q3 := cell_of s0 3; have q4 := cell_of s1 0; have q5 := cell_of s1 1; have q6 := cell_of s2 0; have q7 := cell_of s2 1; have q8 := cell_of s3 0; have q9 := cell_of s3 1; go_simp; try rfl)
  try simp only [Act.put, List.setIfInBounds_toArray, List.set_cons_zero, List.set_cons_succ]
  refine wpAnyH_ready (rs := [4]) (by kernel_rfl) (by simp) ?_
  refine AllReadyH.cons (ops_at rfl) (fun K hK => ?_) AllReadyH.nil
  go_simp
  refine (has_any _ _ _ _ hA _).mono ?_
  rintro e w1 ⟨rfl, hb1⟩
  have hp1 := ((hR0).1.trans (hb1.mono (hR0).1.size))
  refine hK.out _ _ ⟨hp1, (hb1.block _ (heap_lt (hR0).2.1)).trans (hR0).2.1, (hb1.block _ (heap_lt (hR0).2.2.1)).trans (hR0).2.2.1, (hb1.block _ (heap_lt (hR0).2.2.2.1)).trans (hR0).2.2.2.1, (hb1.block _ (heap_lt (hR0).2.2.2.2)).trans (hR0).2.2.2.2⟩ (fun hR1 => ?_)
  clear hK K
  refine wpAnyH_take (i := 5) (v := ?_) (ops_at rfl) (by kernel_rfl) (by kernel_rfl) (by kernel_rfl) (fun _ _ _ h => h) (Or.inl ⟨by rfl, ?yb5⟩) (by assumption) ?nb5
  case yb5 => (intro wS hSw; obtain ⟨-, s0, s1, s2, s3⟩ := hSw; have q0 := cell_of s0 0; have q1 := cell_of s0 1; have q2 := cell_of s0 2; have q3 := cell_of s0 3; have q4 := cell_of s1 0; have q5 := cell_of s1 1; have q6 := cell_of s2 0; have q7 := cell_of s2 1; have q8 := cell_of s3 0; have q9 := cell_of s3 1; go_simp; try rfl)
  try simp only [Act.put, List.setIfInBounds_toArray, List.set_cons_zero, List.set_cons_succ]
  refine wpAnyH_take (i := 6) (v := undef) (ops_at rfl) (by kernel_rfl) (by kernel_rfl) (by kernel_rfl) (fun _ _ _ h => h) (Or.inr ⟨by rfl, rfl⟩) (by assumption) ?_
  try simp only [Act.put, List.setIfInBounds_toArray, List.set_cons_zero, List.set_cons_succ]
  refine wpAnyH_take (i := 7) (v := undef) (ops_at rfl) (by kernel_rfl) (by kernel_rfl) (by kernel_rfl) (fun _ _ _ h => h) (Or.inr ⟨by rfl, rfl⟩) (by assumption) ?_
  try simp only [Act.put, List.setIfInBounds_toArray, List.set_cons_zero, List.set_cons_succ]
  refine wpAnyH_take (i := 8) (v := undef) (ops_at rfl) (by kernel_rfl) (by kernel_rfl) (by kernel_rfl) (fun _ _ _ h => h) (Or.inr ⟨by rfl, rfl⟩) (by assumption) ?_
  try simp only [Act.put, List.setIfInBounds_toArray, List.set_cons_zero, List.set_cons_succ]
  refine wpAnyH_take (i := 9) (v := undef) (ops_at rfl) (by kernel_rfl) (by kernel_rfl) (by kernel_rfl) (fun _ _ _ h => h) (Or.inr ⟨by rfl, rfl⟩) (by assumption) ?_
  try simp only [Act.put, List.setIfInBounds_toArray, List.set_cons_zero, List.set_cons_succ]
  refine wpAnyH_take (i := 10) (v := ?_) (ops_at rfl) (by kernel_rfl) (by kernel_rfl) (by kernel_rfl) (fun _ _ _ h => h) (Or.inl ⟨by rfl, ?yd10⟩) (by assumption) ?nd10
  case yd10 => (intro wS hSw; obtain ⟨-, s0, s1, s2, s3⟩ := hSw; have q0 := cell_of s0 0; have q1 := cell_of s0 1; have q2 := cell_of s0 2; have q3 := cell_of s0 3; have q4 := cell_of s1 0; have q5 := cell_of s1 1; have q6 := cell_of s2 0; have q7 := cell_of s2 1; have q8 := cell_of s3 0; have q9 := cell_of s3 1; go_simp; try rfl)
  try simp only [Act.put, List.setIfInBounds_toArray, List.set_cons_zero, List.set_cons_succ]
  refine wpAnyH_take (i := 11) (v := ?_) (ops_at rfl) (by kernel_rfl) (by kernel_rfl) (by kernel_rfl) (fun _ _ _ h => h) (Or.inl ⟨by rfl, ?yd11⟩) (by assumption) ?nd11
  case yd11 => (intro wS hSw; obtain ⟨-, s0, s1, s2, s3⟩ := hSw; have q0 := cell_of s0 0; have q1 := cell_of s0 1; have q2 := cell_of s0 2; have q3 := cell_of s0 3; have q4 := cell_of s1 0; have q5 := cell_of s1 1; have q6 := cell_of s2 0; have q7 := cell_of s2 1; have q8 := cell_of s3 0; have q9 := cell_of s3 1; go_simp; try rfl)
  try simp only [Act.put, List.setIfInBounds_toArray, List.set_cons_zero, List.set_cons_succ]
  refine wpAnyH_take (i := 12) (v := undef) (ops_at rfl) (by kernel_rfl) (by kernel_rfl) (by kernel_rfl) (fun _ _ _ h => h) (Or.inr ⟨by rfl, rfl⟩) (by assumption) ?_
  try simp only [Act.put, List.setIfInBounds_toArray, List.set_cons_zero, List.set_cons_succ]
  refine wpAnyH_take (i := 13) (v := undef) (ops_at rfl) (by kernel_rfl) (by kernel_rfl) (by kernel_rfl) (fun _ _ _ h => h) (Or.inr ⟨by rfl, rfl⟩) (by assumption) ?_
  try simp only [Act.put, List.setIfInBounds_toArray, List.set_cons_zero, List.set_cons_succ]
  refine wpAnyH_take (i := 14) (v := undef) (ops_at rfl) (by kernel_rfl) (by kernel_rfl) (by kernel_rfl) (fun _ _ _ h => h) (Or.inr ⟨by rfl, rfl⟩) (by assumption) ?_
  try simp only [Act.put, List.setIfInBounds_toArray, List.set_cons_zero, List.set_cons_succ]
  refine wpAnyH_take (i := 15) (v := undef) (ops_at rfl) (by kernel_rfl) (by kernel_rfl) (by kernel_rfl) (fun _ _ _ h => h) (Or.inr ⟨by rfl, rfl⟩) (by assumption) ?_
  try simp only [Act.put, List.setIfInBounds_toArray, List.set_cons_zero, List.set_cons_succ]
  refine wpAnyH_take (i := 16) (v := ?_) (ops_at rfl) (by kernel_rfl) (by kernel_rfl) (by kernel_rfl) (fun _ _ _ h => h) (Or.inl ⟨by rfl, ?yf16⟩) (by assumption) ?nf16
  case yf16 => (intro wS hSw; obtain ⟨-, s0, s1, s2, s3⟩ := hSw; have q0 := cell_of s0 0; have q1 := cell_of s0 1; have q2 := cell_of s0 2; have q3 := cell_of s0 3; have q4 := cell_of s1 0; have q5 := cell_of s1 1; have q6 := cell_of s2 0; have q7 := cell_of s2 1; have q8 := cell_of s3 0; have q9 := cell_of s3 1; go_simp; try rfl)
  try simp only [Act.put, List.setIfInBounds_toArray, List.set_cons_zero, List.set_cons_succ]
  refine wpAnyH_ready (rs := [17]) (by kernel_rfl) (by simp) ?_
  refine AllReadyH.cons (ops_at rfl) (fun K hK => ?_) AllReadyH.nil
  go_simp
  refine (must_no _ _ _ _ _).mono ?_
  rintro e w5 ⟨rfl, hb5⟩
  exact ⟨rfl, rfl, (hR1).1.trans (hb5.mono (hR1).1.size)⟩

end Go.Proofs.YtoheoojpmndhoabDoor

/-
  The checking program's test whether one box fits into another one; FitsTurned of both programs.
  Conditions: none.
-/
import Derived.Test.YtbaofgbkcolmmabNeSides
import Derived.Test.YtbaofgbkcolmmabTurned
namespace Go.Proofs.Ytbaofgbkcolmmab
set_option linter.unusedVariables false
open Go.RowKit

theorem Seg.cell3 {w : World} {lo hi : Nat} {A : Option Addr} {a b c : Int} (h : Seg w lo hi A [a, b, c]) :
    ∃ g off, A = some ⟨g, off, none⟩ ∧ w.cell? ⟨g, off, none⟩ = some (.int .i64 a) ∧ w.cell? ⟨g, off + 1, none⟩ = some (.int .i64 b) ∧ w.cell? ⟨g, off + 2, none⟩ = some (.int .i64 c) := by
  rcases h with h | ⟨g, off, rfl, h1, h2, h3⟩
  · cases h
  · exact ⟨g, off, rfl, by simpa using h3 0 (by simp), by simpa using h3 1 (by simp), by simpa using h3 2 (by simp)⟩

set_option maxRecDepth 100000 in
set_option maxHeartbeats 2000000 in
theorem neFits_any (x y z x' y' z' : Int) (w : World) (p : Bool) (hp : fitT (x, y, z) (x', y', z') = p) :
    Calls Try.prog 119 #[.agg #[.int .i64 x, .int .i64 y, .int .i64 z], .agg #[.int .i64 x', .int .i64 y', .int .i64 z']] w fun e w' => e = .returned (.bool p) ∧ Below w.heap.size w w' := by
  have HP := Lib.hid (show insideB ((s3 (x, y, z)).1, (s3 (x, y, z)).2.1, (s3 (x, y, z)).2.2) ((s3 (x', y', z')).1, (s3 (x', y', z')).2.1, (s3 (x', y', z')).2.2) = p from hp)
  have HE := Lib.hid (s3_eq (x, y, z))
  have HE' := Lib.hid (s3_eq (x', y', z'))
  clear hp
  generalize (s3 (x, y, z)).1 = a1 at *
  generalize (s3 (x, y, z)).2.1 = a2 at *
  generalize (s3 (x, y, z)).2.2 = a3 at *
  generalize (s3 (x', y', z')).1 = b1 at *
  generalize (s3 (x', y', z')).2.1 = b2 at *
  generalize (s3 (x', y', z')).2.2 = b3 at *
  have hP := par2 w (.cells #[.int .i64 x, .int .i64 y, .int .i64 z] 61) (.cells #[.int .i64 x', .int .i64 y', .int .i64 z'] 61)
  have HT := Lib.hid (And.intro (BoxAt.of hP.1) (BoxAt.of hP.2))
  have HB0 := Lib.hid (((Below.refl w.heap.size w).alloc (Nat.le_refl _) (.cells #[.int .i64 x, .int .i64 y, .int .i64 z] 61)).alloc (by simp) (.cells #[.int .i64 x', .int .i64 y', .int .i64 z'] 61))
  clear hP
  go_enter Try.func119, Try.ntmps119
  go_wp2_with fail
  refine wp_region_held_drew (S := (fun wq => Below w.heap.size w wq ∧ (wq.cell? ⟨w.heap.size, 0, none⟩ = some (.int .i64 x) ∧ wq.cell? ⟨w.heap.size, 1, none⟩ = some (.int .i64 y) ∧ wq.cell? ⟨w.heap.size, 2, none⟩ = some (.int .i64 z)) ∧ (wq.cell? ⟨w.heap.size + 1, 0, none⟩ = some (.int .i64 x') ∧ wq.cell? ⟨w.heap.size + 1, 1, none⟩ = some (.int .i64 y') ∧ wq.cell? ⟨w.heap.size + 1, 2, none⟩ = some (.int .i64 z')))) (by kernel_rfl) ⟨below_drewN HB0.out 1, HT.out.1, HT.out.2⟩ (fun hH0 => ?_)
  refine wpAnyH_take (i := 0) (v := ?_) (ops_at rfl) (by kernel_rfl) (by kernel_rfl) (by kernel_rfl) (fun _ _ _ h => h) (Or.inl ⟨by rfl, ?ya0⟩) (by assumption) ?na0
  case ya0 => (intro wS hSw; (try dsimp only at hSw); go_simp; try rfl)
  try simp only [Act.put, List.setIfInBounds_toArray, List.set_cons_zero, List.set_cons_succ]
  refine wpAnyH_take (i := 2) (v := ?_) (ops_at rfl) (by kernel_rfl) (by kernel_rfl) (by kernel_rfl) (fun _ _ _ h => h) (Or.inl ⟨by rfl, ?ya2⟩) (by assumption) ?na2
  case ya2 => (intro wS hSw; (try dsimp only at hSw); go_simp; try rfl)
  try simp only [Act.put, List.setIfInBounds_toArray, List.set_cons_zero, List.set_cons_succ]
  refine wpAnyH_ready (rs := [1]) (by kernel_rfl) (by simp) ?_
  refine AllReadyH.cons (ops_at rfl) (fun K hK => ?_) AllReadyH.nil
  go_simp
  refine (neSides_any x y z _).mono ?_
  rintro e w1 ⟨A1, c1, rfl, ho1, hb1⟩
  refine hK.out _ _ (two_keep hH0 hb1) (fun hHa1 => ?_)
  clear hK K
  refine wpAnyH_ready (rs := [3]) (by kernel_rfl) (by simp) ?_
  refine AllReadyH.cons (ops_at rfl) (fun K hK => ?_) AllReadyH.nil
  go_simp
  refine (neSides_any x' y' z' _).mono ?_
  rintro e w2 ⟨A2, c2, rfl, ho2, hb2⟩
  refine hK.out _ _ (two_keep hHa1 hb2) (fun hHa3 => ?_)
  clear hK K
  refine wpAnyH_take (i := 4) (v := ?_) (ops_at rfl) (by kernel_rfl) (by kernel_rfl) (by kernel_rfl) (fun _ _ _ h => h) (Or.inl ⟨by rfl, ?ya4⟩) (by assumption) ?na4
  case ya4 => (intro wS hSw; (try dsimp only at hSw); go_simp; try rfl)
  try simp only [Act.put, List.setIfInBounds_toArray, List.set_cons_zero, List.set_cons_succ]
  refine wpAnyH_take (i := 5) (v := ?_) (ops_at rfl) (by kernel_rfl) (by kernel_rfl) (by kernel_rfl) (fun _ _ _ h => h) (Or.inl ⟨by rfl, ?ya5⟩) (by assumption) ?na5
  case ya5 => (intro wS hSw; (try dsimp only at hSw); go_simp; try rfl)
  try simp only [Act.put, List.setIfInBounds_toArray, List.set_cons_zero, List.set_cons_succ]
  refine wpAnyH_done (by kernel_rfl) ?_ _
  have hs1 := ho1.seg.below hb2 (Nat.le_refl _)
  have hs2 := ho2.seg
  rw [HE.out] at hs1
  rw [HE'.out] at hs2
  obtain ⟨g1, o1, rfl, c10, c11, c12⟩ := hs1.cell3
  obtain ⟨g2, o2, rfl, c20, c21, c22⟩ := hs2.cell3
  have HF := Lib.hid hHa3.1
  clear hs1 hs2 ho1 ho2 hb1 hb2 hHa1 hHa3 hH0 HT HB0 HE HE'
  by_cases h1 : a1 < b1
  · by_cases h2 : a2 < b2
    · obtain ⟨q, hq⟩ : ∃ q, decide (a3 < b3) = q := ⟨_, rfl⟩
      obtain rfl : q = p := by rw [← HP.out, ← hq]; simp [insideB, h1, h2]
      clear HP
      go_wp2_with fail
      go_quiet (fail)
      go_wp2
      go_ret
      exact ⟨rfl, below_drewN HF.out _⟩
    · have h2' : decide (a2 < b2) = false := by simpa using h2
      obtain rfl : p = false := by rw [← HP.out]; simp [insideB, h2]
      clear HP h2
      go_wp2_with fail
      go_quiet (fail)
      go_wp2
      go_ret
      exact ⟨rfl, below_drewN HF.out _⟩
  · have h1' : decide (a1 < b1) = false := by simpa using h1
    obtain rfl : p = false := by rw [← HP.out]; simp [insideB, h1]
    clear HP h1
    go_wp2_with fail
    go_quiet (fail)
    go_wp2
    go_ret
    exact ⟨rfl, below_drewN HF.out _⟩

end Go.Proofs.Ytbaofgbkcolmmab

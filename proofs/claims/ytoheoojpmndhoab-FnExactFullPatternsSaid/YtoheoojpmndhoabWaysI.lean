/-
  The written program's walk through the patterns, that counts them.
  Conditions: the list has at most 1048576 numbers.
-/
import Derived.Test.YtoheoojpmndhoabWaysS
import Derived.Test.YtoheoojpmndhoabCutOf
namespace Go.Proofs.Ytoheoojpmndhoab
set_option linter.unusedVariables false
open Go.RowKit

theorem ret_min {mk x q : Int} (h : min mk x = q) : Ending.returned (.int .i64 (if x < mk then x else mk)) = .returned (.int .i64 q) := by
  have e : (if x < mk then x else mk) = q := by rw [← h]; split <;> omega
  rw [e]

set_option maxHeartbeats 1000000 in
theorem mostMore_any (rod : Int) (A : Option Addr) (n c : Nat) (m0 m1 m2 m3 v0 v1 v2 v3 : Int) (zs : List Int) (lo hi : Nat) (w : World) (hn : zs.length = n) (h4 : n ≤ 4) (hs : Seg w lo hi A zs) (hB : hi ≤ w.heap.size)
    (hz : ∀ (k : Nat) u, zs[k]? = some u → 1 ≤ u ∧ u ≤ 60) (hp : ∀ (k : Nat) u, [v0, v1, v2, v3][k]? = some u → 0 ≤ u ∧ u ≤ 60) (hr : 1 ≤ rod ∧ rod ≤ 60) (t : Int) (ht : usedTo zs [v0, v1, v2, v3] n = t) (htr : t ≤ rod)
    (k : Nat) (hk : k < n) (z mk : Int) (hzk : zs[k]? = some z) (hmk : [m0, m1, m2, m3][k]? = some mk) (q : Int) (hq : min mk ((rod - t) / z) = q) :
    Calls Try.prog 63 #[.agg #[.int .i64 rod, .slice A n c, .int .i64 m0, .int .i64 m1, .int .i64 m2, .int .i64 m3], .agg #[.int .i64 v0, .int .i64 v1, .int .i64 v2, .int .i64 v3], .int .i64 (k : Int)] w fun e w' => e = .returned (.int .i64 q) ∧ Below w.heap.size w w' := by
  obtain ⟨bz, oz, z', rfl, _, hbz, hx, hcz⟩ := hs.at_ (k := k) (by rw [hn]; exact hk)
  obtain rfl : z = z' := by rw [hzk] at hx; injection hx
  have hzb := hz k z hzk
  have HN := Lib.hid hn
  have HT := Lib.hid ht
  have HQ := Lib.hid hq
  have HB0 := Lib.hid (((Below.refl w.heap.size w).alloc (Nat.le_refl _) (.cells #[.int .i64 rod, .slice (some ⟨bz, oz, none⟩) n c, .int .i64 m0, .int .i64 m1, .int .i64 m2, .int .i64 m3] 40)).alloc (by simp) (.cells #[.int .i64 v0, .int .i64 v1, .int .i64 v2, .int .i64 v3] 38))
  have hct := CutAt.of (w := (w.alloc (.cells #[.int .i64 rod, .slice (some ⟨bz, oz, none⟩) n c, .int .i64 m0, .int .i64 m1, .int .i64 m2, .int .i64 m3] 40)).alloc (.cells #[.int .i64 v0, .int .i64 v1, .int .i64 v2, .int .i64 v3] 38)) (g := w.heap.size) (T := 40) ((alloc_old _ (by simp) _).trans (new_at _ _ rfl))
  have HC := Lib.hid hct.six
  have HMK := Lib.hid (hct.most hmk)
  have HV := Lib.hid (Pat4.of (w := (w.alloc (.cells #[.int .i64 rod, .slice (some ⟨bz, oz, none⟩) n c, .int .i64 m0, .int .i64 m1, .int .i64 m2, .int .i64 m3] 40)).alloc (.cells #[.int .i64 v0, .int .i64 v1, .int .i64 v2, .int .i64 v3] 38)) (g := w.heap.size + 1) (new_at _ _ (by simp)))
  have HZC := Lib.hid ((HB0.out.cell (p := ⟨bz, oz + k, none⟩) (by exact Nat.lt_of_lt_of_le hbz hB)).trans hcz)
  have hzne : (z == 0) = false := by rw [beq_eq_false_iff_ne]; omega
  have hz0 : ¬ z = 0 := by omega
  have HWD := Lib.hid (show IntKind.i64.wrap ((rod - t).tdiv z) = (rod - t) / z by
    have h1 : 0 ≤ (rod - t) / z := Int.ediv_nonneg (by omega) (by omega)
    have h2 : (rod - t) / z ≤ rod - t := Int.ediv_le_self _ (by omega)
    have h3 := usedTo_bd hz hp n
    rw [ht] at h3
    rw [Int.tdiv_eq_ediv_of_nonneg (by omega), IntWalk.i64_in _ (by omega)])
  have hk4 : (k : Int) < 4 := by omega
  have hkn : (k : Int) < (n : Int) := by omega
  clear hn ht hq hx hzk hmk hct hcz
  go_enter Try.func63, Try.ntmps63
  go_wp2_with fail
  refine wp_region_held_drew (S := (fun wq => (Below w.heap.size w wq ∧ Cut6 wq w.heap.size rod (some ⟨bz, oz, none⟩) n c m0 m1 m2 m3 ∧ Pat4 wq (w.heap.size + 1) v0 v1 v2 v3) ∧ wq.cell? ⟨w.heap.size, 2 + k, none⟩ = some (.int .i64 mk) ∧ wq.cell? ⟨bz, oz + k, none⟩ = some (.int .i64 z))) (by kernel_rfl) ⟨⟨below_drewN HB0.out 1, HC.out, HV.out⟩, HMK.out, HZC.out⟩ (fun hH0 => ?_)
  refine wpAnyH_take (i := 0) (v := ?_) (ops_at rfl) (by kernel_rfl) (by kernel_rfl) (by kernel_rfl) (fun _ _ _ h => h) (Or.inl ⟨by rfl, ?ya0⟩) (by assumption) ?na0
  case ya0 => (intro wS hSw; (try dsimp only [Cut6, Pat4] at hSw); go_simp; try rfl)
  try simp only [Act.put, List.setIfInBounds_toArray, List.set_cons_zero, List.set_cons_succ]
  refine wpAnyH_take (i := 1) (v := ?_) (ops_at rfl) (by kernel_rfl) (by kernel_rfl) (by kernel_rfl) (fun _ _ _ h => h) (Or.inl ⟨by rfl, ?ya1⟩) (by assumption) ?na1
  case ya1 => (intro wS hSw; (try dsimp only [Cut6, Pat4] at hSw); go_simp; try rfl)
  try simp only [Act.put, List.setIfInBounds_toArray, List.set_cons_zero, List.set_cons_succ]
  refine wpAnyH_take (i := 2) (v := ?_) (ops_at rfl) (by kernel_rfl) (by kernel_rfl) (by kernel_rfl) (fun _ _ _ h => h) (Or.inl ⟨by rfl, ?ya2⟩) (by assumption) ?na2
  case ya2 => (intro wS hSw; (try dsimp only [Cut6, Pat4] at hSw); go_simp; try rfl)
  try simp only [Act.put, List.setIfInBounds_toArray, List.set_cons_zero, List.set_cons_succ]
  refine wpAnyH_take (i := 3) (v := ?_) (ops_at rfl) (by kernel_rfl) (by kernel_rfl) (by kernel_rfl) (fun _ _ _ h => h) (Or.inl ⟨by rfl, ?ya3⟩) (by assumption) ?na3
  case ya3 => (intro wS hSw; (try dsimp only [Cut6, Pat4] at hSw); go_simp; try rfl)
  try simp only [Act.put, List.setIfInBounds_toArray, List.set_cons_zero, List.set_cons_succ]
  refine wpAnyH_take (i := 4) (v := ?_) (ops_at rfl) (by kernel_rfl) (by kernel_rfl) (by kernel_rfl) (fun _ _ _ h => h) (Or.inl ⟨by rfl, ?ya4⟩) (by assumption) ?na4
  case ya4 => (intro wS hSw; (try dsimp only [Cut6, Pat4] at hSw); go_simp; try rfl)
  try simp only [Act.put, List.setIfInBounds_toArray, List.set_cons_zero, List.set_cons_succ]
  refine wpAnyH_take (i := 5) (v := ?_) (ops_at rfl) (by kernel_rfl) (by kernel_rfl) (by kernel_rfl) (fun _ _ _ h => h) (Or.inl ⟨by rfl, ?ya5⟩) (by assumption) ?na5
  case ya5 => (intro wS hSw; (try dsimp only [Cut6, Pat4] at hSw); go_simp; try rfl)
  try simp only [Act.put, List.setIfInBounds_toArray, List.set_cons_zero, List.set_cons_succ]
  refine wpAnyH_take (i := 7) (v := ?_) (ops_at rfl) (by kernel_rfl) (by kernel_rfl) (by kernel_rfl) (fun _ _ _ h => h) (Or.inl ⟨by rfl, ?ya7⟩) (by assumption) ?na7
  case ya7 => (intro wS hSw; (try dsimp only [Cut6, Pat4] at hSw); go_simp; try rfl)
  try simp only [Act.put, List.setIfInBounds_toArray, List.set_cons_zero, List.set_cons_succ]
  refine wpAnyH_take (i := 8) (v := ?_) (ops_at rfl) (by kernel_rfl) (by kernel_rfl) (by kernel_rfl) (fun _ _ _ h => h) (Or.inl ⟨by rfl, ?ya8⟩) (by assumption) ?na8
  case ya8 => (intro wS hSw; (try dsimp only [Cut6, Pat4] at hSw); go_simp; try rfl)
  try simp only [Act.put, List.setIfInBounds_toArray, List.set_cons_zero, List.set_cons_succ]
  refine wpAnyH_take (i := 9) (v := ?_) (ops_at rfl) (by kernel_rfl) (by kernel_rfl) (by kernel_rfl) (fun _ _ _ h => h) (Or.inl ⟨by rfl, ?ya9⟩) (by assumption) ?na9
  case ya9 => (intro wS hSw; (try dsimp only [Cut6, Pat4] at hSw); go_simp; try rfl)
  try simp only [Act.put, List.setIfInBounds_toArray, List.set_cons_zero, List.set_cons_succ]
  refine wpAnyH_take (i := 10) (v := ?_) (ops_at rfl) (by kernel_rfl) (by kernel_rfl) (by kernel_rfl) (fun _ _ _ h => h) (Or.inl ⟨by rfl, ?ya10⟩) (by assumption) ?na10
  case ya10 => (intro wS hSw; (try dsimp only [Cut6, Pat4] at hSw); go_simp; try rfl)
  try simp only [Act.put, List.setIfInBounds_toArray, List.set_cons_zero, List.set_cons_succ]
  refine wpAnyH_take (i := 11) (v := ?_) (ops_at rfl) (by kernel_rfl) (by kernel_rfl) (by kernel_rfl) (fun _ _ _ h => h) (Or.inl ⟨by rfl, ?ya11⟩) (by assumption) ?na11
  case ya11 => (intro wS hSw; (try dsimp only [Cut6, Pat4] at hSw); go_simp; try rfl)
  try simp only [Act.put, List.setIfInBounds_toArray, List.set_cons_zero, List.set_cons_succ]
  refine wpAnyH_ready (rs := [6]) (by kernel_rfl) (by simp) ?_
  refine AllReadyH.cons (ops_at rfl) (fun K hK => ?_) AllReadyH.nil
  go_simp
  refine (wasteOf_any rod _ n c m0 m1 m2 m3 v0 v1 v2 v3 zs lo hi _ HN.out h4 (hs.below hH0.1.1 hB) (Nat.le_trans hB hH0.1.1.size) hz hp hr t HT.out).mono ?_
  rintro e w1 ⟨rfl, hb1⟩
  have hk1 := cutpat_keep (P := True) hH0.1 hH0.1.1.size hb1
  refine hK.out _ _ ⟨hk1, (hb1.cell (cell_lt hH0.2.1)).trans hH0.2.1, (hb1.cell (cell_lt hH0.2.2)).trans hH0.2.2⟩ (fun hH1 => ?_)
  clear hK K
  refine wpAnyH_take (i := 12) (v := ?_) (ops_at rfl) (by kernel_rfl) (by kernel_rfl) (by kernel_rfl) (fun _ _ _ h => h) (Or.inl ⟨by rfl, ?yb12⟩) (by assumption) ?nb12
  case yb12 => (intro wS hSw; (try dsimp only [Cut6, Pat4] at hSw); go_simp; try rfl)
  try simp only [Act.put, List.setIfInBounds_toArray, List.set_cons_zero, List.set_cons_succ]
  refine wpAnyH_ready (rs := [13]) (by kernel_rfl) (by simp) ?_
  refine AllReadyH.cons (ops_at rfl) (fun K hK => ?_) AllReadyH.nil
  go_simp
  rw [HWD.out, show (if (rod - t) / z < mk then (rod - t) / z else mk) = q by have := HQ.out; split <;> omega]
  refine hK.out _ _ ⟨hk1, (hb1.cell (cell_lt hH0.2.1)).trans hH0.2.1, (hb1.cell (cell_lt hH0.2.2)).trans hH0.2.2⟩ (fun hH2 => ?_)
  clear hK K
  refine wpAnyH_take (i := 14) (v := ?_) (ops_at rfl) (by kernel_rfl) (by kernel_rfl) (by kernel_rfl) (fun _ _ _ h => h) (Or.inl ⟨by rfl, ?yc14⟩) (by assumption) ?nc14
  case yc14 => (intro wS hSw; (try dsimp only [Cut6, Pat4] at hSw); go_simp; try rfl)
  try simp only [Act.put, List.setIfInBounds_toArray, List.set_cons_zero, List.set_cons_succ]
  refine wpAnyH_done (by kernel_rfl) ?_ _
  go_wp2
  go_ret
  exact ⟨rfl, hk1.1⟩

/-- A count in a block of its own has grown. -/
def RetN (v : Int) (B T : Nat) (w : World) (e : Ending) (w' : World) : Prop :=
  e = .returned (.tuple #[]) ∧ w'.heap[B]? = some (.cells #[.int .i64 v] T (0, 0)) ∧ Only (fun b => b = B) w w'

theorem usedTo_set {zs ps : List Int} {j : Nat} {x : Int} (h : ps[j]? = some 0) (k : Nat) : usedTo zs (ps.set j x) k = usedTo zs ps k + (if j < k then x * zs.getD j 0 else 0) := by
  have hj := (List.getElem?_eq_some_iff.1 h).1
  induction k with
  | zero => simp [usedTo]
  | succ k ih =>
    simp only [usedTo]
    rw [ih]
    by_cases e : k = j
    · subst e
      have e1 : (ps.set k x).getD k 0 = x := by simp [List.getD, hj]
      have e2 : ps.getD k 0 = 0 := by simp [List.getD, h]
      rw [e1, e2, if_neg (by omega), if_pos (by omega), Int.zero_mul]
      try omega
    · have e1 : (ps.set j x).getD k 0 = ps.getD k 0 := by simp [List.getD, Ne.symm e]
      rw [e1]
      by_cases e3 : j < k
      · rw [if_pos e3, if_pos (by omega)]; omega
      · rw [if_neg e3, if_neg (by omega)]; omega

/-- What is still to come behind 'x' pieces of a length. -/
def remN (l : Nat) (C : Nat → Int) (L x : Nat) : Int := if x ≤ L / l then sumR l C (L - x * l) else 0

theorem remN_zero (l : Nat) (C : Nat → Int) (L : Nat) : remN l C L 0 = sumR l C L := by
  unfold remN
  rw [if_pos (Nat.zero_le _), Nat.zero_mul, Nat.sub_zero]

theorem remN_step {l : Nat} (hl : 0 < l) (C : Nat → Int) (L x : Nat) (hx : x ≤ L / l) : remN l C L x = C (L - x * l) + remN l C L (x + 1) := by
  have hm : x * l ≤ L := Nat.le_trans (Nat.mul_le_mul_right l hx) (Nat.div_mul_le_self L l)
  have e1 : (x + 1) * l = x * l + l := Nat.succ_mul x l
  unfold remN
  rw [if_pos hx]
  by_cases h : x + 1 ≤ L / l
  · have hm2 : (x + 1) * l ≤ L := Nat.le_trans (Nat.mul_le_mul_right l h) (Nat.div_mul_le_self L l)
    rw [if_pos h, sumR_at hl (by omega)]
    congr 2
    omega
  · have h3 : L < (x + 1) * l := by
      have h4 : L / l < x + 1 := by omega
      exact (Nat.div_lt_iff_lt_mul hl).1 h4
    rw [if_neg h, sumR_less (by omega)]
    omega

theorem remN_last {l L x : Nat} {C : Nat → Int} (h : L / l < x) : remN l C L x = 0 := by
  unfold remN
  rw [if_neg (by omega)]
end Go.Proofs.Ytoheoojpmndhoab

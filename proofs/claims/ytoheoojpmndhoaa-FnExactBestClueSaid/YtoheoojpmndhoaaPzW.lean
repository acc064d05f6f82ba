/-
  Clues without one, and a clue more, as the checking program has them.
  Conditions: none.
-/
import Derived.Test.YtoheoojpmndhoaaClRow
import Derived.Test.YtoheoojpmndhoaaAppendFlat4
import Derived.Test.YtoheoojpmndhoaaPzQ
namespace Go.Proofs.Ytoheoojpmndhoaa
set_option linter.unusedVariables false
set_option linter.unusedSimpArgs false
open Go.RowKit

/-- Clues are answered; they lie in new memory of their own. -/
def RetCl (bs : List Clu) (w : World) (e : Ending) (w' : World) : Prop :=
  ∃ A n c, e = .returned (.slice A n c) ∧ bs.length = n ∧ n ≤ c ∧ Own w' w.heap.size w'.heap.size A (flat4 bs) ∧ Below w.heap.size w w'
/-- Clues without one. -/
def dropC (cs : List Clu) (k : Nat) : List Clu := cs.take k ++ cs.drop (k + 1)
theorem dropC_length {cs : List Clu} {k : Nat} (h : k < cs.length) : (dropC cs k).length + 1 = cs.length := by simp [dropC]; omega

set_option maxHeartbeats 1000000 in
theorem pzWithout_any (A : Option Addr) (n c k : Nat) (cs : List Clu) (lo hi : Nat) (w : World) (hn : cs.length = n) (hlen : n ≤ 1048576) (hnc : n ≤ c) (hk : k < n) (hs : Seg w lo hi A (flat4 cs)) (hB : hi ≤ w.heap.size) :
    Calls Try.prog 81 #[.slice A n c, .int .i64 (k : Int)] w (RetCl (dropC cs k) w) := by
  obtain ⟨i0, hi0, hz0, hz1, hz2⟩ := info_parts clue_infoI
  have t1 := cut_to A n c k (by omega)
  have t2 := cut_from A n c (k + 1) (by omega)
  obtain ⟨A2, hA2⟩ : ∃ x, cutV A c (k + 1) = x := ⟨_, rfl⟩
  have e0 : ((k + 1 : Nat) : Int) = (k : Int) + 1 := by omega
  simp only [e0, hA2] at t2
  have t3 : IntKind.i64.wrap ((k : Int) + 1) = (k : Int) + 1 := IntWalk.i64_in _ (by omega)
  have g1 := cut_seg hs c 0 k (by omega) (by omega) (by omega)
  have e1 : cutV A c 0 = A := by unfold cutV; cases A <;> simp [Addr.add]
  rw [e1] at g1
  have g2 := cut_seg hs c (k + 1) n (by omega) (by omega) (by omega)
  rw [hA2] at g2
  rw [List.take_of_length_le (show cs.length ≤ n by omega)] at g2
  have l1 : ((cs.take k).drop 0).length = k := by simp; omega
  have l2 : (cs.drop (k + 1)).length = n - (k + 1) := by rw [List.length_drop, hn]
  have L1 := Lib.hid l1
  have L2 := Lib.hid l2
  clear hn hs e1 l1 l2 e0 hA2
  go_enter Try.func81, Try.ntmps81
  go_wp2_with fail
  refine wp_region_held_drew (S := fun wq => Below w.heap.size w wq) (by kernel_rfl) (below_drewN (Below.refl _ _) 1) (fun hH0 => ?_)
  refine wpAnyH_take (i := 1) (v := ?_) (ops_at rfl) (by kernel_rfl) (by kernel_rfl) (by kernel_rfl) (fun _ _ _ h => h) (Or.inl ⟨by rfl, ?ya1⟩) (by assumption) ?na1
  case ya1 => (intro wS hSw; go_simp; try rfl)
  try simp only [Act.put, List.setIfInBounds_toArray, List.set_cons_zero, List.set_cons_succ]
  refine wpAnyH_take (i := 2) (v := ?_) (ops_at rfl) (by kernel_rfl) (by kernel_rfl) (by kernel_rfl) (fun _ _ _ h => h) (Or.inl ⟨by rfl, ?ya2⟩) (by assumption) ?na2
  case ya2 => (intro wS hSw; go_simp; try rfl)
  try simp only [Act.put, List.setIfInBounds_toArray, List.set_cons_zero, List.set_cons_succ]
  refine wpAnyH_take (i := 3) (v := ?_) (ops_at rfl) (by kernel_rfl) (by kernel_rfl) (by kernel_rfl) (fun _ _ _ h => h) (Or.inl ⟨by rfl, ?ya3⟩) (by assumption) ?na3
  case ya3 => (intro wS hSw; go_simp; try rfl)
  try simp only [Act.put, List.setIfInBounds_toArray, List.set_cons_zero, List.set_cons_succ]
  refine wpAnyH_take (i := 5) (v := ?_) (ops_at rfl) (by kernel_rfl) (by kernel_rfl) (by kernel_rfl) (fun _ _ _ h => h) (Or.inl ⟨by rfl, ?ya5⟩) (by assumption) ?na5
  case ya5 => (intro wS hSw; go_simp; try rfl)
  try simp only [Act.put, List.setIfInBounds_toArray, List.set_cons_zero, List.set_cons_succ]
  refine wpAnyH_take (i := 6) (v := ?_) (ops_at rfl) (by kernel_rfl) (by kernel_rfl) (by kernel_rfl) (fun _ _ _ h => h) (Or.inl ⟨by rfl, ?ya6⟩) (by assumption) ?na6
  case ya6 => (intro wS hSw; go_simp; try rfl)
  try simp only [Act.put, List.setIfInBounds_toArray, List.set_cons_zero, List.set_cons_succ]
  refine wpAnyH_take (i := 7) (v := ?_) (ops_at rfl) (by kernel_rfl) (by kernel_rfl) (by kernel_rfl) (fun _ _ _ h => h) (Or.inl ⟨by rfl, ?ya7⟩) (by assumption) ?na7
  case ya7 => (intro wS hSw; go_simp; try rfl)
  try simp only [Act.put, List.setIfInBounds_toArray, List.set_cons_zero, List.set_cons_succ]
  refine wpAnyH_take (i := 8) (v := ?_) (ops_at rfl) (by kernel_rfl) (by kernel_rfl) (by kernel_rfl) (fun _ _ _ h => h) (Or.inl ⟨by rfl, ?ya8⟩) (by assumption) ?na8
  case ya8 => (intro wS hSw; go_simp; try rfl)
  try simp only [Act.put, List.setIfInBounds_toArray, List.set_cons_zero, List.set_cons_succ]
  refine wpAnyH_ready (rs := [0]) (by kernel_rfl) (by simp) ?_
  refine AllReadyH.cons (ops_at rfl) (fun K hK => ?_) AllReadyH.nil
  go_simp
  have z0 := (((Below.refl w.heap.size w).alloc (Nat.le_refl _) (.cells #[] 25)).drew)
  have R0 := World.ownsRow_lit (base := w.heap.size) (e := 25) (size := 4) w #[] 0 (Nat.le_refl _) (Nat.zero_le _) rfl
  refine hK.out _ _ z0 (fun hHz0 => ?_)
  clear hK K
  refine wpAnyH_ready (rs := [4]) (by kernel_rfl) (by simp) ?_
  refine AllReadyH.cons (ops_at rfl) (fun K hK => ?_) AllReadyH.nil
  refine step_append_flat4 _ rfl (.tmp 5) (.tmp 8) 33 rfl w.heap.size 25 i0 Try.underlying33 hi0 hz0 hz1 hz2 _ 0 _ rfl R0 A k _ ((cs.take k).drop 0) _ _ rfl L1.out (g1.below z0 hB) (by omega) z0.size ?_
  intro va xa hoa hga
  have za := z0.trans (below_of_grown4 hga (fun g hg => (R0.lt g hg).1) z0.size)
  refine hK.out _ _ za (fun hHza => ?_)
  clear hK K
  refine wpAnyH_ready (rs := [9]) (by kernel_rfl) (by simp) ?_
  refine AllReadyH.cons (ops_at rfl) (fun K hK => ?_) AllReadyH.nil
  refine step_append_flat4 _ rfl (.tmp 9) (.tmp 13) 33 rfl w.heap.size 25 i0 Try.underlying33 hi0 hz0 hz1 hz2 _ (0 + k) _ rfl hoa _ (n - (k + 1)) _ (cs.drop (k + 1)) _ _ rfl L2.out (g2.below za hB) (by omega) za.size ?_
  intro vb xb hob hgb
  have zb := za.trans (below_of_grown4 hgb (fun g hg => (hoa.lt g hg).1) za.size)
  refine hK.out _ _ zb (fun hHzb => ?_)
  clear hK K
  have hF : xb.ownsRow w.heap.size 25 4 vb (0 + k + (n - (k + 1))) (vals4 (dropC cs k)) := by unfold dropC; rw [vals4_append]; simpa using hob
  obtain ⟨A3, c3, rfl, f1, f2, f3⟩ := seg_of_row4 hF
  clear hF hob hoa
  refine wpAnyH_take (i := 10) (v := ?_) (ops_at rfl) (by kernel_rfl) (by kernel_rfl) (by kernel_rfl) (fun _ _ _ h => h) (Or.inl ⟨by rfl, ?yc10⟩) (by assumption) ?nc10
  case yc10 => (intro wS hSw; go_simp; try rfl)
  try simp only [Act.put, List.setIfInBounds_toArray, List.set_cons_zero, List.set_cons_succ]
  refine wpAnyH_done (by kernel_rfl) ?_ _
  go_wp2
  go_ret
  exact ⟨A3, _, c3, rfl, by omega, by omega, f3, zb⟩
end Go.Proofs.Ytoheoojpmndhoaa

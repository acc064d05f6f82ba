/-
  For every puzzle the law of PuzzleText returns true and leaves the puzzle as it was; the walk.
  Conditions: the listed package-level variables read as the program's text writes them (the card ties them to it).
-/
import Derived.Test.YtoheoojpmndhoabDoorTxPz
import Derived.Test.YtoheoojpmndhoabDoorPuz
import Derived.Lib.SmallJoins
import Derived.Deep.RegionHeld3
import Derived.OpenShut
namespace Go.Proofs.YtoheoojpmndhoabDoor
namespace PuzzleText
open Go.ChangeShapes Go.WideShapes Go.ChangeAt Go.RowKit
set_option linter.unusedVariables false
set_option linter.unusedSimpArgs false

set_option maxHeartbeats 2000000 in
set_option maxRecDepth 100000 in
theorem walk {t0 : Int} {a0 : Option Addr} {len0 cap0 : Nat} {z0 : List Clu} {w : World} (ht0 : -9223372036854775808 ≤ t0 ∧ t0 ≤ 9223372036854775807) (hm0 : len0 ≤ 9223372036854775807) (hn0 : z0.length = len0) (hs0 : Seg w 0 w.heap.size a0 (flat4 z0)) (hT : Tab w) :
    Calls Tryd.prog 3 #[pzV t0 a0 len0 cap0] w fun e w' => e = .returned (.bool true) ∧ Below w.heap.size w w' := by
  by_cases hbig0 : 1048576 < len0
  · clear hs0 hn0
    go_enter Tryd.func3, Tryd.ntmps3
    go_wp2_with fail
    refine (szPuzzle_big _ _ _ _ _ hbig0 hm0).mono ?_
    rintro e w0 ⟨rfl, hb0⟩
    go_wp2
    go_ret
    exact ⟨rfl, ((Below.refl _ _).alloc (Nat.le_refl _) _).trans (hb0.mono (by simp <;> omega))⟩
  have hlen0 : len0 ≤ 1048576 := by omega
  have HN0 := Lib.hid hn0
  have HTT := Lib.hid hT
  obtain ⟨q, hq⟩ : ∃ q, puzB t0 z0 = q := ⟨_, rfl⟩
  have HQ := Lib.hid hq
  clear hq
  obtain ⟨tx, htx⟩ : ∃ tx, somePT q (pzS t0 z0) = tx := ⟨_, rfl⟩
  have HTX := Lib.hid htx
  clear htx
  clear hn0 hT
  cases q
  · go_enter Tryd.func3, Tryd.ntmps3
    have hb0 : Below w.heap.size w (w.alloc (.cells #[.int .i64 t0, .slice a0 len0 cap0] 24)) := (Below.refl _ _).alloc (Nat.le_refl _) _
    obtain ⟨w0, hW0⟩ : ∃ W0, w.alloc (.cells #[.int .i64 t0, .slice a0 len0 cap0] 24) = W0 := ⟨_, rfl⟩
    have P : w0.heap[w.heap.size]? = some (.cells #[.int .i64 t0, .slice a0 len0 cap0] 24 (0, 0)) := by rw [← hW0]; exact new_at _ _ rfl
    have hx0 : w.heap.size < w0.heap.size := heap_lt P
    rw [hW0] at hb0
    have HW0 := Lib.hid hW0
    clear hW0
    have hs0_0 := hs0.below hb0 (Nat.le_refl _)
    clear hs0
    have hz0 := hb0.size
    have kc_P0 := cell_of P 0
    have kc_P1 := cell_of P 1
    simp only [List.getElem?_toArray, List.getElem?_cons_zero, List.getElem?_cons_succ] at kc_P0 kc_P1
    go_wp2_with fail
    rw [HW0.out]
    refine (szPuzzle_any _ _ _ _ _ hlen0).mono ?_
    rintro e w1 ⟨rfl, hb1⟩
    clear kc_P0 kc_P1
    have hz1 := hb1.size
    have hB1 : Below w.heap.size w w1 := Below.trans hb0 (hb1.mono (by omega))
    have hs0_1 := hs0_0.below hb1 (by omega)
    clear hs0_0
    have P_1 := (hb1.block _ (by omega)).trans P
    clear P
    have kc_P0 := cell_of P_1 0
    have kc_P1 := cell_of P_1 1
    simp only [List.getElem?_toArray, List.getElem?_cons_zero, List.getElem?_cons_succ] at kc_P0 kc_P1
    go_wp2_with fail
    refine (toPuzzle_any t0 a0 len0 cap0 z0 w.heap.size _ HN0.out hlen0 hs0_1 (by omega)).mono ?_
    rintro e w2 ⟨caA, rfl, ca, hb2⟩
    clear kc_P0 kc_P1
    have hz2 := hb2.size
    have hB2 : Below w.heap.size w w2 := Below.trans hB1 (hb2.mono (by omega))
    have hs0_2 := hs0_1.below hb2 (by omega)
    clear hs0_1
    have P_2 := (hb2.block _ (by omega)).trans P_1
    clear P_1
    have kc_P0 := cell_of P_2 0
    have kc_P1 := cell_of P_2 1
    simp only [List.getElem?_toArray, List.getElem?_cons_zero, List.getElem?_cons_succ] at kc_P0 kc_P1
    go_wp2_with fail
    refine (spec_PuzzleText t0 _ _ _ z0 _ _ _ HN0.out hlen0 ca.seg (by omega) _ HQ.out).mono ?_
    rw [HTX.out]
    rintro e w3 ⟨rfl, hb3⟩
    clear kc_P0 kc_P1
    have hz3 := hb3.size
    have hB3 : Below w.heap.size w w3 := Below.trans hB2 (hb3.mono (by omega))
    have hs0_3 := hs0_2.below hb3 (by omega)
    clear hs0_2
    have P_3 := (hb3.block _ (by omega)).trans P_2
    clear P_2
    have ca_3 := ca.below hb3 (by omega)
    clear ca
    have kc_P0 := cell_of P_3 0
    have kc_P1 := cell_of P_3 1
    simp only [List.getElem?_toArray, List.getElem?_cons_zero, List.getElem?_cons_succ] at kc_P0 kc_P1
    go_wp2_with fail
    refine (toPuzzle_any t0 a0 len0 cap0 z0 w.heap.size _ HN0.out hlen0 hs0_3 (by omega)).mono ?_
    rintro e w4 ⟨x0A, rfl, x0, hb4⟩
    clear kc_P0 kc_P1
    have hz4 := hb4.size
    have hB4 : Below w.heap.size w w4 := Below.trans hB3 (hb4.mono (by omega))
    have hs0_4 := hs0_3.below hb4 (by omega)
    clear hs0_3
    have P_4 := (hb4.block _ (by omega)).trans P_3
    clear P_3
    have kl_P : w.heap.size < w4.heap.size := by omega
    have kc_P0 := cell_of P_4 0
    have kc_P1 := cell_of P_4 1
    simp only [List.getElem?_toArray, List.getElem?_cons_zero, List.getElem?_cons_succ] at kc_P0 kc_P1
    go_wp2_with fail
    obtain ⟨w5, hw5⟩ : ∃ wz, w4.alloc (.cells #[.int .i64 t0, .slice x0A len0 len0] 30) = wz := ⟨_, rfl⟩
    have hb5 : Below w4.heap.size w4 w5 := by rw [← hw5]; exact (Below.refl _ _).alloc (Nat.le_refl _) _
    have hx5 : w5.heap.size = w4.heap.size + 1 := by rw [← hw5]; simp
    have X0 : w5.heap[w4.heap.size]? = some (.cells #[.int .i64 t0, .slice x0A len0 len0] 30 (0, 0)) := by rw [← hw5]; exact new_at _ _ rfl
    have HW5 := Lib.hid hw5
    clear hw5
    have HX5 := Lib.hid hx5
    have hxx5 : w4.heap.size < w5.heap.size := by omega
    clear hx5
    have hz5 := hb5.size
    have hB5 : Below w.heap.size w w5 := Below.trans hB4 (hb5.mono (by omega))
    have hs0_5 := hs0_4.below hb5 (by omega)
    clear hs0_4
    have P_5 := (hb5.block _ (by omega)).trans P_4
    clear P_4
    have x0_5 := x0.below hb5 (by omega)
    clear x0
    rw [HW5.out]
    refine (impl_PuzzleText t0 _ _ _ z0 _ _ _ HN0.out hlen0 x0_5.seg (by omega) _ HQ.out (HTT.out.below hB5 (Nat.le_refl _))).mono ?_
    rw [HTX.out]
    rintro e w6 ⟨rfl, hb6⟩
    clear kl_P kc_P0 kc_P1
    have hz6 := hb6.size
    have hB6 : Below w.heap.size w w6 := Below.trans hB5 (hb6.mono (by omega))
    have hs0_6 := hs0_5.below hb6 (by omega)
    clear hs0_5
    have P_6 := (hb6.block _ (by omega)).trans P_5
    clear P_5
    have x0_6 := x0_5.below hb6 (by omega)
    clear x0_5
    have X0_6 := (hb6.block _ (by omega)).trans X0
    clear X0
    go_wp2_with fail
    refine wp_region_held_drew (S := fun wq => wq.heap[w4.heap.size]? = some (.cells #[.int .i64 t0, .slice x0A len0 len0] 30 (0, 0)) ∧ wq.heap[w.heap.size]? = some (.cells #[.int .i64 t0, .slice a0 len0 cap0] 24 (0, 0))) (by kernel_rfl) ⟨X0_6, P_6⟩ (fun hHrx00 => ?_)
    refine wpAnyH_take (i := 0) (v := ?_) (ops_at rfl) (by kernel_rfl) (by kernel_rfl) (by kernel_rfl) (fun _ _ _ h => h) (Or.inl ⟨by rfl, ?yrx000⟩) (by assumption) ?nrx000
    case yrx000 => (intro wS hSw; obtain ⟨s0, s1⟩ := hSw; have q0 := cell_of s0 0; have q1 := cell_of s0 1; have q2 := cell_of s1 0; have q3 := cell_of s1 1; go_simp; try rfl)
    try simp only [Act.put, List.setIfInBounds_toArray, List.set_cons_zero, List.set_cons_succ]
    refine wpAnyH_take (i := 1) (v := ?_) (ops_at rfl) (by kernel_rfl) (by kernel_rfl) (by kernel_rfl) (fun _ _ _ h => h) (Or.inl ⟨by rfl, ?yrx001⟩) (by assumption) ?nrx001
    case yrx001 => (intro wS hSw; obtain ⟨s0, s1⟩ := hSw; have q0 := cell_of s0 0; have q1 := cell_of s0 1; have q2 := cell_of s1 0; have q3 := cell_of s1 1; go_simp; try rfl)
    try simp only [Act.put, List.setIfInBounds_toArray, List.set_cons_zero, List.set_cons_succ]
    obtain ⟨w7, hw7⟩ : ∃ wz, w6.drew = wz := ⟨_, rfl⟩
    have hb7 : Below w6.heap.size w6 w7 := by rw [← hw7]; exact below_drewN (Below.refl _ _) 1
    have HW7 := Lib.hid hw7
    clear hw7
    have hz7 := hb7.size
    have hB7 : Below w.heap.size w w7 := Below.trans hB6 (hb7.mono (by omega))
    have hs0_7 := hs0_6.below hb7 (by omega)
    clear hs0_6
    have P_7 := (hb7.block _ (by omega)).trans P_6
    clear P_6
    have x0_7 := x0_6.below hb7 (by omega)
    clear x0_6
    have X0_7 := (hb7.block _ (by omega)).trans X0_6
    clear X0_6
    refine wpAnyH_ready (rs := [2]) (by kernel_rfl) (by simp) ?_
    refine AllReadyH.cons (ops_at rfl) (fun K hK => ?_) AllReadyH.nil
    go_simp
    rw [HW7.out]
    refine (toPuzzle_any t0 a0 len0 cap0 z0 w.heap.size _ HN0.out hlen0 hs0_7 (by omega)).mono ?_
    rintro e w8 ⟨cbA, rfl, cb, hb8⟩
    have hz8 := hb8.size
    have hB8 : Below w.heap.size w w8 := Below.trans hB7 (hb8.mono (by omega))
    have hs0_8 := hs0_7.below hb8 (by omega)
    clear hs0_7
    have P_8 := (hb8.block _ (by omega)).trans P_7
    clear P_7
    have x0_8 := x0_7.below hb8 (by omega)
    clear x0_7
    have X0_8 := (hb8.block _ (by omega)).trans X0_7
    clear X0_7
    refine hK.out _ _ ⟨X0_8, P_8⟩ (fun hHrx008 => ?_)
    clear hK K
    refine wpAnyH_ready (rs := [3]) (by kernel_rfl) (by simp) ?_
    refine AllReadyH.cons (ops_at rfl) (fun K hK => ?_) AllReadyH.nil
    go_simp
    refine (eqPuzzle_any _ _ _ _ _ _ _ _ _ _ _ _ HN0.out hlen0 x0_8.seg cb.seg (by omega) (by omega)).mono ?_
    rintro e w9 ⟨rfl, hb9⟩
    have hz9 := hb9.size
    have hB9 : Below w.heap.size w w9 := Below.trans hB8 (hb9.mono (by omega))
    have hs0_9 := hs0_8.below hb9 (by omega)
    clear hs0_8
    have P_9 := (hb9.block _ (by omega)).trans P_8
    clear P_8
    have x0_9 := x0_8.below hb9 (by omega)
    clear x0_8
    have X0_9 := (hb9.block _ (by omega)).trans X0_8
    clear X0_8
    have cb_9 := cb.below hb9 (by omega)
    clear cb
    refine hK.out _ _ ⟨X0_9, P_9⟩ (fun hHrx009 => ?_)
    clear hK K
    refine wpAnyH_take (i := 4) (v := ?_) (ops_at rfl) (by kernel_rfl) (by kernel_rfl) (by kernel_rfl) (fun _ _ _ h => h) (Or.inl ⟨by rfl, ?yrx004⟩) (by assumption) ?nrx004
    case yrx004 => (intro wS hSw; obtain ⟨s0, s1⟩ := hSw; have q0 := cell_of s0 0; have q1 := cell_of s0 1; have q2 := cell_of s1 0; have q3 := cell_of s1 1; go_simp; try rfl)
    try simp only [Act.put, List.setIfInBounds_toArray, List.set_cons_zero, List.set_cons_succ]
    refine wpAnyH_done (by kernel_rfl) ?_ _
    go_wp2
    go_ret
    exact ⟨rfl, hB9⟩

  · go_enter Tryd.func3, Tryd.ntmps3
    have hb0 : Below w.heap.size w (w.alloc (.cells #[.int .i64 t0, .slice a0 len0 cap0] 24)) := (Below.refl _ _).alloc (Nat.le_refl _) _
    obtain ⟨w0, hW0⟩ : ∃ W0, w.alloc (.cells #[.int .i64 t0, .slice a0 len0 cap0] 24) = W0 := ⟨_, rfl⟩
    have P : w0.heap[w.heap.size]? = some (.cells #[.int .i64 t0, .slice a0 len0 cap0] 24 (0, 0)) := by rw [← hW0]; exact new_at _ _ rfl
    have hx0 : w.heap.size < w0.heap.size := heap_lt P
    rw [hW0] at hb0
    have HW0 := Lib.hid hW0
    clear hW0
    have hs0_0 := hs0.below hb0 (Nat.le_refl _)
    clear hs0
    have hz0 := hb0.size
    have kc_P0 := cell_of P 0
    have kc_P1 := cell_of P 1
    simp only [List.getElem?_toArray, List.getElem?_cons_zero, List.getElem?_cons_succ] at kc_P0 kc_P1
    go_wp2_with fail
    rw [HW0.out]
    refine (szPuzzle_any _ _ _ _ _ hlen0).mono ?_
    rintro e w1 ⟨rfl, hb1⟩
    clear kc_P0 kc_P1
    have hz1 := hb1.size
    have hB1 : Below w.heap.size w w1 := Below.trans hb0 (hb1.mono (by omega))
    have hs0_1 := hs0_0.below hb1 (by omega)
    clear hs0_0
    have P_1 := (hb1.block _ (by omega)).trans P
    clear P
    have kc_P0 := cell_of P_1 0
    have kc_P1 := cell_of P_1 1
    simp only [List.getElem?_toArray, List.getElem?_cons_zero, List.getElem?_cons_succ] at kc_P0 kc_P1
    go_wp2_with fail
    refine (toPuzzle_any t0 a0 len0 cap0 z0 w.heap.size _ HN0.out hlen0 hs0_1 (by omega)).mono ?_
    rintro e w2 ⟨caA, rfl, ca, hb2⟩
    clear kc_P0 kc_P1
    have hz2 := hb2.size
    have hB2 : Below w.heap.size w w2 := Below.trans hB1 (hb2.mono (by omega))
    have hs0_2 := hs0_1.below hb2 (by omega)
    clear hs0_1
    have P_2 := (hb2.block _ (by omega)).trans P_1
    clear P_1
    have kc_P0 := cell_of P_2 0
    have kc_P1 := cell_of P_2 1
    simp only [List.getElem?_toArray, List.getElem?_cons_zero, List.getElem?_cons_succ] at kc_P0 kc_P1
    go_wp2_with fail
    refine (spec_PuzzleText t0 _ _ _ z0 _ _ _ HN0.out hlen0 ca.seg (by omega) _ HQ.out).mono ?_
    rw [HTX.out]
    rintro e w3 ⟨rfl, hb3⟩
    clear kc_P0 kc_P1
    have hz3 := hb3.size
    have hB3 : Below w.heap.size w w3 := Below.trans hB2 (hb3.mono (by omega))
    have hs0_3 := hs0_2.below hb3 (by omega)
    clear hs0_2
    have P_3 := (hb3.block _ (by omega)).trans P_2
    clear P_2
    have ca_3 := ca.below hb3 (by omega)
    clear ca
    have kc_P0 := cell_of P_3 0
    have kc_P1 := cell_of P_3 1
    simp only [List.getElem?_toArray, List.getElem?_cons_zero, List.getElem?_cons_succ] at kc_P0 kc_P1
    go_wp2_with fail
    refine (toPuzzle_any t0 a0 len0 cap0 z0 w.heap.size _ HN0.out hlen0 hs0_3 (by omega)).mono ?_
    rintro e w4 ⟨x0A, rfl, x0, hb4⟩
    clear kc_P0 kc_P1
    have hz4 := hb4.size
    have hB4 : Below w.heap.size w w4 := Below.trans hB3 (hb4.mono (by omega))
    have hs0_4 := hs0_3.below hb4 (by omega)
    clear hs0_3
    have P_4 := (hb4.block _ (by omega)).trans P_3
    clear P_3
    have kl_P : w.heap.size < w4.heap.size := by omega
    have kc_P0 := cell_of P_4 0
    have kc_P1 := cell_of P_4 1
    simp only [List.getElem?_toArray, List.getElem?_cons_zero, List.getElem?_cons_succ] at kc_P0 kc_P1
    go_wp2_with fail
    obtain ⟨w5, hw5⟩ : ∃ wz, w4.alloc (.cells #[.int .i64 t0, .slice x0A len0 len0] 30) = wz := ⟨_, rfl⟩
    have hb5 : Below w4.heap.size w4 w5 := by rw [← hw5]; exact (Below.refl _ _).alloc (Nat.le_refl _) _
    have hx5 : w5.heap.size = w4.heap.size + 1 := by rw [← hw5]; simp
    have X0 : w5.heap[w4.heap.size]? = some (.cells #[.int .i64 t0, .slice x0A len0 len0] 30 (0, 0)) := by rw [← hw5]; exact new_at _ _ rfl
    have HW5 := Lib.hid hw5
    clear hw5
    have HX5 := Lib.hid hx5
    have hxx5 : w4.heap.size < w5.heap.size := by omega
    clear hx5
    have hz5 := hb5.size
    have hB5 : Below w.heap.size w w5 := Below.trans hB4 (hb5.mono (by omega))
    have hs0_5 := hs0_4.below hb5 (by omega)
    clear hs0_4
    have P_5 := (hb5.block _ (by omega)).trans P_4
    clear P_4
    have x0_5 := x0.below hb5 (by omega)
    clear x0
    rw [HW5.out]
    refine (impl_PuzzleText t0 _ _ _ z0 _ _ _ HN0.out hlen0 x0_5.seg (by omega) _ HQ.out (HTT.out.below hB5 (Nat.le_refl _))).mono ?_
    rw [HTX.out]
    rintro e w6 ⟨rfl, hb6⟩
    clear kl_P kc_P0 kc_P1
    have hz6 := hb6.size
    have hB6 : Below w.heap.size w w6 := Below.trans hB5 (hb6.mono (by omega))
    have hs0_6 := hs0_5.below hb6 (by omega)
    clear hs0_5
    have P_6 := (hb6.block _ (by omega)).trans P_5
    clear P_5
    have x0_6 := x0_5.below hb6 (by omega)
    clear x0_5
    have X0_6 := (hb6.block _ (by omega)).trans X0
    clear X0
    go_wp2_with fail
    refine wp_region_held_drew (S := fun wq => wq.heap[w4.heap.size]? = some (.cells #[.int .i64 t0, .slice x0A len0 len0] 30 (0, 0)) ∧ wq.heap[w.heap.size]? = some (.cells #[.int .i64 t0, .slice a0 len0 cap0] 24 (0, 0))) (by kernel_rfl) ⟨X0_6, P_6⟩ (fun hHrx10 => ?_)
    refine wpAnyH_take (i := 0) (v := ?_) (ops_at rfl) (by kernel_rfl) (by kernel_rfl) (by kernel_rfl) (fun _ _ _ h => h) (Or.inl ⟨by rfl, ?yrx100⟩) (by assumption) ?nrx100
    case yrx100 => (intro wS hSw; obtain ⟨s0, s1⟩ := hSw; have q0 := cell_of s0 0; have q1 := cell_of s0 1; have q2 := cell_of s1 0; have q3 := cell_of s1 1; go_simp; try rfl)
    try simp only [Act.put, List.setIfInBounds_toArray, List.set_cons_zero, List.set_cons_succ]
    refine wpAnyH_take (i := 1) (v := ?_) (ops_at rfl) (by kernel_rfl) (by kernel_rfl) (by kernel_rfl) (fun _ _ _ h => h) (Or.inl ⟨by rfl, ?yrx101⟩) (by assumption) ?nrx101
    case yrx101 => (intro wS hSw; obtain ⟨s0, s1⟩ := hSw; have q0 := cell_of s0 0; have q1 := cell_of s0 1; have q2 := cell_of s1 0; have q3 := cell_of s1 1; go_simp; try rfl)
    try simp only [Act.put, List.setIfInBounds_toArray, List.set_cons_zero, List.set_cons_succ]
    obtain ⟨w7, hw7⟩ : ∃ wz, w6.drew = wz := ⟨_, rfl⟩
    have hb7 : Below w6.heap.size w6 w7 := by rw [← hw7]; exact below_drewN (Below.refl _ _) 1
    have HW7 := Lib.hid hw7
    clear hw7
    have hz7 := hb7.size
    have hB7 : Below w.heap.size w w7 := Below.trans hB6 (hb7.mono (by omega))
    have hs0_7 := hs0_6.below hb7 (by omega)
    clear hs0_6
    have P_7 := (hb7.block _ (by omega)).trans P_6
    clear P_6
    have x0_7 := x0_6.below hb7 (by omega)
    clear x0_6
    have X0_7 := (hb7.block _ (by omega)).trans X0_6
    clear X0_6
    refine wpAnyH_ready (rs := [2]) (by kernel_rfl) (by simp) ?_
    refine AllReadyH.cons (ops_at rfl) (fun K hK => ?_) AllReadyH.nil
    go_simp
    rw [HW7.out]
    refine (toPuzzle_any t0 a0 len0 cap0 z0 w.heap.size _ HN0.out hlen0 hs0_7 (by omega)).mono ?_
    rintro e w8 ⟨cbA, rfl, cb, hb8⟩
    have hz8 := hb8.size
    have hB8 : Below w.heap.size w w8 := Below.trans hB7 (hb8.mono (by omega))
    have hs0_8 := hs0_7.below hb8 (by omega)
    clear hs0_7
    have P_8 := (hb8.block _ (by omega)).trans P_7
    clear P_7
    have x0_8 := x0_7.below hb8 (by omega)
    clear x0_7
    have X0_8 := (hb8.block _ (by omega)).trans X0_7
    clear X0_7
    refine hK.out _ _ ⟨X0_8, P_8⟩ (fun hHrx108 => ?_)
    clear hK K
    refine wpAnyH_ready (rs := [3]) (by kernel_rfl) (by simp) ?_
    refine AllReadyH.cons (ops_at rfl) (fun K hK => ?_) AllReadyH.nil
    go_simp
    refine (eqPuzzle_any _ _ _ _ _ _ _ _ _ _ _ _ HN0.out hlen0 x0_8.seg cb.seg (by omega) (by omega)).mono ?_
    rintro e w9 ⟨rfl, hb9⟩
    have hz9 := hb9.size
    have hB9 : Below w.heap.size w w9 := Below.trans hB8 (hb9.mono (by omega))
    have hs0_9 := hs0_8.below hb9 (by omega)
    clear hs0_8
    have P_9 := (hb9.block _ (by omega)).trans P_8
    clear P_8
    have x0_9 := x0_8.below hb9 (by omega)
    clear x0_8
    have X0_9 := (hb9.block _ (by omega)).trans X0_8
    clear X0_8
    have cb_9 := cb.below hb9 (by omega)
    clear cb
    refine hK.out _ _ ⟨X0_9, P_9⟩ (fun hHrx109 => ?_)
    clear hK K
    refine wpAnyH_take (i := 4) (v := ?_) (ops_at rfl) (by kernel_rfl) (by kernel_rfl) (by kernel_rfl) (fun _ _ _ h => h) (Or.inl ⟨by rfl, ?yrx104⟩) (by assumption) ?nrx104
    case yrx104 => (intro wS hSw; obtain ⟨s0, s1⟩ := hSw; have q0 := cell_of s0 0; have q1 := cell_of s0 1; have q2 := cell_of s1 0; have q3 := cell_of s1 1; go_simp; try rfl)
    try simp only [Act.put, List.setIfInBounds_toArray, List.set_cons_zero, List.set_cons_succ]
    refine wpAnyH_done (by kernel_rfl) ?_ _
    go_wp2
    go_ret
    exact ⟨rfl, hB9⟩
end PuzzleText
end Go.Proofs.YtoheoojpmndhoabDoor

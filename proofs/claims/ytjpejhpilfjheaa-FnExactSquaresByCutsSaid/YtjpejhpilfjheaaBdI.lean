/-
  A board is just a piece: both programs' tests.
  Conditions: none.
-/
import Derived.Test.YtjpejhpilfjheaaBdG
namespace Go.Proofs.Ytjpejhpilfjheaa
set_option linter.unusedVariables false
set_option linter.unusedSimpArgs false
open Go.RowKit

set_option maxRecDepth 100000 in
set_option maxHeartbeats 2000000 in
theorem is_any (a b : Nat) (x y z : Int) (tu : Bool) (w : World) (q : Bool) (hq : isP a b (x, y, z) tu = q) :
    Calls Try.prog 65 #[.agg #[.int .i64 (a : Int), .int .i64 (b : Int)], .agg #[.int .i64 x, .int .i64 y, .int .i64 z], .bool tu] w fun e w' => e = .returned (.bool q) ∧ Below w.heap.size w w' := by
  have HB0 := Lib.hid (((Below.refl w.heap.size w).alloc (Nat.le_refl _) (.cells #[.int .i64 (a : Int), .int .i64 (b : Int)] 55)).alloc (by simp) (.cells #[.int .i64 x, .int .i64 y, .int .i64 z] 26))
  have HA := Lib.hid ((alloc_old _ (by simp) _).trans (new_at w (.cells #[.int .i64 (a : Int), .int .i64 (b : Int)] 55) rfl) : ((w.alloc (.cells #[.int .i64 (a : Int), .int .i64 (b : Int)] 55)).alloc (.cells #[.int .i64 x, .int .i64 y, .int .i64 z] 26)).heap[w.heap.size]? = _)
  have HP := Lib.hid (new_at (w.alloc (.cells #[.int .i64 (a : Int), .int .i64 (b : Int)] 55)) (.cells #[.int .i64 x, .int .i64 y, .int .i64 z] 26) (g := w.heap.size + 1) (by simp))
  have hbe1 := brd_eql (a : Int) (b : Int) x y
  have hbe2 := brd_eql (a : Int) (b : Int) y x
  obtain ⟨e1, he1⟩ : ∃ e1, ((a : Int) == x && (b : Int) == y) = e1 := ⟨_, rfl⟩
  obtain ⟨e2, he2⟩ : ∃ e2, ((a : Int) == y && (b : Int) == x) = e2 := ⟨_, rfl⟩
  have hq' : (e1 || (tu && e2)) = q := by rw [← hq, ← he1, ← he2]; rfl
  simp only [he1] at hbe1
  simp only [he2] at hbe2
  clear hq he1 he2
  cases e1
  · cases tu
    · obtain rfl : q = false := by rw [← hq']; rfl
      clear hq' hbe2
      go_enter Try.func65, Try.ntmps65
      go_wp2_with fail
      refine wp_region_held_drew (S := (fun wq => wq.heap[w.heap.size]? = some (.cells #[.int .i64 (a : Int), .int .i64 (b : Int)] 55 (0, 0)) ∧ wq.heap[w.heap.size + 1]? = some (.cells #[.int .i64 x, .int .i64 y, .int .i64 z] 26 (0, 0)))) (by kernel_rfl) ⟨HA.out, HP.out⟩ (fun hH0 => ?_)
      have g0 := hH0
      refine wpAnyH_take (i := 0) (v := ?_) (ops_at rfl) (by kernel_rfl) (by kernel_rfl) (by kernel_rfl) (fun _ _ _ h => h) (Or.inl ⟨by rfl, ?yb0⟩) (by assumption) ?nb0
      case yb0 => (intro wS hSw; (try dsimp only at hSw); (have k0 := cell_of hSw.1 0); (have k1 := cell_of hSw.1 1); (have k2 := cell_of hSw.2 0); (have k3 := cell_of hSw.2 1); (have k4 := cell_of hSw.2 2); go_simp; try rfl)
      try simp only [Act.put, List.setIfInBounds_toArray, List.set_cons_zero, List.set_cons_succ]
      refine wpAnyH_take (i := 1) (v := ?_) (ops_at rfl) (by kernel_rfl) (by kernel_rfl) (by kernel_rfl) (fun _ _ _ h => h) (Or.inl ⟨by rfl, ?yb1⟩) (by assumption) ?nb1
      case yb1 => (intro wS hSw; (try dsimp only at hSw); (have k0 := cell_of hSw.1 0); (have k1 := cell_of hSw.1 1); (have k2 := cell_of hSw.2 0); (have k3 := cell_of hSw.2 1); (have k4 := cell_of hSw.2 2); go_simp; try rfl)
      try simp only [Act.put, List.setIfInBounds_toArray, List.set_cons_zero, List.set_cons_succ]
      refine wpAnyH_ready (rs := [2]) (by kernel_rfl) (by simp) ?_
      refine AllReadyH.cons (ops_at rfl) (fun K hK => ?_) AllReadyH.nil
      go_simp
      refine (boardOf_any x y z _).mono ?_
      rintro e w1 ⟨rfl, hb1⟩
      have h1 := undrew hb1
      have HB1 := Lib.hid (HB0.out.trans (h1.mono (by simp; omega)))
      refine hK.out _ _ ⟨(h1.block _ (heap_lt g0.1)).trans g0.1, (h1.block _ (heap_lt g0.2)).trans g0.2⟩ (fun g1 => ?_)
      clear hK K
      refine wpAnyH_take (i := 3) (v := ?_) (ops_at rfl) (by kernel_rfl) (by kernel_rfl) (by kernel_rfl) (fun _ _ _ h => h) (Or.inl ⟨by rfl, ?yb3⟩) (by assumption) ?nb3
      case yb3 => (intro wS hSw; (try dsimp only at hSw); (have k0 := cell_of hSw.1 0); (have k1 := cell_of hSw.1 1); (have k2 := cell_of hSw.2 0); (have k3 := cell_of hSw.2 1); (have k4 := cell_of hSw.2 2); go_simp; try rfl)
      try simp only [Act.put, List.setIfInBounds_toArray, List.set_cons_zero, List.set_cons_succ]
      refine wpAnyH_take (i := 4) (v := ?_) (ops_at rfl) (by kernel_rfl) (by kernel_rfl) (by kernel_rfl) (fun _ _ _ h => h) (Or.inl ⟨by rfl, ?yb4⟩) (by assumption) ?nb4
      case yb4 => (intro wS hSw; (try dsimp only at hSw); (have k0 := cell_of hSw.1 0); (have k1 := cell_of hSw.1 1); (have k2 := cell_of hSw.2 0); (have k3 := cell_of hSw.2 1); (have k4 := cell_of hSw.2 2); go_simp; try rfl)
      try simp only [Act.put, List.setIfInBounds_toArray, List.set_cons_zero, List.set_cons_succ]
      refine wpAnyH_take (i := 5) (v := ?_) (ops_at rfl) (by kernel_rfl) (by kernel_rfl) (by kernel_rfl) (fun _ _ _ h => h) (Or.inl ⟨by rfl, ?yb5⟩) (by assumption) ?nb5
      case yb5 => (intro wS hSw; (try dsimp only at hSw); (have k0 := cell_of hSw.1 0); (have k1 := cell_of hSw.1 1); (have k2 := cell_of hSw.2 0); (have k3 := cell_of hSw.2 1); (have k4 := cell_of hSw.2 2); go_simp; try rfl)
      try simp only [Act.put, List.setIfInBounds_toArray, List.set_cons_zero, List.set_cons_succ]
      refine wpAnyH_take (i := 6) (v := ?_) (ops_at rfl) (by kernel_rfl) (by kernel_rfl) (by kernel_rfl) (fun _ _ _ h => h) (Or.inl ⟨by rfl, ?yb6⟩) (by assumption) ?nb6
      case yb6 => (intro wS hSw; (try dsimp only at hSw); (have k0 := cell_of hSw.1 0); (have k1 := cell_of hSw.1 1); (have k2 := cell_of hSw.2 0); (have k3 := cell_of hSw.2 1); (have k4 := cell_of hSw.2 2); go_simp; try rfl)
      try simp only [Act.put, List.setIfInBounds_toArray, List.set_cons_zero, List.set_cons_succ]
      refine wpAnyH_take (i := 7) (v := undef) (ops_at rfl) (by kernel_rfl) (by kernel_rfl) (by kernel_rfl) (fun _ _ _ h => h) (Or.inr ⟨by rfl, rfl⟩) (by assumption) ?_
      try simp only [Act.put, List.setIfInBounds_toArray, List.set_cons_zero, List.set_cons_succ]
      refine wpAnyH_take (i := 8) (v := undef) (ops_at rfl) (by kernel_rfl) (by kernel_rfl) (by kernel_rfl) (fun _ _ _ h => h) (Or.inr ⟨by rfl, rfl⟩) (by assumption) ?_
      try simp only [Act.put, List.setIfInBounds_toArray, List.set_cons_zero, List.set_cons_succ]
      refine wpAnyH_take (i := 9) (v := undef) (ops_at rfl) (by kernel_rfl) (by kernel_rfl) (by kernel_rfl) (fun _ _ _ h => h) (Or.inr ⟨by rfl, rfl⟩) (by assumption) ?_
      try simp only [Act.put, List.setIfInBounds_toArray, List.set_cons_zero, List.set_cons_succ]
      refine wpAnyH_take (i := 10) (v := undef) (ops_at rfl) (by kernel_rfl) (by kernel_rfl) (by kernel_rfl) (fun _ _ _ h => h) (Or.inr ⟨by rfl, rfl⟩) (by assumption) ?_
      try simp only [Act.put, List.setIfInBounds_toArray, List.set_cons_zero, List.set_cons_succ]
      refine wpAnyH_take (i := 11) (v := undef) (ops_at rfl) (by kernel_rfl) (by kernel_rfl) (by kernel_rfl) (fun _ _ _ h => h) (Or.inr ⟨by rfl, rfl⟩) (by assumption) ?_
      try simp only [Act.put, List.setIfInBounds_toArray, List.set_cons_zero, List.set_cons_succ]
      refine wpAnyH_take (i := 12) (v := ?_) (ops_at rfl) (by kernel_rfl) (by kernel_rfl) (by kernel_rfl) (fun _ _ _ h => h) (Or.inl ⟨by rfl, ?yb12⟩) (by assumption) ?nb12
      case yb12 => (intro wS hSw; (try dsimp only at hSw); (have k0 := cell_of hSw.1 0); (have k1 := cell_of hSw.1 1); (have k2 := cell_of hSw.2 0); (have k3 := cell_of hSw.2 1); (have k4 := cell_of hSw.2 2); go_simp; try rfl)
      try simp only [Act.put, List.setIfInBounds_toArray, List.set_cons_zero, List.set_cons_succ]
      refine wpAnyH_take (i := 13) (v := ?_) (ops_at rfl) (by kernel_rfl) (by kernel_rfl) (by kernel_rfl) (fun _ _ _ h => h) (Or.inl ⟨by rfl, ?yb13⟩) (by assumption) ?nb13
      case yb13 => (intro wS hSw; (try dsimp only at hSw); (have k0 := cell_of hSw.1 0); (have k1 := cell_of hSw.1 1); (have k2 := cell_of hSw.2 0); (have k3 := cell_of hSw.2 1); (have k4 := cell_of hSw.2 2); go_simp; try rfl)
      try simp only [Act.put, List.setIfInBounds_toArray, List.set_cons_zero, List.set_cons_succ]
      refine wpAnyH_take (i := 14) (v := ?_) (ops_at rfl) (by kernel_rfl) (by kernel_rfl) (by kernel_rfl) (fun _ _ _ h => h) (Or.inl ⟨by rfl, ?yb14⟩) (by assumption) ?nb14
      case yb14 => (intro wS hSw; (try dsimp only at hSw); (have k0 := cell_of hSw.1 0); (have k1 := cell_of hSw.1 1); (have k2 := cell_of hSw.2 0); (have k3 := cell_of hSw.2 1); (have k4 := cell_of hSw.2 2); go_simp; try rfl)
      try simp only [Act.put, List.setIfInBounds_toArray, List.set_cons_zero, List.set_cons_succ]
      refine wpAnyH_done (by kernel_rfl) ?_ _
      go_wp2
      go_ret
      exact ⟨rfl, HB1.out⟩
    · obtain rfl : e2 = q := by rw [← hq']; simp
      clear hq'
      go_enter Try.func65, Try.ntmps65
      go_wp2_with fail
      refine wp_region_held_drew (S := (fun wq => wq.heap[w.heap.size]? = some (.cells #[.int .i64 (a : Int), .int .i64 (b : Int)] 55 (0, 0)) ∧ wq.heap[w.heap.size + 1]? = some (.cells #[.int .i64 x, .int .i64 y, .int .i64 z] 26 (0, 0)))) (by kernel_rfl) ⟨HA.out, HP.out⟩ (fun hH0 => ?_)
      have g0 := hH0
      refine wpAnyH_take (i := 0) (v := ?_) (ops_at rfl) (by kernel_rfl) (by kernel_rfl) (by kernel_rfl) (fun _ _ _ h => h) (Or.inl ⟨by rfl, ?yc0⟩) (by assumption) ?nc0
      case yc0 => (intro wS hSw; (try dsimp only at hSw); (have k0 := cell_of hSw.1 0); (have k1 := cell_of hSw.1 1); (have k2 := cell_of hSw.2 0); (have k3 := cell_of hSw.2 1); (have k4 := cell_of hSw.2 2); go_simp; try rfl)
      try simp only [Act.put, List.setIfInBounds_toArray, List.set_cons_zero, List.set_cons_succ]
      refine wpAnyH_take (i := 1) (v := ?_) (ops_at rfl) (by kernel_rfl) (by kernel_rfl) (by kernel_rfl) (fun _ _ _ h => h) (Or.inl ⟨by rfl, ?yc1⟩) (by assumption) ?nc1
      case yc1 => (intro wS hSw; (try dsimp only at hSw); (have k0 := cell_of hSw.1 0); (have k1 := cell_of hSw.1 1); (have k2 := cell_of hSw.2 0); (have k3 := cell_of hSw.2 1); (have k4 := cell_of hSw.2 2); go_simp; try rfl)
      try simp only [Act.put, List.setIfInBounds_toArray, List.set_cons_zero, List.set_cons_succ]
      refine wpAnyH_ready (rs := [2]) (by kernel_rfl) (by simp) ?_
      refine AllReadyH.cons (ops_at rfl) (fun K hK => ?_) AllReadyH.nil
      go_simp
      refine (boardOf_any x y z _).mono ?_
      rintro e w1 ⟨rfl, hb1⟩
      have h1 := undrew hb1
      have HB1 := Lib.hid (HB0.out.trans (h1.mono (by simp; omega)))
      refine hK.out _ _ ⟨(h1.block _ (heap_lt g0.1)).trans g0.1, (h1.block _ (heap_lt g0.2)).trans g0.2⟩ (fun g1 => ?_)
      clear hK K
      refine wpAnyH_take (i := 3) (v := ?_) (ops_at rfl) (by kernel_rfl) (by kernel_rfl) (by kernel_rfl) (fun _ _ _ h => h) (Or.inl ⟨by rfl, ?yc3⟩) (by assumption) ?nc3
      case yc3 => (intro wS hSw; (try dsimp only at hSw); (have k0 := cell_of hSw.1 0); (have k1 := cell_of hSw.1 1); (have k2 := cell_of hSw.2 0); (have k3 := cell_of hSw.2 1); (have k4 := cell_of hSw.2 2); go_simp; try rfl)
      try simp only [Act.put, List.setIfInBounds_toArray, List.set_cons_zero, List.set_cons_succ]
      refine wpAnyH_take (i := 4) (v := ?_) (ops_at rfl) (by kernel_rfl) (by kernel_rfl) (by kernel_rfl) (fun _ _ _ h => h) (Or.inl ⟨by rfl, ?yc4⟩) (by assumption) ?nc4
      case yc4 => (intro wS hSw; (try dsimp only at hSw); (have k0 := cell_of hSw.1 0); (have k1 := cell_of hSw.1 1); (have k2 := cell_of hSw.2 0); (have k3 := cell_of hSw.2 1); (have k4 := cell_of hSw.2 2); go_simp; try rfl)
      try simp only [Act.put, List.setIfInBounds_toArray, List.set_cons_zero, List.set_cons_succ]
      refine wpAnyH_take (i := 5) (v := ?_) (ops_at rfl) (by kernel_rfl) (by kernel_rfl) (by kernel_rfl) (fun _ _ _ h => h) (Or.inl ⟨by rfl, ?yc5⟩) (by assumption) ?nc5
      case yc5 => (intro wS hSw; (try dsimp only at hSw); (have k0 := cell_of hSw.1 0); (have k1 := cell_of hSw.1 1); (have k2 := cell_of hSw.2 0); (have k3 := cell_of hSw.2 1); (have k4 := cell_of hSw.2 2); go_simp; try rfl)
      try simp only [Act.put, List.setIfInBounds_toArray, List.set_cons_zero, List.set_cons_succ]
      refine wpAnyH_take (i := 6) (v := ?_) (ops_at rfl) (by kernel_rfl) (by kernel_rfl) (by kernel_rfl) (fun _ _ _ h => h) (Or.inl ⟨by rfl, ?yc6⟩) (by assumption) ?nc6
      case yc6 => (intro wS hSw; (try dsimp only at hSw); (have k0 := cell_of hSw.1 0); (have k1 := cell_of hSw.1 1); (have k2 := cell_of hSw.2 0); (have k3 := cell_of hSw.2 1); (have k4 := cell_of hSw.2 2); go_simp; try rfl)
      try simp only [Act.put, List.setIfInBounds_toArray, List.set_cons_zero, List.set_cons_succ]
      refine wpAnyH_take (i := 7) (v := ?_) (ops_at rfl) (by kernel_rfl) (by kernel_rfl) (by kernel_rfl) (fun _ _ _ h => h) (Or.inl ⟨by rfl, ?yc7⟩) (by assumption) ?nc7
      case yc7 => (intro wS hSw; (try dsimp only at hSw); (have k0 := cell_of hSw.1 0); (have k1 := cell_of hSw.1 1); (have k2 := cell_of hSw.2 0); (have k3 := cell_of hSw.2 1); (have k4 := cell_of hSw.2 2); go_simp; try rfl)
      try simp only [Act.put, List.setIfInBounds_toArray, List.set_cons_zero, List.set_cons_succ]
      refine wpAnyH_take (i := 8) (v := ?_) (ops_at rfl) (by kernel_rfl) (by kernel_rfl) (by kernel_rfl) (fun _ _ _ h => h) (Or.inl ⟨by rfl, ?yc8⟩) (by assumption) ?nc8
      case yc8 => (intro wS hSw; (try dsimp only at hSw); (have k0 := cell_of hSw.1 0); (have k1 := cell_of hSw.1 1); (have k2 := cell_of hSw.2 0); (have k3 := cell_of hSw.2 1); (have k4 := cell_of hSw.2 2); go_simp; try rfl)
      try simp only [Act.put, List.setIfInBounds_toArray, List.set_cons_zero, List.set_cons_succ]
      refine wpAnyH_ready (rs := [9]) (by kernel_rfl) (by simp) ?_
      refine AllReadyH.cons (ops_at rfl) (fun K hK => ?_) AllReadyH.nil
      go_simp
      refine (turnedOf_any x y z _).mono ?_
      rintro e w2 ⟨rfl, hb2⟩
      have h2 := hb2
      have HB2 := Lib.hid (HB1.out.trans (h2.mono HB1.out.size))
      refine hK.out _ _ ⟨(h2.block _ (heap_lt g1.1)).trans g1.1, (h2.block _ (heap_lt g1.2)).trans g1.2⟩ (fun g2 => ?_)
      clear hK K
      refine wpAnyH_ready (rs := [10]) (by kernel_rfl) (by simp) ?_
      refine AllReadyH.cons (ops_at rfl) (fun K hK => ?_) AllReadyH.nil
      go_simp
      refine (boardOf_any y x z _).mono ?_
      rintro e w3 ⟨rfl, hb3⟩
      have h3 := hb3
      have HB3 := Lib.hid (HB2.out.trans (h3.mono HB2.out.size))
      refine hK.out _ _ ⟨(h3.block _ (heap_lt g2.1)).trans g2.1, (h3.block _ (heap_lt g2.2)).trans g2.2⟩ (fun g3 => ?_)
      clear hK K
      refine wpAnyH_take (i := 11) (v := ?_) (ops_at rfl) (by kernel_rfl) (by kernel_rfl) (by kernel_rfl) (fun _ _ _ h => h) (Or.inl ⟨by rfl, ?yc11⟩) (by assumption) ?nc11
      case yc11 => (intro wS hSw; (try dsimp only at hSw); (have k0 := cell_of hSw.1 0); (have k1 := cell_of hSw.1 1); (have k2 := cell_of hSw.2 0); (have k3 := cell_of hSw.2 1); (have k4 := cell_of hSw.2 2); go_simp; try rfl)
      try simp only [Act.put, List.setIfInBounds_toArray, List.set_cons_zero, List.set_cons_succ]
      refine wpAnyH_take (i := 12) (v := ?_) (ops_at rfl) (by kernel_rfl) (by kernel_rfl) (by kernel_rfl) (fun _ _ _ h => h) (Or.inl ⟨by rfl, ?yc12⟩) (by assumption) ?nc12
      case yc12 => (intro wS hSw; (try dsimp only at hSw); (have k0 := cell_of hSw.1 0); (have k1 := cell_of hSw.1 1); (have k2 := cell_of hSw.2 0); (have k3 := cell_of hSw.2 1); (have k4 := cell_of hSw.2 2); go_simp; try rfl)
      try simp only [Act.put, List.setIfInBounds_toArray, List.set_cons_zero, List.set_cons_succ]
      refine wpAnyH_take (i := 13) (v := ?_) (ops_at rfl) (by kernel_rfl) (by kernel_rfl) (by kernel_rfl) (fun _ _ _ h => h) (Or.inl ⟨by rfl, ?yc13⟩) (by assumption) ?nc13
      case yc13 => (intro wS hSw; (try dsimp only at hSw); (have k0 := cell_of hSw.1 0); (have k1 := cell_of hSw.1 1); (have k2 := cell_of hSw.2 0); (have k3 := cell_of hSw.2 1); (have k4 := cell_of hSw.2 2); go_simp; try rfl)
      try simp only [Act.put, List.setIfInBounds_toArray, List.set_cons_zero, List.set_cons_succ]
      refine wpAnyH_take (i := 14) (v := ?_) (ops_at rfl) (by kernel_rfl) (by kernel_rfl) (by kernel_rfl) (fun _ _ _ h => h) (Or.inl ⟨by rfl, ?yc14⟩) (by assumption) ?nc14
      case yc14 => (intro wS hSw; (try dsimp only at hSw); (have k0 := cell_of hSw.1 0); (have k1 := cell_of hSw.1 1); (have k2 := cell_of hSw.2 0); (have k3 := cell_of hSw.2 1); (have k4 := cell_of hSw.2 2); go_simp; try rfl)
      try simp only [Act.put, List.setIfInBounds_toArray, List.set_cons_zero, List.set_cons_succ]
      refine wpAnyH_done (by kernel_rfl) ?_ _
      go_wp2
      go_ret
      exact ⟨rfl, HB3.out⟩
  · obtain rfl : q = true := by rw [← hq']; rfl
    clear hq' hbe2
    go_enter Try.func65, Try.ntmps65
    go_wp2_with fail
    refine wp_region_held_drew (S := (fun wq => wq.heap[w.heap.size]? = some (.cells #[.int .i64 (a : Int), .int .i64 (b : Int)] 55 (0, 0)) ∧ wq.heap[w.heap.size + 1]? = some (.cells #[.int .i64 x, .int .i64 y, .int .i64 z] 26 (0, 0)))) (by kernel_rfl) ⟨HA.out, HP.out⟩ (fun hH0 => ?_)
    have g0 := hH0
    refine wpAnyH_take (i := 0) (v := ?_) (ops_at rfl) (by kernel_rfl) (by kernel_rfl) (by kernel_rfl) (fun _ _ _ h => h) (Or.inl ⟨by rfl, ?ya0⟩) (by assumption) ?na0
    case ya0 => (intro wS hSw; (try dsimp only at hSw); (have k0 := cell_of hSw.1 0); (have k1 := cell_of hSw.1 1); (have k2 := cell_of hSw.2 0); (have k3 := cell_of hSw.2 1); (have k4 := cell_of hSw.2 2); go_simp; try rfl)
    try simp only [Act.put, List.setIfInBounds_toArray, List.set_cons_zero, List.set_cons_succ]
    refine wpAnyH_take (i := 1) (v := ?_) (ops_at rfl) (by kernel_rfl) (by kernel_rfl) (by kernel_rfl) (fun _ _ _ h => h) (Or.inl ⟨by rfl, ?ya1⟩) (by assumption) ?na1
    case ya1 => (intro wS hSw; (try dsimp only at hSw); (have k0 := cell_of hSw.1 0); (have k1 := cell_of hSw.1 1); (have k2 := cell_of hSw.2 0); (have k3 := cell_of hSw.2 1); (have k4 := cell_of hSw.2 2); go_simp; try rfl)
    try simp only [Act.put, List.setIfInBounds_toArray, List.set_cons_zero, List.set_cons_succ]
    refine wpAnyH_ready (rs := [2]) (by kernel_rfl) (by simp) ?_
    refine AllReadyH.cons (ops_at rfl) (fun K hK => ?_) AllReadyH.nil
    go_simp
    refine (boardOf_any x y z _).mono ?_
    rintro e w1 ⟨rfl, hb1⟩
    have h1 := undrew hb1
    have HB1 := Lib.hid (HB0.out.trans (h1.mono (by simp; omega)))
    refine hK.out _ _ ⟨(h1.block _ (heap_lt g0.1)).trans g0.1, (h1.block _ (heap_lt g0.2)).trans g0.2⟩ (fun g1 => ?_)
    clear hK K
    refine wpAnyH_take (i := 3) (v := ?_) (ops_at rfl) (by kernel_rfl) (by kernel_rfl) (by kernel_rfl) (fun _ _ _ h => h) (Or.inl ⟨by rfl, ?ya3⟩) (by assumption) ?na3
    case ya3 => (intro wS hSw; (try dsimp only at hSw); (have k0 := cell_of hSw.1 0); (have k1 := cell_of hSw.1 1); (have k2 := cell_of hSw.2 0); (have k3 := cell_of hSw.2 1); (have k4 := cell_of hSw.2 2); go_simp; try rfl)
    try simp only [Act.put, List.setIfInBounds_toArray, List.set_cons_zero, List.set_cons_succ]
    refine wpAnyH_take (i := 4) (v := ?_) (ops_at rfl) (by kernel_rfl) (by kernel_rfl) (by kernel_rfl) (fun _ _ _ h => h) (Or.inl ⟨by rfl, ?ya4⟩) (by assumption) ?na4
    case ya4 => (intro wS hSw; (try dsimp only at hSw); (have k0 := cell_of hSw.1 0); (have k1 := cell_of hSw.1 1); (have k2 := cell_of hSw.2 0); (have k3 := cell_of hSw.2 1); (have k4 := cell_of hSw.2 2); go_simp; try rfl)
    try simp only [Act.put, List.setIfInBounds_toArray, List.set_cons_zero, List.set_cons_succ]
    refine wpAnyH_take (i := 5) (v := undef) (ops_at rfl) (by kernel_rfl) (by kernel_rfl) (by kernel_rfl) (fun _ _ _ h => h) (Or.inr ⟨by rfl, rfl⟩) (by assumption) ?_
    try simp only [Act.put, List.setIfInBounds_toArray, List.set_cons_zero, List.set_cons_succ]
    refine wpAnyH_take (i := 6) (v := undef) (ops_at rfl) (by kernel_rfl) (by kernel_rfl) (by kernel_rfl) (fun _ _ _ h => h) (Or.inr ⟨by rfl, rfl⟩) (by assumption) ?_
    try simp only [Act.put, List.setIfInBounds_toArray, List.set_cons_zero, List.set_cons_succ]
    refine wpAnyH_take (i := 7) (v := undef) (ops_at rfl) (by kernel_rfl) (by kernel_rfl) (by kernel_rfl) (fun _ _ _ h => h) (Or.inr ⟨by rfl, rfl⟩) (by assumption) ?_
    try simp only [Act.put, List.setIfInBounds_toArray, List.set_cons_zero, List.set_cons_succ]
    refine wpAnyH_take (i := 8) (v := undef) (ops_at rfl) (by kernel_rfl) (by kernel_rfl) (by kernel_rfl) (fun _ _ _ h => h) (Or.inr ⟨by rfl, rfl⟩) (by assumption) ?_
    try simp only [Act.put, List.setIfInBounds_toArray, List.set_cons_zero, List.set_cons_succ]
    refine wpAnyH_take (i := 9) (v := undef) (ops_at rfl) (by kernel_rfl) (by kernel_rfl) (by kernel_rfl) (fun _ _ _ h => h) (Or.inr ⟨by rfl, rfl⟩) (by assumption) ?_
    try simp only [Act.put, List.setIfInBounds_toArray, List.set_cons_zero, List.set_cons_succ]
    refine wpAnyH_take (i := 10) (v := undef) (ops_at rfl) (by kernel_rfl) (by kernel_rfl) (by kernel_rfl) (fun _ _ _ h => h) (Or.inr ⟨by rfl, rfl⟩) (by assumption) ?_
    try simp only [Act.put, List.setIfInBounds_toArray, List.set_cons_zero, List.set_cons_succ]
    refine wpAnyH_take (i := 11) (v := undef) (ops_at rfl) (by kernel_rfl) (by kernel_rfl) (by kernel_rfl) (fun _ _ _ h => h) (Or.inr ⟨by rfl, rfl⟩) (by assumption) ?_
    try simp only [Act.put, List.setIfInBounds_toArray, List.set_cons_zero, List.set_cons_succ]
    refine wpAnyH_take (i := 12) (v := undef) (ops_at rfl) (by kernel_rfl) (by kernel_rfl) (by kernel_rfl) (fun _ _ _ h => h) (Or.inr ⟨by rfl, rfl⟩) (by assumption) ?_
    try simp only [Act.put, List.setIfInBounds_toArray, List.set_cons_zero, List.set_cons_succ]
    refine wpAnyH_take (i := 13) (v := ?_) (ops_at rfl) (by kernel_rfl) (by kernel_rfl) (by kernel_rfl) (fun _ _ _ h => h) (Or.inl ⟨by rfl, ?ya13⟩) (by assumption) ?na13
    case ya13 => (intro wS hSw; (try dsimp only at hSw); (have k0 := cell_of hSw.1 0); (have k1 := cell_of hSw.1 1); (have k2 := cell_of hSw.2 0); (have k3 := cell_of hSw.2 1); (have k4 := cell_of hSw.2 2); go_simp; try rfl)
    try simp only [Act.put, List.setIfInBounds_toArray, List.set_cons_zero, List.set_cons_succ]
    refine wpAnyH_take (i := 14) (v := ?_) (ops_at rfl) (by kernel_rfl) (by kernel_rfl) (by kernel_rfl) (fun _ _ _ h => h) (Or.inl ⟨by rfl, ?ya14⟩) (by assumption) ?na14
    case ya14 => (intro wS hSw; (try dsimp only at hSw); (have k0 := cell_of hSw.1 0); (have k1 := cell_of hSw.1 1); (have k2 := cell_of hSw.2 0); (have k3 := cell_of hSw.2 1); (have k4 := cell_of hSw.2 2); go_simp; try rfl)
    try simp only [Act.put, List.setIfInBounds_toArray, List.set_cons_zero, List.set_cons_succ]
    refine wpAnyH_done (by kernel_rfl) ?_ _
    go_wp2
    go_ret
    exact ⟨rfl, HB1.out⟩

theorem l1Most_any (x y v : Int) (hv : max x y = v) (w : World) : Calls Try.prog 61 #[.int .i64 x, .int .i64 y] w fun e w' => e = .returned (.int .i64 v) ∧ w = w' := by
  by_cases h : y < x
  · have hd : decide (y < x) = true := decide_eq_true h
    obtain rfl : x = v := by omega
    go_enter Try.func61, Try.ntmps61
    clear hv
    go_wp2
    go_ret
    exact ⟨rfl, rfl⟩
  · have hd : decide (y < x) = false := decide_eq_false h
    obtain rfl : y = v := by omega
    go_enter Try.func61, Try.ntmps61
    clear hv
    go_wp2
    go_ret
    exact ⟨rfl, rfl⟩

set_option maxHeartbeats 2000000 in
theorem bdIs_any (a b : Nat) (x y z : Int) (tu : Bool) (w : World) (q : Bool) (hq : isP a b (x, y, z) tu = q) :
    Calls Try.prog 60 #[.int .i64 (a : Int), .int .i64 (b : Int), .agg #[.int .i64 x, .int .i64 y, .int .i64 z], .bool tu] w fun e w' => e = .returned (.bool q) ∧ Below w.heap.size w w' := by
  have HB0 := Lib.hid ((Below.refl w.heap.size w).alloc (Nat.le_refl _) (.cells #[.int .i64 x, .int .i64 y, .int .i64 z] 26))
  obtain ⟨p, hp⟩ : ∃ p, ((a : Int) == x) = p := ⟨_, rfl⟩
  obtain ⟨r, hr⟩ : ∃ r, ((b : Int) == y) = r := ⟨_, rfl⟩
  obtain ⟨s, hs⟩ : ∃ s, ((a : Int) == y) = s := ⟨_, rfl⟩
  obtain ⟨t, ht⟩ : ∃ t, ((b : Int) == x) = t := ⟨_, rfl⟩
  have hq' : ((p && r) || (tu && (s && t))) = q := by rw [← hq, ← hp, ← hr, ← hs, ← ht]; rfl
  clear hq
  cases p <;> cases r <;> cases tu <;> cases s
  all_goals
    simp only [Bool.and_true, Bool.true_and, Bool.false_and, Bool.and_false, Bool.or_false, Bool.false_or, Bool.true_or, Bool.or_true] at hq'
    subst hq'
    go_enter Try.func60, Try.ntmps60
    go_wp2
    go_ret
    exact ⟨rfl, HB0.out⟩
end Go.Proofs.Ytjpejhpilfjheaa

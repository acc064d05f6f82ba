/-
  The closure of the written program's first kind of a board.
  Conditions: a board, the sheet's values.
-/
import Derived.Test.YtjpejhpilfjheaaBdW
namespace Go.Proofs.Ytjpejhpilfjheaa
set_option linter.unusedVariables false
open Go.RowKit

set_option maxRecDepth 100000 in
set_option maxHeartbeats 2000000 in
theorem kind1_any (A H a b X Bb Sb B0 : Nat) (C0 : Option Addr) (np cp0 : Nat) (tu : Bool) (t : Nat → Nat → Int) (x y z : Int) (w : World) (a1 : 1 ≤ a) (aA : a ≤ A) (b1 : 1 ≤ b) (bH : b ≤ H)
    (hbx : w.heap[Bb]? = some (.cells #[.int .i64 (a : Int), .int .i64 (b : Int)] 55 (0, 0))) (hsx : w.heap[Sb]? = some (.cells #[.int .i64 (A : Int), .int .i64 (H : Int), .slice C0 np cp0, .bool tu, .func (.func 75) #[] #[.pointer (some ⟨X, 0, none⟩)]] 59 (0, 0)))
    (hW : Worth w B0 X t (fun a' b' => 1 ≤ a' ∧ 1 ≤ b' ∧ a' ≤ A ∧ b' ≤ H)) (hB0 : B0 ≤ w.heap.size) (hbd : 0 ≤ t a b ∧ t a b ≤ 1000000000000001) (v0 : Int) (hv0 : t a b = v0) (q : Bool) (hq : (isP a b (x, y, z) tu && z == v0) = q) :
    Calls Try.prog 92 #[.agg #[.int .i64 x, .int .i64 y, .int .i64 z], .pointer (some ⟨Bb, 0, none⟩), .pointer (some ⟨Sb, 0, none⟩)] w fun e w' => e = .returned (.bool q) ∧ Below w.heap.size w w' := by
  have HB0 := Lib.hid ((Below.refl w.heap.size w).alloc (Nat.le_refl _) (.cells #[.int .i64 x, .int .i64 y, .int .i64 z] 26))
  have HPB := Lib.hid (new_at w (.cells #[.int .i64 x, .int .i64 y, .int .i64 z] 26) rfl)
  have lB := heap_lt hbx
  have lS := heap_lt hsx
  have HBX := Lib.hid hbx
  have HSX := Lib.hid hsx
  have HW := Lib.hid hW
  have HBD := Lib.hid hbd
  have HV0 := Lib.hid hv0
  clear hbx hsx hW hbd hv0
  cases hit : isP a b (x, y, z) tu
  · obtain rfl : q = false := by rw [← hq, hit]; rfl
    clear hq
    go_enter Try.func92, Try.ntmps92
    go_wp2_with fail
    refine wp_region_held_drew (S := (fun wq => wq.heap[Bb]? = some (.cells #[.int .i64 (a : Int), .int .i64 (b : Int)] 55 (0, 0)) ∧ wq.heap[Sb]? = some (.cells #[.int .i64 (A : Int), .int .i64 (H : Int), .slice C0 np cp0, .bool tu, .func (.func 75) #[] #[.pointer (some ⟨X, 0, none⟩)]] 59 (0, 0)) ∧ wq.heap[w.heap.size]? = some (.cells #[.int .i64 x, .int .i64 y, .int .i64 z] 26 (0, 0)))) (by kernel_rfl) ⟨(HB0.out.block _ lB).trans HBX.out, (HB0.out.block _ lS).trans HSX.out, HPB.out⟩ (fun hH0 => ?_)
    have g0 := hH0
    refine wpAnyH_take (i := 0) (v := ?_) (ops_at rfl) (by kernel_rfl) (by kernel_rfl) (by kernel_rfl) (fun _ _ _ h => h) (Or.inl ⟨by rfl, ?ya0⟩) (by assumption) ?na0
    case ya0 => (intro wS hSw; (try dsimp only at hSw); (have k0 := cell_of hSw.1 0); (have k1 := cell_of hSw.1 1); (have k2 := cell_of hSw.2.1 0); (have k3 := cell_of hSw.2.1 1); (have k4 := cell_of hSw.2.1 2); (have k5 := cell_of hSw.2.1 3); (have k6 := cell_of hSw.2.1 4); (have k7 := cell_of hSw.2.2 0); (have k8 := cell_of hSw.2.2 1); (have k9 := cell_of hSw.2.2 2); go_simp; try rfl)
    try simp only [Act.put, List.setIfInBounds_toArray, List.set_cons_zero, List.set_cons_succ]
    refine wpAnyH_take (i := 1) (v := ?_) (ops_at rfl) (by kernel_rfl) (by kernel_rfl) (by kernel_rfl) (fun _ _ _ h => h) (Or.inl ⟨by rfl, ?ya1⟩) (by assumption) ?na1
    case ya1 => (intro wS hSw; (try dsimp only at hSw); (have k0 := cell_of hSw.1 0); (have k1 := cell_of hSw.1 1); (have k2 := cell_of hSw.2.1 0); (have k3 := cell_of hSw.2.1 1); (have k4 := cell_of hSw.2.1 2); (have k5 := cell_of hSw.2.1 3); (have k6 := cell_of hSw.2.1 4); (have k7 := cell_of hSw.2.2 0); (have k8 := cell_of hSw.2.2 1); (have k9 := cell_of hSw.2.2 2); go_simp; try rfl)
    try simp only [Act.put, List.setIfInBounds_toArray, List.set_cons_zero, List.set_cons_succ]
    refine wpAnyH_take (i := 2) (v := ?_) (ops_at rfl) (by kernel_rfl) (by kernel_rfl) (by kernel_rfl) (fun _ _ _ h => h) (Or.inl ⟨by rfl, ?ya2⟩) (by assumption) ?na2
    case ya2 => (intro wS hSw; (try dsimp only at hSw); (have k0 := cell_of hSw.1 0); (have k1 := cell_of hSw.1 1); (have k2 := cell_of hSw.2.1 0); (have k3 := cell_of hSw.2.1 1); (have k4 := cell_of hSw.2.1 2); (have k5 := cell_of hSw.2.1 3); (have k6 := cell_of hSw.2.1 4); (have k7 := cell_of hSw.2.2 0); (have k8 := cell_of hSw.2.2 1); (have k9 := cell_of hSw.2.2 2); go_simp; try rfl)
    try simp only [Act.put, List.setIfInBounds_toArray, List.set_cons_zero, List.set_cons_succ]
    refine wpAnyH_take (i := 3) (v := ?_) (ops_at rfl) (by kernel_rfl) (by kernel_rfl) (by kernel_rfl) (fun _ _ _ h => h) (Or.inl ⟨by rfl, ?ya3⟩) (by assumption) ?na3
    case ya3 => (intro wS hSw; (try dsimp only at hSw); (have k0 := cell_of hSw.1 0); (have k1 := cell_of hSw.1 1); (have k2 := cell_of hSw.2.1 0); (have k3 := cell_of hSw.2.1 1); (have k4 := cell_of hSw.2.1 2); (have k5 := cell_of hSw.2.1 3); (have k6 := cell_of hSw.2.1 4); (have k7 := cell_of hSw.2.2 0); (have k8 := cell_of hSw.2.2 1); (have k9 := cell_of hSw.2.2 2); go_simp; try rfl)
    try simp only [Act.put, List.setIfInBounds_toArray, List.set_cons_zero, List.set_cons_succ]
    refine wpAnyH_ready (rs := [4]) (by kernel_rfl) (by simp) ?_
    refine AllReadyH.cons (ops_at rfl) (fun K hK => ?_) AllReadyH.nil
    go_simp
    refine (is_any a b x y z tu _ false hit).mono ?_
    rintro e w1 ⟨rfl, hb1⟩
    have h1 := undrew hb1
    have HB1 := Lib.hid (HB0.out.trans (h1.mono (by simp)))
    refine hK.out _ _ ⟨(h1.block _ (heap_lt g0.1)).trans g0.1, (h1.block _ (heap_lt g0.2.1)).trans g0.2.1, (h1.block _ (heap_lt g0.2.2)).trans g0.2.2⟩ (fun g1 => ?_)
    clear hK K
    refine wpAnyH_take (i := 5) (v := ?_) (ops_at rfl) (by kernel_rfl) (by kernel_rfl) (by kernel_rfl) (fun _ _ _ h => h) (Or.inl ⟨by rfl, ?ya5⟩) (by assumption) ?na5
    case ya5 => (intro wS hSw; (try dsimp only at hSw); (have k0 := cell_of hSw.1 0); (have k1 := cell_of hSw.1 1); (have k2 := cell_of hSw.2.1 0); (have k3 := cell_of hSw.2.1 1); (have k4 := cell_of hSw.2.1 2); (have k5 := cell_of hSw.2.1 3); (have k6 := cell_of hSw.2.1 4); (have k7 := cell_of hSw.2.2 0); (have k8 := cell_of hSw.2.2 1); (have k9 := cell_of hSw.2.2 2); go_simp; try rfl)
    try simp only [Act.put, List.setIfInBounds_toArray, List.set_cons_zero, List.set_cons_succ]
    refine wpAnyH_take (i := 6) (v := undef) (ops_at rfl) (by kernel_rfl) (by kernel_rfl) (by kernel_rfl) (fun _ _ _ h => h) (Or.inr ⟨by rfl, rfl⟩) (by assumption) ?_
    try simp only [Act.put, List.setIfInBounds_toArray, List.set_cons_zero, List.set_cons_succ]
    refine wpAnyH_take (i := 7) (v := undef) (ops_at rfl) (by kernel_rfl) (by kernel_rfl) (by kernel_rfl) (fun _ _ _ h => h) (Or.inr ⟨by rfl, rfl⟩) (by assumption) ?_
    try simp only [Act.put, List.setIfInBounds_toArray, List.set_cons_zero, List.set_cons_succ]
    refine wpAnyH_take (i := 8) (v := undef) (ops_at rfl) (by kernel_rfl) (by kernel_rfl) (by kernel_rfl) (fun _ _ _ h => h) (Or.inr ⟨by rfl, rfl⟩) (by assumption) ?_
    try simp only [Act.put, List.setIfInBounds_toArray, List.set_cons_zero, List.set_cons_succ]
    refine wpAnyH_take (i := 9) (v := undef) (ops_at rfl) (by kernel_rfl) (by kernel_rfl) (by kernel_rfl) (fun _ _ _ h => h) (Or.inr ⟨by rfl, rfl⟩) (by assumption) ?_
    try simp only [Act.put, List.setIfInBounds_toArray, List.set_cons_zero, List.set_cons_succ]
    refine wpAnyH_take (i := 10) (v := undef) (ops_at rfl) (by kernel_rfl) (by kernel_rfl) (by kernel_rfl) (fun _ _ _ h => h) (Or.inr ⟨by rfl, rfl⟩) (by assumption) ?_
    try simp only [Act.put, List.setIfInBounds_toArray, List.set_cons_zero, List.set_cons_succ]
    refine wpAnyH_take (i := 11) (v := undef) (ops_at rfl) (by kernel_rfl) (by kernel_rfl) (by kernel_rfl) (fun _ _ _ h => h) (Or.inr ⟨by rfl, rfl⟩) (by assumption) ?_
    try simp only [Act.put, List.setIfInBounds_toArray, List.set_cons_zero, List.set_cons_succ]
    refine wpAnyH_take (i := 12) (v := undef) (ops_at rfl) (by kernel_rfl) (by kernel_rfl) (by kernel_rfl) (fun _ _ _ h => h) (Or.inr ⟨by rfl, rfl⟩) (by assumption) ?_
    try simp only [Act.put, List.setIfInBounds_toArray, List.set_cons_zero, List.set_cons_succ]
    refine wpAnyH_take (i := 13) (v := undef) (ops_at rfl) (by kernel_rfl) (by kernel_rfl) (by kernel_rfl) (fun _ _ _ h => h) (Or.inr ⟨by rfl, rfl⟩) (by assumption) ?_
    try simp only [Act.put, List.setIfInBounds_toArray, List.set_cons_zero, List.set_cons_succ]
    refine wpAnyH_take (i := 14) (v := ?_) (ops_at rfl) (by kernel_rfl) (by kernel_rfl) (by kernel_rfl) (fun _ _ _ h => h) (Or.inl ⟨by rfl, ?ya14⟩) (by assumption) ?na14
    case ya14 => (intro wS hSw; (try dsimp only at hSw); (have k0 := cell_of hSw.1 0); (have k1 := cell_of hSw.1 1); (have k2 := cell_of hSw.2.1 0); (have k3 := cell_of hSw.2.1 1); (have k4 := cell_of hSw.2.1 2); (have k5 := cell_of hSw.2.1 3); (have k6 := cell_of hSw.2.1 4); (have k7 := cell_of hSw.2.2 0); (have k8 := cell_of hSw.2.2 1); (have k9 := cell_of hSw.2.2 2); go_simp; try rfl)
    try simp only [Act.put, List.setIfInBounds_toArray, List.set_cons_zero, List.set_cons_succ]
    refine wpAnyH_take (i := 15) (v := ?_) (ops_at rfl) (by kernel_rfl) (by kernel_rfl) (by kernel_rfl) (fun _ _ _ h => h) (Or.inl ⟨by rfl, ?ya15⟩) (by assumption) ?na15
    case ya15 => (intro wS hSw; (try dsimp only at hSw); (have k0 := cell_of hSw.1 0); (have k1 := cell_of hSw.1 1); (have k2 := cell_of hSw.2.1 0); (have k3 := cell_of hSw.2.1 1); (have k4 := cell_of hSw.2.1 2); (have k5 := cell_of hSw.2.1 3); (have k6 := cell_of hSw.2.1 4); (have k7 := cell_of hSw.2.2 0); (have k8 := cell_of hSw.2.2 1); (have k9 := cell_of hSw.2.2 2); go_simp; try rfl)
    try simp only [Act.put, List.setIfInBounds_toArray, List.set_cons_zero, List.set_cons_succ]
    refine wpAnyH_done (by kernel_rfl) ?_ _
    go_wp2
    go_ret
    exact ⟨rfl, HB1.out⟩
  · have hzv : (z == v0) = q := by rw [← hq, hit]; rfl
    clear hq
    go_enter Try.func92, Try.ntmps92
    go_wp2_with fail
    refine wp_region_held_drew (S := (fun wq => wq.heap[Bb]? = some (.cells #[.int .i64 (a : Int), .int .i64 (b : Int)] 55 (0, 0)) ∧ wq.heap[Sb]? = some (.cells #[.int .i64 (A : Int), .int .i64 (H : Int), .slice C0 np cp0, .bool tu, .func (.func 75) #[] #[.pointer (some ⟨X, 0, none⟩)]] 59 (0, 0)) ∧ wq.heap[w.heap.size]? = some (.cells #[.int .i64 x, .int .i64 y, .int .i64 z] 26 (0, 0)))) (by kernel_rfl) ⟨(HB0.out.block _ lB).trans HBX.out, (HB0.out.block _ lS).trans HSX.out, HPB.out⟩ (fun hH0 => ?_)
    have g0 := hH0
    refine wpAnyH_take (i := 0) (v := ?_) (ops_at rfl) (by kernel_rfl) (by kernel_rfl) (by kernel_rfl) (fun _ _ _ h => h) (Or.inl ⟨by rfl, ?yb0⟩) (by assumption) ?nb0
    case yb0 => (intro wS hSw; (try dsimp only at hSw); (have k0 := cell_of hSw.1 0); (have k1 := cell_of hSw.1 1); (have k2 := cell_of hSw.2.1 0); (have k3 := cell_of hSw.2.1 1); (have k4 := cell_of hSw.2.1 2); (have k5 := cell_of hSw.2.1 3); (have k6 := cell_of hSw.2.1 4); (have k7 := cell_of hSw.2.2 0); (have k8 := cell_of hSw.2.2 1); (have k9 := cell_of hSw.2.2 2); go_simp; try rfl)
    try simp only [Act.put, List.setIfInBounds_toArray, List.set_cons_zero, List.set_cons_succ]
    refine wpAnyH_take (i := 1) (v := ?_) (ops_at rfl) (by kernel_rfl) (by kernel_rfl) (by kernel_rfl) (fun _ _ _ h => h) (Or.inl ⟨by rfl, ?yb1⟩) (by assumption) ?nb1
    case yb1 => (intro wS hSw; (try dsimp only at hSw); (have k0 := cell_of hSw.1 0); (have k1 := cell_of hSw.1 1); (have k2 := cell_of hSw.2.1 0); (have k3 := cell_of hSw.2.1 1); (have k4 := cell_of hSw.2.1 2); (have k5 := cell_of hSw.2.1 3); (have k6 := cell_of hSw.2.1 4); (have k7 := cell_of hSw.2.2 0); (have k8 := cell_of hSw.2.2 1); (have k9 := cell_of hSw.2.2 2); go_simp; try rfl)
    try simp only [Act.put, List.setIfInBounds_toArray, List.set_cons_zero, List.set_cons_succ]
    refine wpAnyH_take (i := 2) (v := ?_) (ops_at rfl) (by kernel_rfl) (by kernel_rfl) (by kernel_rfl) (fun _ _ _ h => h) (Or.inl ⟨by rfl, ?yb2⟩) (by assumption) ?nb2
    case yb2 => (intro wS hSw; (try dsimp only at hSw); (have k0 := cell_of hSw.1 0); (have k1 := cell_of hSw.1 1); (have k2 := cell_of hSw.2.1 0); (have k3 := cell_of hSw.2.1 1); (have k4 := cell_of hSw.2.1 2); (have k5 := cell_of hSw.2.1 3); (have k6 := cell_of hSw.2.1 4); (have k7 := cell_of hSw.2.2 0); (have k8 := cell_of hSw.2.2 1); (have k9 := cell_of hSw.2.2 2); go_simp; try rfl)
    try simp only [Act.put, List.setIfInBounds_toArray, List.set_cons_zero, List.set_cons_succ]
    refine wpAnyH_take (i := 3) (v := ?_) (ops_at rfl) (by kernel_rfl) (by kernel_rfl) (by kernel_rfl) (fun _ _ _ h => h) (Or.inl ⟨by rfl, ?yb3⟩) (by assumption) ?nb3
    case yb3 => (intro wS hSw; (try dsimp only at hSw); (have k0 := cell_of hSw.1 0); (have k1 := cell_of hSw.1 1); (have k2 := cell_of hSw.2.1 0); (have k3 := cell_of hSw.2.1 1); (have k4 := cell_of hSw.2.1 2); (have k5 := cell_of hSw.2.1 3); (have k6 := cell_of hSw.2.1 4); (have k7 := cell_of hSw.2.2 0); (have k8 := cell_of hSw.2.2 1); (have k9 := cell_of hSw.2.2 2); go_simp; try rfl)
    try simp only [Act.put, List.setIfInBounds_toArray, List.set_cons_zero, List.set_cons_succ]
    refine wpAnyH_ready (rs := [4]) (by kernel_rfl) (by simp) ?_
    refine AllReadyH.cons (ops_at rfl) (fun K hK => ?_) AllReadyH.nil
    go_simp
    refine (is_any a b x y z tu _ true hit).mono ?_
    rintro e w1 ⟨rfl, hb1⟩
    have h1 := undrew hb1
    have HB1 := Lib.hid (HB0.out.trans (h1.mono (by simp)))
    refine hK.out _ _ ⟨(h1.block _ (heap_lt g0.1)).trans g0.1, (h1.block _ (heap_lt g0.2.1)).trans g0.2.1, (h1.block _ (heap_lt g0.2.2)).trans g0.2.2⟩ (fun g1 => ?_)
    clear hK K
    refine wpAnyH_take (i := 5) (v := ?_) (ops_at rfl) (by kernel_rfl) (by kernel_rfl) (by kernel_rfl) (fun _ _ _ h => h) (Or.inl ⟨by rfl, ?yb5⟩) (by assumption) ?nb5
    case yb5 => (intro wS hSw; (try dsimp only at hSw); (have k0 := cell_of hSw.1 0); (have k1 := cell_of hSw.1 1); (have k2 := cell_of hSw.2.1 0); (have k3 := cell_of hSw.2.1 1); (have k4 := cell_of hSw.2.1 2); (have k5 := cell_of hSw.2.1 3); (have k6 := cell_of hSw.2.1 4); (have k7 := cell_of hSw.2.2 0); (have k8 := cell_of hSw.2.2 1); (have k9 := cell_of hSw.2.2 2); go_simp; try rfl)
    try simp only [Act.put, List.setIfInBounds_toArray, List.set_cons_zero, List.set_cons_succ]
    refine wpAnyH_take (i := 6) (v := ?_) (ops_at rfl) (by kernel_rfl) (by kernel_rfl) (by kernel_rfl) (fun _ _ _ h => h) (Or.inl ⟨by rfl, ?yb6⟩) (by assumption) ?nb6
    case yb6 => (intro wS hSw; (try dsimp only at hSw); (have k0 := cell_of hSw.1 0); (have k1 := cell_of hSw.1 1); (have k2 := cell_of hSw.2.1 0); (have k3 := cell_of hSw.2.1 1); (have k4 := cell_of hSw.2.1 2); (have k5 := cell_of hSw.2.1 3); (have k6 := cell_of hSw.2.1 4); (have k7 := cell_of hSw.2.2 0); (have k8 := cell_of hSw.2.2 1); (have k9 := cell_of hSw.2.2 2); go_simp; try rfl)
    try simp only [Act.put, List.setIfInBounds_toArray, List.set_cons_zero, List.set_cons_succ]
    refine wpAnyH_take (i := 7) (v := ?_) (ops_at rfl) (by kernel_rfl) (by kernel_rfl) (by kernel_rfl) (fun _ _ _ h => h) (Or.inl ⟨by rfl, ?yb7⟩) (by assumption) ?nb7
    case yb7 => (intro wS hSw; (try dsimp only at hSw); (have k0 := cell_of hSw.1 0); (have k1 := cell_of hSw.1 1); (have k2 := cell_of hSw.2.1 0); (have k3 := cell_of hSw.2.1 1); (have k4 := cell_of hSw.2.1 2); (have k5 := cell_of hSw.2.1 3); (have k6 := cell_of hSw.2.1 4); (have k7 := cell_of hSw.2.2 0); (have k8 := cell_of hSw.2.2 1); (have k9 := cell_of hSw.2.2 2); go_simp; try rfl)
    try simp only [Act.put, List.setIfInBounds_toArray, List.set_cons_zero, List.set_cons_succ]
    refine wpAnyH_take (i := 8) (v := ?_) (ops_at rfl) (by kernel_rfl) (by kernel_rfl) (by kernel_rfl) (fun _ _ _ h => h) (Or.inl ⟨by rfl, ?yb8⟩) (by assumption) ?nb8
    case yb8 => (intro wS hSw; (try dsimp only at hSw); (have k0 := cell_of hSw.1 0); (have k1 := cell_of hSw.1 1); (have k2 := cell_of hSw.2.1 0); (have k3 := cell_of hSw.2.1 1); (have k4 := cell_of hSw.2.1 2); (have k5 := cell_of hSw.2.1 3); (have k6 := cell_of hSw.2.1 4); (have k7 := cell_of hSw.2.2 0); (have k8 := cell_of hSw.2.2 1); (have k9 := cell_of hSw.2.2 2); go_simp; try rfl)
    try simp only [Act.put, List.setIfInBounds_toArray, List.set_cons_zero, List.set_cons_succ]
    refine wpAnyH_take (i := 9) (v := ?_) (ops_at rfl) (by kernel_rfl) (by kernel_rfl) (by kernel_rfl) (fun _ _ _ h => h) (Or.inl ⟨by rfl, ?yb9⟩) (by assumption) ?nb9
    case yb9 => (intro wS hSw; (try dsimp only at hSw); (have k0 := cell_of hSw.1 0); (have k1 := cell_of hSw.1 1); (have k2 := cell_of hSw.2.1 0); (have k3 := cell_of hSw.2.1 1); (have k4 := cell_of hSw.2.1 2); (have k5 := cell_of hSw.2.1 3); (have k6 := cell_of hSw.2.1 4); (have k7 := cell_of hSw.2.2 0); (have k8 := cell_of hSw.2.2 1); (have k9 := cell_of hSw.2.2 2); go_simp; try rfl)
    try simp only [Act.put, List.setIfInBounds_toArray, List.set_cons_zero, List.set_cons_succ]
    refine wpAnyH_take (i := 10) (v := ?_) (ops_at rfl) (by kernel_rfl) (by kernel_rfl) (by kernel_rfl) (fun _ _ _ h => h) (Or.inl ⟨by rfl, ?yb10⟩) (by assumption) ?nb10
    case yb10 => (intro wS hSw; (try dsimp only at hSw); (have k0 := cell_of hSw.1 0); (have k1 := cell_of hSw.1 1); (have k2 := cell_of hSw.2.1 0); (have k3 := cell_of hSw.2.1 1); (have k4 := cell_of hSw.2.1 2); (have k5 := cell_of hSw.2.1 3); (have k6 := cell_of hSw.2.1 4); (have k7 := cell_of hSw.2.2 0); (have k8 := cell_of hSw.2.2 1); (have k9 := cell_of hSw.2.2 2); go_simp; try rfl)
    try simp only [Act.put, List.setIfInBounds_toArray, List.set_cons_zero, List.set_cons_succ]
    refine wpAnyH_ready (rs := [11]) (by kernel_rfl) (by simp) ?_
    refine AllReadyH.cons (ops_at rfl) (fun K hK => ?_) AllReadyH.nil
    go_simp
    have hnew := new_at w1 (.cells #[.int .i64 (a : Int), .int .i64 (b : Int)] 55) rfl
    refine hK.out _ _ ⟨(alloc_old _ (heap_lt g1.1) _).trans g1.1, (alloc_old _ (heap_lt g1.2.1) _).trans g1.2.1, (alloc_old _ (heap_lt g1.2.2) _).trans g1.2.2⟩ (fun g2 => ?_)
    clear hK K
    refine wpAnyH_ready (rs := [12]) (by kernel_rfl) (by simp) ?_
    refine AllReadyH.cons (ops_at rfl) (fun K hK => ?_) AllReadyH.nil
    go_simp
    refine (worth_any B0 X w1.heap.size 1 1 t _ [(a, b)] _ (HW.out.below (HB1.out.alloc HB1.out.size _) hB0) (by have := HB1.out.size; simp; omega) rfl (by omega) (heap_lt hnew) (one_cell hnew) (fun p hp => ?_) (fun p hp => ?_) v0 (by rw [sumB_one]; exact HV0.out)).mono ?_
    · simp at hp; subst hp; exact ⟨a1, b1, aA, bH⟩
    · simp at hp; subst hp; exact HBD.out
    rintro e w3 ⟨rfl, hb3⟩
    have HB3 := Lib.hid ((HB1.out.alloc HB1.out.size _).trans (hb3.mono (by have := HB1.out.size; simp; omega)))
    refine hK.out _ _ ⟨(hb3.block _ (heap_lt g2.1)).trans g2.1, (hb3.block _ (heap_lt g2.2.1)).trans g2.2.1, (hb3.block _ (heap_lt g2.2.2)).trans g2.2.2⟩ (fun g3 => ?_)
    clear hK K
    refine wpAnyH_take (i := 13) (v := ?_) (ops_at rfl) (by kernel_rfl) (by kernel_rfl) (by kernel_rfl) (fun _ _ _ h => h) (Or.inl ⟨by rfl, ?yb13⟩) (by assumption) ?nb13
    case yb13 => (intro wS hSw; (try dsimp only at hSw); (have k0 := cell_of hSw.1 0); (have k1 := cell_of hSw.1 1); (have k2 := cell_of hSw.2.1 0); (have k3 := cell_of hSw.2.1 1); (have k4 := cell_of hSw.2.1 2); (have k5 := cell_of hSw.2.1 3); (have k6 := cell_of hSw.2.1 4); (have k7 := cell_of hSw.2.2 0); (have k8 := cell_of hSw.2.2 1); (have k9 := cell_of hSw.2.2 2); go_simp; try rfl)
    try simp only [Act.put, List.setIfInBounds_toArray, List.set_cons_zero, List.set_cons_succ]
    refine wpAnyH_take (i := 14) (v := ?_) (ops_at rfl) (by kernel_rfl) (by kernel_rfl) (by kernel_rfl) (fun _ _ _ h => h) (Or.inl ⟨by rfl, ?yb14⟩) (by assumption) ?nb14
    case yb14 => (intro wS hSw; (try dsimp only at hSw); (have k0 := cell_of hSw.1 0); (have k1 := cell_of hSw.1 1); (have k2 := cell_of hSw.2.1 0); (have k3 := cell_of hSw.2.1 1); (have k4 := cell_of hSw.2.1 2); (have k5 := cell_of hSw.2.1 3); (have k6 := cell_of hSw.2.1 4); (have k7 := cell_of hSw.2.2 0); (have k8 := cell_of hSw.2.2 1); (have k9 := cell_of hSw.2.2 2); go_simp; try rfl)
    try simp only [Act.put, List.setIfInBounds_toArray, List.set_cons_zero, List.set_cons_succ]
    refine wpAnyH_take (i := 15) (v := ?_) (ops_at rfl) (by kernel_rfl) (by kernel_rfl) (by kernel_rfl) (fun _ _ _ h => h) (Or.inl ⟨by rfl, ?yb15⟩) (by assumption) ?nb15
    case yb15 => (intro wS hSw; (try dsimp only at hSw); (have k0 := cell_of hSw.1 0); (have k1 := cell_of hSw.1 1); (have k2 := cell_of hSw.2.1 0); (have k3 := cell_of hSw.2.1 1); (have k4 := cell_of hSw.2.1 2); (have k5 := cell_of hSw.2.1 3); (have k6 := cell_of hSw.2.1 4); (have k7 := cell_of hSw.2.2 0); (have k8 := cell_of hSw.2.2 1); (have k9 := cell_of hSw.2.2 2); go_simp; try rfl)
    try simp only [Act.put, List.setIfInBounds_toArray, List.set_cons_zero, List.set_cons_succ]
    refine wpAnyH_done (by kernel_rfl) ?_ _
    go_wp2
    go_ret
    exact ⟨rfl, HB3.out⟩
end Go.Proofs.Ytjpejhpilfjheaa

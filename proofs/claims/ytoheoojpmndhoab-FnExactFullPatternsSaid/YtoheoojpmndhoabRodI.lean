/-
  The written program's patterns: how long pieces are together, whether a list of numbers is a pattern.
  Conditions: the lists have at most 1048576 numbers.
-/
import Derived.Test.YtoheoojpmndhoabCutAt
import Derived.Test.YtoheoojpmndhoabPrices
import Derived.Deep.RegionHeld3
namespace Go.Proofs.Ytoheoojpmndhoab
set_option linter.unusedVariables false
open Go.RowKit

theorem four_at {v0 v1 v2 v3 : Int} {k : Nat} (h : k < 4) : ∃ u, [v0, v1, v2, v3][k]? = some u := ⟨_, List.getElem?_eq_getElem (by exact h)⟩

theorem arr4 {w : World} {g : Nat} {v0 v1 v2 v3 : Int} {T : Nat} (h : w.heap[g]? = some (.cells #[.int .i64 v0, .int .i64 v1, .int .i64 v2, .int .i64 v3] T (0, 0))) : Arr w g T [v0, v1, v2, v3] := ⟨_, h, rfl⟩

set_option maxHeartbeats 1000000 in
theorem lengthOf_any (rod : Int) (A : Option Addr) (n c : Nat) (m0 m1 m2 m3 v0 v1 v2 v3 : Int) (zs : List Int) (lo hi : Nat) (w : World) (hn : zs.length = n) (h4 : n ≤ 4) (hs : Seg w lo hi A zs) (hB : hi ≤ w.heap.size)
    (hz : ∀ (k : Nat) u, zs[k]? = some u → 1 ≤ u ∧ u ≤ 60) (hp : ∀ (k : Nat) u, [v0, v1, v2, v3][k]? = some u → 0 ≤ u ∧ u ≤ 60) (t : Int) (ht : usedTo zs [v0, v1, v2, v3] n = t) :
    Calls Try.prog 61 #[.agg #[.int .i64 rod, .slice A n c, .int .i64 m0, .int .i64 m1, .int .i64 m2, .int .i64 m3], .agg #[.int .i64 v0, .int .i64 v1, .int .i64 v2, .int .i64 v3]] w fun e w' => e = .returned (.int .i64 t) ∧ Below w.heap.size w w' := by
  have HN := Lib.hid hn
  have HT := Lib.hid ht
  have HZ := Lib.hid hz
  have HP := Lib.hid hp
  clear hn ht hz hp
  go_enter Try.func61, Try.ntmps61
  go_wp2
  obtain ⟨W, hW⟩ : ∃ W, (w.alloc (.cells #[.int .i64 rod, .slice A n c, .int .i64 m0, .int .i64 m1, .int .i64 m2, .int .i64 m3] 40)).alloc (.cells #[.int .i64 v0, .int .i64 v1, .int .i64 v2, .int .i64 v3] 38) = W := ⟨_, rfl⟩
  have hb : Below w.heap.size w W := by rw [← hW]; exact ((Below.refl _ _).alloc (Nat.le_refl _) _).alloc (by simp) _
  have ha : Arr W (w.heap.size + 1) 38 [v0, v1, v2, v3] := arr4 (by rw [← hW]; exact new_at _ _ (by simp))
  rw [hW]
  clear hW
  have hs' := hs.below hb hB
  clear hs
  go_loop [5, 11] (fun s i => ∃ k : Nat, k ≤ n ∧ i = .int .i64 k ∧ s = .int .i64 (usedTo zs [v0, v1, v2, v3] k)) (fun _ i => n - (intOf i).toNat)
  case atStart => exact ⟨0, Nat.zero_le _, rfl, rfl⟩
  case round =>
    obtain ⟨k, hk, rfl, rfl⟩ := hrel
    by_cases hlt : k < n
    · obtain ⟨u, hx⟩ := four_at (v0 := v0) (v1 := v1) (v2 := v2) (v3 := v3) (k := k) (by omega)
      have hc := ha.cell hx
      obtain ⟨b', off', z, rfl, _, _, hx2, hc2⟩ := hs'.at_ (k := k) (by rw [HN.out]; omega)
      have HS := Lib.hid (usedTo_step hx hx2)
      obtain ⟨hb1, hb2⟩ := usedTo_bd HZ.out HP.out k
      obtain ⟨hu1, hu2⟩ := HP.out k u hx
      obtain ⟨hz1, hz2⟩ := HZ.out k z hx2
      obtain ⟨hm1, hm2⟩ := mul_bd hu1 hu2 (by omega : 0 ≤ z) hz2
      have hk4 : k < 4 := by omega
      clear hx hx2
      obtain ⟨s, hs2⟩ : ∃ s, usedTo zs [v0, v1, v2, v3] k = s := ⟨_, rfl⟩
      rw [hs2] at HS hb1 hb2
      rw [hs2]
      clear hs2
      obtain ⟨t, ht⟩ : ∃ t, u * z = t := ⟨_, rfl⟩
      rw [ht] at HS hm1 hm2
      go_wp2
      go_round
      case rel => exact ⟨k + 1, by omega, by go_num, by rw [HS.out]⟩
      case measure => simp [intOf]; omega
    · obtain rfl : k = n := by omega
      go_wp2
      go_ret
      exact ⟨by rw [HT.out]; rfl, hb⟩

/-- The cells of what may be cut, and of a pattern. -/
def Cut6 (wq : World) (g : Nat) (rod : Int) (A : Option Addr) (n c : Nat) (m0 m1 m2 m3 : Int) : Prop :=
  wq.cell? ⟨g, 0, none⟩ = some (.int .i64 rod) ∧ wq.cell? ⟨g, 1, none⟩ = some (.slice A n c) ∧ wq.cell? ⟨g, 2, none⟩ = some (.int .i64 m0) ∧ wq.cell? ⟨g, 3, none⟩ = some (.int .i64 m1) ∧ wq.cell? ⟨g, 4, none⟩ = some (.int .i64 m2) ∧ wq.cell? ⟨g, 5, none⟩ = some (.int .i64 m3)

def Pat4 (wq : World) (g : Nat) (v0 v1 v2 v3 : Int) : Prop :=
  wq.cell? ⟨g, 0, none⟩ = some (.int .i64 v0) ∧ wq.cell? ⟨g, 1, none⟩ = some (.int .i64 v1) ∧ wq.cell? ⟨g, 2, none⟩ = some (.int .i64 v2) ∧ wq.cell? ⟨g, 3, none⟩ = some (.int .i64 v3)

section
variable {w w' : World} {g : Nat} {rod : Int} {A : Option Addr} {n c : Nat} {m0 m1 m2 m3 : Int}
theorem Cut6.of {T : Nat} (h : w.heap[g]? = some (.cells #[.int .i64 rod, .slice A n c, .int .i64 m0, .int .i64 m1, .int .i64 m2, .int .i64 m3] T (0, 0))) : Cut6 w g rod A n c m0 m1 m2 m3 := by
  refine ⟨?_, ?_, ?_, ?_, ?_, ?_⟩ <;> (rw [cell_of h]; rfl)
theorem Pat4.of {T : Nat} (h : w.heap[g]? = some (.cells #[.int .i64 m0, .int .i64 m1, .int .i64 m2, .int .i64 m3] T (0, 0))) : Pat4 w g m0 m1 m2 m3 := by
  refine ⟨?_, ?_, ?_, ?_⟩ <;> (rw [cell_of h]; rfl)
theorem Cut6.below (h : Cut6 w g rod A n c m0 m1 m2 m3) (hb : Below w.heap.size w w') : Cut6 w' g rod A n c m0 m1 m2 m3 := by
  obtain ⟨h0, h1, h2, h3, h4, h5⟩ := h
  have hl : g < w.heap.size := cell_lt h0
  exact ⟨(hb.cell (p := ⟨g, 0, none⟩) hl).trans h0, (hb.cell (p := ⟨g, 1, none⟩) hl).trans h1, (hb.cell (p := ⟨g, 2, none⟩) hl).trans h2, (hb.cell (p := ⟨g, 3, none⟩) hl).trans h3, (hb.cell (p := ⟨g, 4, none⟩) hl).trans h4, (hb.cell (p := ⟨g, 5, none⟩) hl).trans h5⟩
theorem Cut6.below2 {B : Nat} (h : Cut6 w g rod A n c m0 m1 m2 m3) (hb : Below B w w') (hl : g < B) : Cut6 w' g rod A n c m0 m1 m2 m3 := by
  obtain ⟨h0, h1, h2, h3, h4, h5⟩ := h
  exact ⟨(hb.cell (p := ⟨g, 0, none⟩) hl).trans h0, (hb.cell (p := ⟨g, 1, none⟩) hl).trans h1, (hb.cell (p := ⟨g, 2, none⟩) hl).trans h2, (hb.cell (p := ⟨g, 3, none⟩) hl).trans h3, (hb.cell (p := ⟨g, 4, none⟩) hl).trans h4, (hb.cell (p := ⟨g, 5, none⟩) hl).trans h5⟩
theorem Pat4.below (h : Pat4 w g m0 m1 m2 m3) (hb : Below w.heap.size w w') : Pat4 w' g m0 m1 m2 m3 := by
  obtain ⟨h0, h1, h2, h3⟩ := h
  have hl : g < w.heap.size := cell_lt h0
  exact ⟨(hb.cell (p := ⟨g, 0, none⟩) hl).trans h0, (hb.cell (p := ⟨g, 1, none⟩) hl).trans h1, (hb.cell (p := ⟨g, 2, none⟩) hl).trans h2, (hb.cell (p := ⟨g, 3, none⟩) hl).trans h3⟩
end

/-- Behind a call that makes new memory alone. -/
theorem cutpat_keep {B : Nat} {w wq w1 : World} {g g' : Nat} {rod : Int} {A : Option Addr} {n c : Nat} {m0 m1 m2 m3 v0 v1 v2 v3 : Int} {P : Prop} (h : Below B w wq ∧ Cut6 wq g rod A n c m0 m1 m2 m3 ∧ Pat4 wq g' v0 v1 v2 v3) (hB : B ≤ wq.heap.size) (hb : Below wq.heap.size wq w1) :
    Below B w w1 ∧ Cut6 w1 g rod A n c m0 m1 m2 m3 ∧ Pat4 w1 g' v0 v1 v2 v3 := ⟨h.1.trans (hb.mono hB), h.2.1.below hb, h.2.2.below hb⟩

section
variable (rod : Int) (A : Option Addr) (n c : Nat) (m0 m1 m2 m3 v0 v1 v2 v3 : Int) (zs : List Int) (lo hi : Nat) (w : World) (hn : zs.length = n) (h4 : n ≤ 4) (hs : Seg w lo hi A zs) (hB : hi ≤ w.heap.size)
    (hz : ∀ (k : Nat) u, zs[k]? = some u → 1 ≤ u ∧ u ≤ 60) (hp : ∀ (k : Nat) u, [v0, v1, v2, v3][k]? = some u → 0 ≤ u ∧ u ≤ 60) (hr : 1 ≤ rod ∧ rod ≤ 60) (t : Int) (ht : usedTo zs [v0, v1, v2, v3] n = t)
include hn h4 hs hB hz hp hr ht

set_option maxHeartbeats 1000000 in
theorem wasteOf_any :
    Calls Try.prog 54 #[.agg #[.int .i64 rod, .slice A n c, .int .i64 m0, .int .i64 m1, .int .i64 m2, .int .i64 m3], .agg #[.int .i64 v0, .int .i64 v1, .int .i64 v2, .int .i64 v3]] w fun e w' => e = .returned (.int .i64 (rod - t)) ∧ Below w.heap.size w w' := by
  have HN := Lib.hid hn
  have HT := Lib.hid ht
  have hbd := usedTo_bd hz hp n
  rw [ht] at hbd
  clear hn ht
  have HB0 := Lib.hid (((Below.refl w.heap.size w).alloc (Nat.le_refl _) (.cells #[.int .i64 rod, .slice A n c, .int .i64 m0, .int .i64 m1, .int .i64 m2, .int .i64 m3] 40)).alloc (by simp) (.cells #[.int .i64 v0, .int .i64 v1, .int .i64 v2, .int .i64 v3] 38))
  have HC := Lib.hid (Cut6.of (w := (w.alloc (.cells #[.int .i64 rod, .slice A n c, .int .i64 m0, .int .i64 m1, .int .i64 m2, .int .i64 m3] 40)).alloc (.cells #[.int .i64 v0, .int .i64 v1, .int .i64 v2, .int .i64 v3] 38)) (g := w.heap.size) ((alloc_old _ (by simp) _).trans (new_at _ _ rfl)))
  have HV := Lib.hid (Pat4.of (w := (w.alloc (.cells #[.int .i64 rod, .slice A n c, .int .i64 m0, .int .i64 m1, .int .i64 m2, .int .i64 m3] 40)).alloc (.cells #[.int .i64 v0, .int .i64 v1, .int .i64 v2, .int .i64 v3] 38)) (g := w.heap.size + 1) (new_at _ _ (by simp)))
  go_enter Try.func54, Try.ntmps54
  go_wp2_with fail
  refine wp_region_held_drew (S := (fun wq => Below w.heap.size w wq ∧ Cut6 wq w.heap.size rod A n c m0 m1 m2 m3 ∧ Pat4 wq (w.heap.size + 1) v0 v1 v2 v3)) (by kernel_rfl) ⟨below_drewN HB0.out 1, HC.out, HV.out⟩ (fun hH0 => ?_)
  refine wpAnyH_take (i := 0) (v := ?_) (ops_at rfl) (by kernel_rfl) (by kernel_rfl) (by kernel_rfl) (fun _ _ _ h => h) (Or.inl ⟨by rfl, ?ya0⟩) (by assumption) ?na0
  case ya0 => (intro wS hSw; (try dsimp only [Cut6, Pat4] at hSw); go_simp; try rfl)
  try simp only [Act.put, List.setIfInBounds_toArray, List.set_cons_zero, List.set_cons_succ]
  refine wpAnyH_take (i := 1) (v := ?_) (ops_at rfl) (by kernel_rfl) (by kernel_rfl) (by kernel_rfl) (fun _ _ _ h => h) (Or.inl ⟨by rfl, ?ya1⟩) (by assumption) ?na1
  case ya1 => (intro wS hSw; (try dsimp only [Cut6, Pat4] at hSw); go_simp; try rfl)
  try simp only [Act.put, List.setIfInBounds_toArray, List.set_cons_zero, List.set_cons_succ]
  refine wpAnyH_take (i := 2) (v := ?_) (ops_at rfl) (by kernel_rfl) (by kernel_rfl) (by kernel_rfl) (fun _ _ _ h => h) (Or.inl ⟨by rfl, ?ya2⟩) (by assumption) ?na2
  case ya2 => (intro wS hSw; (try dsimp only [Cut6, Pat4] at hSw); go_simp; try rfl)
  try simp only [Act.put, List.setIfInBounds_toArray, List.set_cons_zero, List.set_cons_succ]
  refine wpAnyH_take (i := 3) (v := ?_) (ops_at rfl) (by kernel_rfl) (by kernel_rfl) (by kernel_rfl) (fun _ _ _ h => h) (Or.inl ⟨by rfl, ?ya3⟩) (by assumption) ?na3
  case ya3 => (intro wS hSw; (try dsimp only [Cut6, Pat4] at hSw); go_simp; try rfl)
  try simp only [Act.put, List.setIfInBounds_toArray, List.set_cons_zero, List.set_cons_succ]
  refine wpAnyH_ready (rs := [4]) (by kernel_rfl) (by simp) ?_
  refine AllReadyH.cons (ops_at rfl) (fun K hK => ?_) AllReadyH.nil
  go_simp
  refine (lengthOf_any rod A n c m0 m1 m2 m3 v0 v1 v2 v3 zs lo hi _ HN.out h4 (hs.below hH0.1 hB) (Nat.le_trans hB hH0.1.size) hz hp t HT.out).mono ?_
  rintro e w1 ⟨rfl, hb1⟩
  refine hK.out _ _ (cutpat_keep (P := True) hH0 hH0.1.size hb1) (fun hHa4 => ?_)
  clear hK K
  refine wpAnyH_take (i := 5) (v := ?_) (ops_at rfl) (by kernel_rfl) (by kernel_rfl) (by kernel_rfl) (fun _ _ _ h => h) (Or.inl ⟨by rfl, ?ya5⟩) (by assumption) ?na5
  case ya5 => (intro wS hSw; (try dsimp only [Cut6, Pat4] at hSw); go_simp; try rfl)
  try simp only [Act.put, List.setIfInBounds_toArray, List.set_cons_zero, List.set_cons_succ]
  refine wpAnyH_take (i := 6) (v := ?_) (ops_at rfl) (by kernel_rfl) (by kernel_rfl) (by kernel_rfl) (fun _ _ _ h => h) (Or.inl ⟨by rfl, ?ya6⟩) (by assumption) ?na6
  case ya6 => (intro wS hSw; (try dsimp only [Cut6, Pat4] at hSw); go_simp; try rfl)
  try simp only [Act.put, List.setIfInBounds_toArray, List.set_cons_zero, List.set_cons_succ]
  refine wpAnyH_done (by kernel_rfl) ?_ _
  go_wp2
  go_ret
  exact ⟨by show Ending.returned (Value.int IntKind.i64 (IntKind.i64.wrap (rod - t))) = _; rw [IntWalk.i64_in _ (by omega)], hHa4.1⟩

set_option maxHeartbeats 1000000 in
theorem isFull_any (hn1 : 1 ≤ n) (p : Bool) (hd : decide (rod - t < zs.getD 0 0) = p) :
    Calls Try.prog 32 #[.agg #[.int .i64 rod, .slice A n c, .int .i64 m0, .int .i64 m1, .int .i64 m2, .int .i64 m3], .agg #[.int .i64 v0, .int .i64 v1, .int .i64 v2, .int .i64 v3]] w fun e w' => e = .returned (.bool p) ∧ Below w.heap.size w w' := by
  obtain ⟨b0, off0, z0, rfl, _, hb0, hx0, hc0⟩ := hs.at_ (k := 0) (by omega)
  have hc0' : w.cell? ⟨b0, off0, none⟩ = some (.int .i64 z0) := hc0
  have e0 : zs.getD 0 0 = z0 := by simp [List.getD, hx0]
  rw [e0] at hd
  have HN := Lib.hid hn
  have HT := Lib.hid ht
  have HD := Lib.hid hd
  clear hn ht hc0 hx0 e0 hd
  have hlt1 : 0 < n := hn1
  have HB0 := Lib.hid (((Below.refl w.heap.size w).alloc (Nat.le_refl _) (.cells #[.int .i64 rod, .slice (some ⟨b0, off0, none⟩) n c, .int .i64 m0, .int .i64 m1, .int .i64 m2, .int .i64 m3] 40)).alloc (by simp) (.cells #[.int .i64 v0, .int .i64 v1, .int .i64 v2, .int .i64 v3] 38))
  have HC := Lib.hid (Cut6.of (w := (w.alloc (.cells #[.int .i64 rod, .slice (some ⟨b0, off0, none⟩) n c, .int .i64 m0, .int .i64 m1, .int .i64 m2, .int .i64 m3] 40)).alloc (.cells #[.int .i64 v0, .int .i64 v1, .int .i64 v2, .int .i64 v3] 38)) (g := w.heap.size) ((alloc_old _ (by simp) _).trans (new_at _ _ rfl)))
  have HV := Lib.hid (Pat4.of (w := (w.alloc (.cells #[.int .i64 rod, .slice (some ⟨b0, off0, none⟩) n c, .int .i64 m0, .int .i64 m1, .int .i64 m2, .int .i64 m3] 40)).alloc (.cells #[.int .i64 v0, .int .i64 v1, .int .i64 v2, .int .i64 v3] 38)) (g := w.heap.size + 1) (new_at _ _ (by simp)))
  have HZ := Lib.hid ((HB0.out.cell (p := ⟨b0, off0, none⟩) (by exact Nat.lt_of_lt_of_le hb0 hB)).trans hc0')
  go_enter Try.func32, Try.ntmps32
  go_wp2_with fail
  refine wp_region_held_drew (S := (fun wq => Below w.heap.size w wq ∧ Cut6 wq w.heap.size rod (some ⟨b0, off0, none⟩) n c m0 m1 m2 m3 ∧ Pat4 wq (w.heap.size + 1) v0 v1 v2 v3 ∧ wq.cell? ⟨b0, off0, none⟩ = some (.int .i64 z0))) (by kernel_rfl) ⟨below_drewN HB0.out 1, HC.out, HV.out, HZ.out⟩ (fun hH0 => ?_)
  refine wpAnyH_take (i := 0) (v := ?_) (ops_at rfl) (by kernel_rfl) (by kernel_rfl) (by kernel_rfl) (fun _ _ _ h => h) (Or.inl ⟨by rfl, ?yb0⟩) (by assumption) ?nb0
  case yb0 => (intro wS hSw; (try dsimp only [Cut6, Pat4] at hSw); go_simp; try rfl)
  try simp only [Act.put, List.setIfInBounds_toArray, List.set_cons_zero, List.set_cons_succ]
  refine wpAnyH_take (i := 1) (v := ?_) (ops_at rfl) (by kernel_rfl) (by kernel_rfl) (by kernel_rfl) (fun _ _ _ h => h) (Or.inl ⟨by rfl, ?yb1⟩) (by assumption) ?nb1
  case yb1 => (intro wS hSw; (try dsimp only [Cut6, Pat4] at hSw); go_simp; try rfl)
  try simp only [Act.put, List.setIfInBounds_toArray, List.set_cons_zero, List.set_cons_succ]
  refine wpAnyH_take (i := 3) (v := ?_) (ops_at rfl) (by kernel_rfl) (by kernel_rfl) (by kernel_rfl) (fun _ _ _ h => h) (Or.inl ⟨by rfl, ?yb3⟩) (by assumption) ?nb3
  case yb3 => (intro wS hSw; (try dsimp only [Cut6, Pat4] at hSw); go_simp; try rfl)
  try simp only [Act.put, List.setIfInBounds_toArray, List.set_cons_zero, List.set_cons_succ]
  refine wpAnyH_take (i := 4) (v := ?_) (ops_at rfl) (by kernel_rfl) (by kernel_rfl) (by kernel_rfl) (fun _ _ _ h => h) (Or.inl ⟨by rfl, ?yb4⟩) (by assumption) ?nb4
  case yb4 => (intro wS hSw; (try dsimp only [Cut6, Pat4] at hSw); go_simp; try rfl)
  try simp only [Act.put, List.setIfInBounds_toArray, List.set_cons_zero, List.set_cons_succ]
  refine wpAnyH_take (i := 5) (v := ?_) (ops_at rfl) (by kernel_rfl) (by kernel_rfl) (by kernel_rfl) (fun _ _ _ h => h) (Or.inl ⟨by rfl, ?yb5⟩) (by assumption) ?nb5
  case yb5 => (intro wS hSw; (try dsimp only [Cut6, Pat4] at hSw); go_simp; try rfl)
  try simp only [Act.put, List.setIfInBounds_toArray, List.set_cons_zero, List.set_cons_succ]
  refine wpAnyH_take (i := 6) (v := ?_) (ops_at rfl) (by kernel_rfl) (by kernel_rfl) (by kernel_rfl) (fun _ _ _ h => h) (Or.inl ⟨by rfl, ?yb6⟩) (by assumption) ?nb6
  case yb6 => (intro wS hSw; (try dsimp only [Cut6, Pat4] at hSw); go_simp; try rfl)
  try simp only [Act.put, List.setIfInBounds_toArray, List.set_cons_zero, List.set_cons_succ]
  refine wpAnyH_ready (rs := [2]) (by kernel_rfl) (by simp) ?_
  refine AllReadyH.cons (ops_at rfl) (fun K hK => ?_) AllReadyH.nil
  go_simp
  refine (wasteOf_any rod _ n c m0 m1 m2 m3 v0 v1 v2 v3 zs lo hi _ HN.out h4 (hs.below hH0.1 hB) (Nat.le_trans hB hH0.1.size) hz hp hr t HT.out).mono ?_
  rintro e w1 ⟨rfl, hb1⟩
  have hk := cutpat_keep (P := True) ⟨hH0.1, hH0.2.1, hH0.2.2.1⟩ hH0.1.size hb1
  refine hK.out _ _ ⟨hk.1, hk.2.1, hk.2.2, (hk.1.cell (p := ⟨b0, off0, none⟩) (by exact Nat.lt_of_lt_of_le hb0 hB)).trans hc0'⟩ (fun hHb2 => ?_)
  clear hK K
  refine wpAnyH_take (i := 7) (v := ?_) (ops_at rfl) (by kernel_rfl) (by kernel_rfl) (by kernel_rfl) (fun _ _ _ h => h) (Or.inl ⟨by rfl, ?yb7⟩) (by assumption) ?nb7
  case yb7 => (intro wS hSw; (try dsimp only [Cut6, Pat4] at hSw); go_simp; try rfl)
  try simp only [Act.put, List.setIfInBounds_toArray, List.set_cons_zero, List.set_cons_succ]
  refine wpAnyH_take (i := 8) (v := ?_) (ops_at rfl) (by kernel_rfl) (by kernel_rfl) (by kernel_rfl) (fun _ _ _ h => h) (Or.inl ⟨by rfl, ?yb8⟩) (by assumption) ?nb8
  case yb8 => (intro wS hSw; (try dsimp only [Cut6, Pat4] at hSw); go_simp; try rfl)
  try simp only [Act.put, List.setIfInBounds_toArray, List.set_cons_zero, List.set_cons_succ]
  refine wpAnyH_done (by kernel_rfl) ?_ _
  go_wp2
  go_ret
  exact ⟨by rw [← HD.out]; rfl, hHb2.1⟩
end
end Go.Proofs.Ytoheoojpmndhoab

/-
  The written program's functions on patterns.
  Conditions: the lists have at most 1048576 numbers.
-/
import Derived.Test.YthlhpddfifpkeaaPatOf
namespace Go.Proofs.Ythlhpddfifpkeaa
set_option linter.unusedVariables false
open Go.RowKit

/-- What may be cut, a pattern, and a bool. -/
def RetBy (b : Bool) (rod : Int) (A : Option Addr) (n c : Nat) (ps : List Int) (w : World) (e : Ending) (w' : World) : Prop :=
  ∃ (r : Int) (A' : Option Addr) (n' c' : Nat) (m0 m1 m2 m3 v0 v1 v2 v3 : Int), (b = true → r = rod ∧ A' = A ∧ n' = n ∧ c' = c ∧ pad4 ps = [v0, v1, v2, v3]) ∧
    e = .returned (.tuple #[.agg #[.int .i64 r, .slice A' n' c', .int .i64 m0, .int .i64 m1, .int .i64 m2, .int .i64 m3], .agg #[.int .i64 v0, .int .i64 v1, .int .i64 v2, .int .i64 v3], .bool b]) ∧ Below w.heap.size w w'

set_option maxRecDepth 100000 in
set_option maxHeartbeats 1000000 in
theorem cutByPattern_no (rod : Int) (A D : Option Addr) (n c m d : Nat) (zs ps : List Int) (lo hi : Nat) (w : World) (hn : zs.length = n) (hlen : n ≤ 1048576) (hs : Seg w lo hi A zs) (hB : hi ≤ w.heap.size) (hq : rodB rod zs = false) :
    Calls Try.prog 54 #[.int .i64 rod, .slice A n c, .slice D m d] w (RetBy false rod A n c ps w) := by
  have HN := Lib.hid hn
  have HQ := Lib.hid hq
  clear hn hq
  go_enter Try.func54, Try.ntmps54
  go_wp2_with fail
  have hb0 : Below w.heap.size w ((w.alloc (.cells #[.int .i64 0, .slice none 0 0, .int .i64 0, .int .i64 0, .int .i64 0, .int .i64 0] 48)).alloc (.cells #[.int .i64 0, .int .i64 0, .int .i64 0, .int .i64 0] 46)) := ((Below.refl _ _).alloc (Nat.le_refl _) _).alloc (by simp) _
  have hr1 : ((w.alloc (.cells #[.int .i64 0, .slice none 0 0, .int .i64 0, .int .i64 0, .int .i64 0, .int .i64 0] 48)).alloc (.cells #[.int .i64 0, .int .i64 0, .int .i64 0, .int .i64 0] 46)).heap[w.heap.size]? = some (.cells #[.int .i64 0, .slice none 0 0, .int .i64 0, .int .i64 0, .int .i64 0, .int .i64 0] 48 (0, 0)) := (alloc_old _ (by simp) _).trans (new_at _ _ rfl)
  have hr2 : ((w.alloc (.cells #[.int .i64 0, .slice none 0 0, .int .i64 0, .int .i64 0, .int .i64 0, .int .i64 0] 48)).alloc (.cells #[.int .i64 0, .int .i64 0, .int .i64 0, .int .i64 0] 46)).heap[w.heap.size + 1]? = some (.cells #[.int .i64 0, .int .i64 0, .int .i64 0, .int .i64 0] 46 (0, 0)) := new_at _ _ (by simp)
  refine (cuttingOf_no rod A n c zs lo hi _ HN.out hlen (hs.below hb0 hB) (Nat.le_trans hB hb0.size) HQ.out).mono ?_
  rintro e w1 ⟨rfl, hb1⟩
  have hB1 := hb0.trans (hb1.mono hb0.size)
  have hB2 := hB1.alloc hB1.size (.cells #[.int .i64 0, .slice none 0 0, .int .i64 0, .int .i64 0, .int .i64 0, .int .i64 0] 48)
  have hr1a := (hb1.block _ (heap_lt hr1)).trans hr1
  have hr2a := (hb1.block _ (heap_lt hr2)).trans hr2
  have hr1' := (alloc_old w1 (heap_lt hr1a) (.cells #[.int .i64 0, .slice none 0 0, .int .i64 0, .int .i64 0, .int .i64 0, .int .i64 0] 48)).trans hr1a
  have hr2' := (alloc_old w1 (heap_lt hr2a) (.cells #[.int .i64 0, .slice none 0 0, .int .i64 0, .int .i64 0, .int .i64 0, .int .i64 0] 48)).trans hr2a
  obtain ⟨q0, q1, q2, q3, q4, q5⟩ := Cut6.of hr1'
  obtain ⟨f0, f1, f2, f3, f4, f5⟩ := frozen_each6 hr1'
  obtain ⟨p0, p1, p2, p3⟩ := Pat4.of hr2'
  have g0 := frozen_of hr2' 0
  have g1 := frozen_of hr2' 1
  have g2 := frozen_of hr2' 2
  have g3 := frozen_of hr2' 3
  have HB1 := Lib.hid hB2
  clear hr1 hr2 hr1' hr2' hb0 hb1 hB1 hB2 hr1a hr2a hs
  go_wp2
  refine bodyPost_ret (v := .tuple #[.agg #[.int .i64 0, .slice none 0 0, .int .i64 0, .int .i64 0, .int .i64 0, .int .i64 0], .agg #[.int .i64 0, .int .i64 0, .int .i64 0, .int .i64 0], .bool false]) (by simp [results, Try.results54, go_sem, q0, q1, q2, q3, q4, q5, p0, p1, p2, p3]) rfl ⟨0, none, 0, 0, 0, 0, 0, 0, 0, 0, 0, 0, (fun h => by cases h), rfl, ?_⟩
  exact below_set4 (below_set6 HB1.out (Nat.le_refl _) _ _ _ _ _ _) (Nat.le_succ _) _ _ _ _

theorem sets6 {g g' : Nat} (h : g' ≠ g) (w : World) (v0 v1 v2 v3 v4 v5 : Value) : ((((((w.setCell ⟨g, 0, none⟩ v0).setCell ⟨g, 1, none⟩ v1).setCell ⟨g, 2, none⟩ v2).setCell ⟨g, 3, none⟩ v3).setCell ⟨g, 4, none⟩ v4).setCell ⟨g, 5, none⟩ v5).heap[g']? = w.heap[g']? :=
  (set_far _ (p := ⟨g, 5, none⟩) h _).trans ((set_far _ (p := ⟨g, 4, none⟩) h _).trans (sets4 h w v0 v1 v2 v3))

theorem set6_heap {w : World} {g T : Nat} {x0 x1 x2 x3 x4 x5 : Value} (h : w.heap[g]? = some (.cells #[x0, x1, x2, x3, x4, x5] T (0, 0))) (v0 v1 v2 v3 v4 v5 : Value) :
    ((((((w.setCell ⟨g, 0, none⟩ v0).setCell ⟨g, 1, none⟩ v1).setCell ⟨g, 2, none⟩ v2).setCell ⟨g, 3, none⟩ v3).setCell ⟨g, 4, none⟩ v4).setCell ⟨g, 5, none⟩ v5).heap[g]? = some (.cells #[v0, v1, v2, v3, v4, v5] T (0, 0)) :=
  set_self (set_self (set_self (set_self (set_self (set_self h 0 v0) 1 v1) 2 v2) 3 v3) 4 v4) 5 v5

theorem six_cells {w : World} {g T : Nat} {x0 x1 x2 x3 x4 x5 : Value} (h : w.heap[g]? = some (.cells #[x0, x1, x2, x3, x4, x5] T (0, 0))) :
    w.cell? ⟨g, 0, none⟩ = some x0 ∧ w.cell? ⟨g, 1, none⟩ = some x1 ∧ w.cell? ⟨g, 2, none⟩ = some x2 ∧ w.cell? ⟨g, 3, none⟩ = some x3 ∧ w.cell? ⟨g, 4, none⟩ = some x4 ∧ w.cell? ⟨g, 5, none⟩ = some x5 := by
  refine ⟨?_, ?_, ?_, ?_, ?_, ?_⟩ <;> (rw [cell_of h]; rfl)

theorem four_cells {w : World} {g T : Nat} {x0 x1 x2 x3 : Value} (h : w.heap[g]? = some (.cells #[x0, x1, x2, x3] T (0, 0))) :
    w.cell? ⟨g, 0, none⟩ = some x0 ∧ w.cell? ⟨g, 1, none⟩ = some x1 ∧ w.cell? ⟨g, 2, none⟩ = some x2 ∧ w.cell? ⟨g, 3, none⟩ = some x3 := by
  refine ⟨?_, ?_, ?_, ?_⟩ <;> (rw [cell_of h]; rfl)

section
variable (rod : Int) (A D : Option Addr) (n c m d : Nat) (zs ps : List Int) (lo hi lo' hi' : Nat) (w : World) (hn : zs.length = n) (hlen : n ≤ 1048576) (hm : ps.length = m) (hm2 : m ≤ 1048576) (hs : Seg w lo hi A zs) (ho : Seg w lo' hi' D ps)
    (hB : hi ≤ w.heap.size) (hB' : hi' ≤ w.heap.size)
include hn hlen hm hm2 hs ho hB hB'

set_option maxRecDepth 100000 in
set_option maxHeartbeats 1000000 in
theorem cutByPattern_yes (hq : rodB rod zs = true) (p : Bool) (hp : patB rod zs ps = p) :
    Calls Try.prog 54 #[.int .i64 rod, .slice A n c, .slice D m d] w (RetBy p rod A n c ps w) := by
  have HN := Lib.hid hn
  have HM := Lib.hid hm
  have HQ := Lib.hid hq
  have HP := Lib.hid hp
  clear hn hm hq hp
  go_enter Try.func54, Try.ntmps54
  go_wp2_with fail
  have hb0 : Below w.heap.size w ((w.alloc (.cells #[.int .i64 0, .slice none 0 0, .int .i64 0, .int .i64 0, .int .i64 0, .int .i64 0] 48)).alloc (.cells #[.int .i64 0, .int .i64 0, .int .i64 0, .int .i64 0] 46)) := ((Below.refl _ _).alloc (Nat.le_refl _) _).alloc (by simp) _
  have hr1 : ((w.alloc (.cells #[.int .i64 0, .slice none 0 0, .int .i64 0, .int .i64 0, .int .i64 0, .int .i64 0] 48)).alloc (.cells #[.int .i64 0, .int .i64 0, .int .i64 0, .int .i64 0] 46)).heap[w.heap.size]? = some (.cells #[.int .i64 0, .slice none 0 0, .int .i64 0, .int .i64 0, .int .i64 0, .int .i64 0] 48 (0, 0)) := (alloc_old _ (by simp) _).trans (new_at _ _ rfl)
  have hr2 : ((w.alloc (.cells #[.int .i64 0, .slice none 0 0, .int .i64 0, .int .i64 0, .int .i64 0, .int .i64 0] 48)).alloc (.cells #[.int .i64 0, .int .i64 0, .int .i64 0, .int .i64 0] 46)).heap[w.heap.size + 1]? = some (.cells #[.int .i64 0, .int .i64 0, .int .i64 0, .int .i64 0] 46 (0, 0)) := new_at _ _ (by simp)
  refine (cuttingOf_yes rod A n c zs lo hi _ HN.out hlen (hs.below hb0 hB) (Nat.le_trans hB hb0.size) HQ.out).mono ?_
  rintro e w1 ⟨m0, m1, m2, m3, hms, rfl, hb1⟩
  have hB1 := hb0.trans (hb1.mono hb0.size)
  have hB2 := hB1.alloc hB1.size (.cells #[.int .i64 rod, .slice A n c, .int .i64 m0, .int .i64 m1, .int .i64 m2, .int .i64 m3] 48)
  have hr1a := (hb1.block _ (heap_lt hr1)).trans hr1
  have hr2a := (hb1.block _ (heap_lt hr2)).trans hr2
  have hr1' := (alloc_old w1 (heap_lt hr1a) (.cells #[.int .i64 rod, .slice A n c, .int .i64 m0, .int .i64 m1, .int .i64 m2, .int .i64 m3] 48)).trans hr1a
  have hr2' := (alloc_old w1 (heap_lt hr2a) (.cells #[.int .i64 rod, .slice A n c, .int .i64 m0, .int .i64 m1, .int .i64 m2, .int .i64 m3] 48)).trans hr2a
  have hc1 := Cut6.of (new_at w1 (.cells #[.int .i64 rod, .slice A n c, .int .i64 m0, .int .i64 m1, .int .i64 m2, .int .i64 m3] 48) rfl)
  have HMS := Lib.hid hms
  have HR1 := Lib.hid hr1'
  have HR2 := Lib.hid hr2'
  have HC1 := Lib.hid hc1
  obtain ⟨c0, c1, c2, c3, c4, c5⟩ := hc1
  clear hr1 hr2 hr1' hr2' hb0 hb1 hB1 hr1a hms
  go_wp2_with fail
  refine (patternOf_any rod A D n c m d m0 m1 m2 m3 zs ps lo hi lo' hi' _ HN.out (hs.below hB2 hB) (Nat.le_trans hB hB2.size) HM.out hm2 (ho.below hB2 hB') (Nat.le_trans hB' hB2.size) HQ.out HMS.out _ HP.out).mono ?_
  rintro e w2 ⟨v0, v1, v2, v3, hv, rfl, hb2⟩
  have hB3 := hB2.trans (hb2.mono hB2.size)
  have hB4 := hB3.alloc hB3.size (.cells #[.int .i64 v0, .int .i64 v1, .int .i64 v2, .int .i64 v3] 46)
  have hr1b := (hb2.block _ (heap_lt HR1.out)).trans HR1.out
  have hr2b := (hb2.block _ (heap_lt HR2.out)).trans HR2.out
  have hr1' := (alloc_old w2 (heap_lt hr1b) (.cells #[.int .i64 v0, .int .i64 v1, .int .i64 v2, .int .i64 v3] 46)).trans hr1b
  have hr2' := (alloc_old w2 (heap_lt hr2b) (.cells #[.int .i64 v0, .int .i64 v1, .int .i64 v2, .int .i64 v3] 46)).trans hr2b
  have hc2 := (HC1.out.below hb2).below ((Below.refl _ _).alloc (Nat.le_refl _) (.cells #[.int .i64 v0, .int .i64 v1, .int .i64 v2, .int .i64 v3] 46))
  clear c0 c1 c2 c3 c4 c5
  have hp2 := Pat4.of (new_at w2 (.cells #[.int .i64 v0, .int .i64 v1, .int .i64 v2, .int .i64 v3] 46) rfl)
  have HR1 := Lib.hid hr1'
  have HR2 := Lib.hid hr2'
  have HC2 := Lib.hid hc2
  have HP2 := Lib.hid hp2
  have HB4 := Lib.hid hB4
  have HV := Lib.hid hv
  have l1 : w.heap.size + 1 < w1.heap.size := by have := heap_lt hr2a; omega
  have l2 : w1.heap.size < w2.heap.size := by have := hb2.size; simp at this; omega
  clear hr1' hr2' hb2 hB2 hB3 hB4 hr1b hr2b hs ho hv HC1 hr2a hc2 hp2
  go_wp2_with fail
  refine wp_region_held_drew (S := (fun wq => Below w.heap.size w wq ∧ Cut6 wq w1.heap.size rod A n c m0 m1 m2 m3 ∧ Pat4 wq w2.heap.size v0 v1 v2 v3 ∧ (∃ x0 x1 x2 x3 x4 x5 : Value, wq.heap[w.heap.size]? = some (.cells #[x0, x1, x2, x3, x4, x5] 48 (0, 0))) ∧ ∃ x0 x1 x2 x3 : Value, wq.heap[w.heap.size + 1]? = some (.cells #[x0, x1, x2, x3] 46 (0, 0)))) (by kernel_rfl) ⟨below_drewN HB4.out 1, HC2.out, HP2.out, ⟨_, _, _, _, _, _, HR1.out⟩, _, _, _, _, HR2.out⟩ (fun hH0 => ?_)
  refine wpAnyH_take (i := 0) (v := ?_) (ops_at rfl) (by kernel_rfl) (by kernel_rfl) (by kernel_rfl) (fun _ _ _ h => h) (Or.inl ⟨by rfl, ?ya0⟩) (by assumption) ?na0
  case ya0 => (intro wS hSw; (try dsimp only [Cut6, Pat4] at hSw); go_simp; try rfl)
  try simp only [Act.put, List.setIfInBounds_toArray, List.set_cons_zero, List.set_cons_succ]
  refine wpAnyH_take (i := 1) (v := ?_) (ops_at rfl) (by kernel_rfl) (by kernel_rfl) (by kernel_rfl) (fun _ _ _ h => h) (Or.inl ⟨by rfl, ?ya1⟩) (by assumption) ?na1
  case ya1 => (intro wS hSw; (try dsimp only [Cut6, Pat4] at hSw); go_simp; try rfl)
  try simp only [Act.put, List.setIfInBounds_toArray, List.set_cons_zero, List.set_cons_succ]
  refine wpAnyH_take (i := 2) (v := ?_) (ops_at rfl) (by kernel_rfl) (by kernel_rfl) (by kernel_rfl) (fun _ _ _ h => h) (Or.inl ⟨by rfl, ?ya2⟩) (by assumption) ?na2
  case ya2 => (intro wS hSw; (try dsimp only [Cut6, Pat4] at hSw); go_simp; try rfl)
  try simp only [Act.put, List.setIfInBounds_toArray, List.set_cons_zero, List.set_cons_succ]
  obtain ⟨q0, q1, q2, q3, q4, q5⟩ := six_cells HR1.out
  obtain ⟨f0, f1, f2, f3, f4, f5⟩ := frozen_each6 HR1.out
  refine wpAnyH_ready (rs := [3]) (by kernel_rfl) (by simp) ?_
  refine AllReadyH.cons (ops_at rfl) (fun K hK => ?_) AllReadyH.nil
  go_simp
  obtain ⟨W6, hW6⟩ : ∃ W6, ((((((w2.alloc (.cells #[.int .i64 v0, .int .i64 v1, .int .i64 v2, .int .i64 v3] 46)).setCell ⟨w.heap.size, 0, none⟩ (.int .i64 rod)).setCell ⟨w.heap.size, 1, none⟩ (.slice A n c)).setCell ⟨w.heap.size, 2, none⟩ (.int .i64 m0)).setCell ⟨w.heap.size, 3, none⟩ (.int .i64 m1)).setCell ⟨w.heap.size, 4, none⟩ (.int .i64 m2)).setCell ⟨w.heap.size, 5, none⟩ (.int .i64 m3) = W6 := ⟨_, rfl⟩
  rw [hW6]
  have hne : W6.heap[w.heap.size + 1]? = some (.cells #[.int .i64 0, .int .i64 0, .int .i64 0, .int .i64 0] 46 (0, 0)) := by rw [← hW6]; exact (sets6 (show w.heap.size + 1 ≠ w.heap.size by omega) _ _ _ _ _ _ _).trans HR2.out
  have hnc : Cut6 W6 w1.heap.size rod A n c m0 m1 m2 m3 := by rw [← hW6]; exact HC2.out.keep (sets6 (show w1.heap.size ≠ w.heap.size by omega) _ _ _ _ _ _ _)
  have hnp : Pat4 W6 w2.heap.size v0 v1 v2 v3 := by rw [← hW6]; exact HP2.out.keep (sets6 (show w2.heap.size ≠ w.heap.size by omega) _ _ _ _ _ _ _)
  have hB6 : Below w.heap.size w W6 := by rw [← hW6]; exact below_set6 HB4.out (Nat.le_refl _) _ _ _ _ _ _
  have hR6 : W6.heap[w.heap.size]? = some (.cells #[.int .i64 rod, .slice A n c, .int .i64 m0, .int .i64 m1, .int .i64 m2, .int .i64 m3] 48 (0, 0)) := by rw [← hW6]; exact set6_heap HR1.out _ _ _ _ _ _
  clear hW6 q0 q1 q2 q3 q4 q5 f0 f1 f2 f3 f4 f5
  refine hK.out _ _ ⟨below_drewN hB6 1, hnc, hnp, ⟨_, _, _, _, _, _, hR6⟩, _, _, _, _, hne⟩ (fun hHs => ?_)
  clear hK K hHs
  obtain ⟨p0, p1, p2, p3⟩ := four_cells hne
  have g0 := frozen_of hne 0
  have g1 := frozen_of hne 1
  have g2 := frozen_of hne 2
  have g3 := frozen_of hne 3
  refine wpAnyH_ready (rs := [4]) (by kernel_rfl) (by simp) ?_
  refine AllReadyH.cons (ops_at rfl) (fun K hK => ?_) AllReadyH.nil
  go_simp
  obtain ⟨W7, hW7⟩ : ∃ W7, (((W6.setCell ⟨w.heap.size + 1, 0, none⟩ (.int .i64 v0)).setCell ⟨w.heap.size + 1, 1, none⟩ (.int .i64 v1)).setCell ⟨w.heap.size + 1, 2, none⟩ (.int .i64 v2)).setCell ⟨w.heap.size + 1, 3, none⟩ (.int .i64 v3) = W7 := ⟨_, rfl⟩
  rw [hW7]
  have hnc' : Cut6 W7 w1.heap.size rod A n c m0 m1 m2 m3 := by rw [← hW7]; exact hnc.keep (sets4 (show w1.heap.size ≠ w.heap.size + 1 by omega) _ _ _ _ _)
  have hnp' : Pat4 W7 w2.heap.size v0 v1 v2 v3 := by rw [← hW7]; exact hnp.keep (sets4 (show w2.heap.size ≠ w.heap.size + 1 by omega) _ _ _ _ _)
  have hn0 : W7.heap[w.heap.size]? = some (.cells #[.int .i64 rod, .slice A n c, .int .i64 m0, .int .i64 m1, .int .i64 m2, .int .i64 m3] 48 (0, 0)) := by rw [← hW7]; exact (sets4 (show w.heap.size ≠ w.heap.size + 1 by omega) _ _ _ _ _).trans hR6
  have hB7 : Below w.heap.size w W7 := by rw [← hW7]; exact below_set4 hB6 (Nat.le_succ _) _ _ _ _
  have hR7 : W7.heap[w.heap.size + 1]? = some (.cells #[.int .i64 v0, .int .i64 v1, .int .i64 v2, .int .i64 v3] 46 (0, 0)) := by rw [← hW7]; exact set4_heap hne _ _ _ _
  clear hW7 p0 p1 p2 p3 g0 g1 g2 g3 hne hnc hnp
  refine hK.out _ _ ⟨below_drewN hB7 1, hnc', hnp', ⟨_, _, _, _, _, _, hn0⟩, _, _, _, _, hR7⟩ (fun hHt => ?_)
  clear hK K
  refine wpAnyH_take (i := 5) (v := ?_) (ops_at rfl) (by kernel_rfl) (by kernel_rfl) (by kernel_rfl) (fun _ _ _ h => h) (Or.inl ⟨by rfl, ?yt5⟩) (by assumption) ?nt5
  case yt5 => (intro wS hSw; (try dsimp only [Cut6, Pat4] at hSw); go_simp; try rfl)
  try simp only [Act.put, List.setIfInBounds_toArray, List.set_cons_zero, List.set_cons_succ]
  refine wpAnyH_done (by kernel_rfl) ?_ _
  obtain ⟨q0, q1, q2, q3, q4, q5⟩ := six_cells hn0
  obtain ⟨p0, p1, p2, p3⟩ := four_cells hR7
  go_wp2
  refine bodyPost_ret (v := .tuple #[.agg #[.int .i64 rod, .slice A n c, .int .i64 m0, .int .i64 m1, .int .i64 m2, .int .i64 m3], .agg #[.int .i64 v0, .int .i64 v1, .int .i64 v2, .int .i64 v3], .bool p]) (by simp [results, Try.results54, go_sem, q0, q1, q2, q3, q4, q5, p0, p1, p2, p3]) rfl ⟨rod, A, n, c, m0, m1, m2, m3, v0, v1, v2, v3, (fun h => ⟨rfl, rfl, rfl, rfl, HV.out h⟩), rfl, below_drewN hB7 1⟩

theorem cutByPattern_any (b : Bool) (hb : bothR rod zs ps = b) :
    Calls Try.prog 54 #[.int .i64 rod, .slice A n c, .slice D m d] w (RetBy b rod A n c ps w) := by
  by_cases hq : rodB rod zs = true
  · refine cutByPattern_yes rod A D n c m d zs ps lo hi lo' hi' w hn hlen hm hm2 hs ho hB hB' hq b ?_
    rw [← hb, bothR, hq, Bool.true_and]
  · have hq' : rodB rod zs = false := by simpa using hq
    obtain rfl : b = false := by rw [← hb, bothR, hq', Bool.false_and]
    exact cutByPattern_no rod A D n c m d zs ps lo hi w hn hlen hs hB hq'


set_option maxHeartbeats 1000000 in
theorem impl_IsRodPattern (q : Bool) (hq : rodB rod zs = q) (p : Bool) (hp : bothR rod zs ps = p) :
    Calls Try.prog 20 #[.int .i64 rod, .slice A n c, .slice D m d] w (RetBB p q w) := by
  have HN := Lib.hid hn
  have HM := Lib.hid hm
  have HQ := Lib.hid hq
  cases q
  · obtain rfl : p = false := by rw [← hp, bothR, hq, Bool.false_and]
    clear hn hm hq hp
    go_enter Try.func20, Try.ntmps20
    go_wp2_with fail
    refine (cuttingOf_no rod A n c zs lo hi _ HN.out hlen hs hB HQ.out).mono ?_
    rintro e w1 ⟨rfl, hb1⟩
    have HB1 := Lib.hid (hb1.alloc hb1.size (.cells #[.int .i64 0, .slice none 0 0, .int .i64 0, .int .i64 0, .int .i64 0, .int .i64 0] 48))
    clear hb1
    go_wp2
    go_ret2
    exact ⟨rfl, HB1.out⟩
  · have HP := Lib.hid (show patB rod zs ps = p by rw [← hp, bothR, hq, Bool.true_and])
    clear hn hm hq hp
    go_enter Try.func20, Try.ntmps20
    go_wp2_with fail
    refine (cuttingOf_yes rod A n c zs lo hi _ HN.out hlen hs hB HQ.out).mono ?_
    rintro e w1 ⟨m0, m1, m2, m3, hms, rfl, hb1⟩
    have hB2 := hb1.alloc hb1.size (.cells #[.int .i64 rod, .slice A n c, .int .i64 m0, .int .i64 m1, .int .i64 m2, .int .i64 m3] 48)
    obtain ⟨c0, c1, c2, c3, c4, c5⟩ := Cut6.of (new_at w1 (.cells #[.int .i64 rod, .slice A n c, .int .i64 m0, .int .i64 m1, .int .i64 m2, .int .i64 m3] 48) rfl)
    have HMS := Lib.hid hms
    have HB2 := Lib.hid hB2
    clear hms hb1 hB2
    go_wp2_with fail
    refine (patternOf_any rod A D n c m d m0 m1 m2 m3 zs ps lo hi lo' hi' _ HN.out (hs.below HB2.out hB) (Nat.le_trans hB HB2.out.size) HM.out hm2 (ho.below HB2.out hB') (Nat.le_trans hB' HB2.out.size) HQ.out HMS.out _ HP.out).mono ?_
    rintro e w2 ⟨v0, v1, v2, v3, hv, rfl, hb2⟩
    have hB3 := HB2.out.trans (hb2.mono HB2.out.size)
    have HB3 := Lib.hid hB3
    clear hv hb2 hB3 c0 c1 c2 c3 c4 c5 HB2
    go_wp2
    go_ret2
    exact ⟨rfl, HB3.out.alloc HB3.out.size _⟩

set_option maxHeartbeats 1000000 in
theorem impl_UsedOf (q : Bool) (hq : bothR rod zs ps = q) (v : Int) (hv : usedTo zs ps m = v) :
    Calls Try.prog 22 #[.int .i64 rod, .slice A n c, .slice D m d] w (RetI (numQ q v) q w) := by
  have HN := Lib.hid hn
  have HM := Lib.hid hm
  have HQ := Lib.hid hq
  cases q
  · clear hn hm hq hv
    go_enter Try.func22, Try.ntmps22
    go_wp2_with fail
    refine (cutByPattern_any rod A D n c m d zs ps lo hi lo' hi' _ HN.out hlen HM.out hm2 hs ho hB hB' _ HQ.out).mono ?_
    rintro e w1 ⟨r, A', n', c', m0, m1, m2, m3, v0, v1, v2, v3, hx, rfl, hb1⟩
    clear hx
    have HB1 := Lib.hid ((hb1.alloc hb1.size (.cells #[.int .i64 r, .slice A' n' c', .int .i64 m0, .int .i64 m1, .int .i64 m2, .int .i64 m3] 48)).alloc (by have := hb1.size; simp; omega) (.cells #[.int .i64 v0, .int .i64 v1, .int .i64 v2, .int .i64 v3] 46))
    clear hb1
    go_wp2
    go_ret2
    exact ⟨rfl, HB1.out⟩
  · obtain ⟨e, h4, h1, hr, hz, hp', hv0, hv1, hl⟩ := both_rod hn hm hq v hv
    have HV := Lib.hid hv
    have HE := Lib.hid e
    have HZ := Lib.hid hz
    have HP := Lib.hid hp'
    clear hn hm hq hv e hz hp'
    go_enter Try.func22, Try.ntmps22
    go_wp2_with fail
    refine (cutByPattern_any rod A D n c m d zs ps lo hi lo' hi' _ HN.out hlen HM.out hm2 hs ho hB hB' _ HQ.out).mono ?_
    rintro e w1 ⟨r, A', n', c', m0, m1, m2, m3, v0, v1, v2, v3, hx, rfl, hb1⟩
    obtain ⟨rfl, rfl, rfl, rfl, hpad⟩ := hx rfl
    have hB2 := hb1.alloc hb1.size (.cells #[.int .i64 r, .slice A' n' c', .int .i64 m0, .int .i64 m1, .int .i64 m2, .int .i64 m3] 48)
    have hB3 := hB2.alloc hB2.size (.cells #[.int .i64 v0, .int .i64 v1, .int .i64 v2, .int .i64 v3] 46)
    have hc1 := (Cut6.of (new_at w1 (.cells #[.int .i64 r, .slice A' n' c', .int .i64 m0, .int .i64 m1, .int .i64 m2, .int .i64 m3] 48) rfl)).below ((Below.refl _ _).alloc (Nat.le_refl _) (.cells #[.int .i64 v0, .int .i64 v1, .int .i64 v2, .int .i64 v3] 46))
    have hv1' := Pat4.of (new_at (w1.alloc (.cells #[.int .i64 r, .slice A' n' c', .int .i64 m0, .int .i64 m1, .int .i64 m2, .int .i64 m3] 48)) (.cells #[.int .i64 v0, .int .i64 v1, .int .i64 v2, .int .i64 v3] 46) rfl)
    have hused : Hid (usedTo zs [v0, v1, v2, v3] n' = v) := by
      have : usedTo zs [v0, v1, v2, v3] n' = v := by rw [← hpad, usedTo_pad _ _ h4, ← HE.out]; exact HV.out
      exact Lib.hid this
    have hv60 : Hid (∀ (j : Nat) u, [v0, v1, v2, v3][j]? = some u → 0 ≤ u ∧ u ≤ 60) := by
      refine Lib.hid fun j u hu => ?_
      rw [← hpad] at hu
      have hj : j < 4 := (List.getElem?_eq_some_iff.1 hu).1
      rw [pad4_get _ hj] at hu
      injection hu with hu
      subst hu
      rcases hh : ps[j]? with _ | x
      · simp [List.getD, hh]
      · have := HP.out j x hh; simp [List.getD, hh]; omega
    obtain ⟨c0, c1, c2, c3, c4, c5⟩ := hc1
    obtain ⟨p0, p1, p2, p3⟩ := hv1'
    have HB3 := Lib.hid hB3
    clear hx hpad hb1 hB2 hB3
    go_wp2_with fail
    refine (lengthOf_any r A' n' c' m0 m1 m2 m3 v0 v1 v2 v3 zs lo hi _ HN.out h4 (hs.below HB3.out hB) (Nat.le_trans hB HB3.out.size) HZ.out hv60.out _ hused.out).mono ?_
    rintro e w2 ⟨rfl, hb2⟩
    have HB5 := Lib.hid (HB3.out.trans (hb2.mono HB3.out.size))
    clear hb2 c0 c1 c2 c3 c4 c5 p0 p1 p2 p3 HB3
    go_wp2
    go_ret2
    exact ⟨rfl, HB5.out⟩

set_option maxHeartbeats 1000000 in
theorem impl_WasteOfPattern (q : Bool) (hq : bothR rod zs ps = q) (v : Int) (hv : usedTo zs ps m = v) :
    Calls Try.prog 24 #[.int .i64 rod, .slice A n c, .slice D m d] w (RetI (numQ q (rod - v)) q w) := by
  have HN := Lib.hid hn
  have HM := Lib.hid hm
  have HQ := Lib.hid hq
  cases q
  · clear hn hm hq hv
    go_enter Try.func24, Try.ntmps24
    go_wp2_with fail
    refine (cutByPattern_any rod A D n c m d zs ps lo hi lo' hi' _ HN.out hlen HM.out hm2 hs ho hB hB' _ HQ.out).mono ?_
    rintro e w1 ⟨r, A', n', c', m0, m1, m2, m3, v0, v1, v2, v3, hx, rfl, hb1⟩
    clear hx
    have HB1 := Lib.hid ((hb1.alloc hb1.size (.cells #[.int .i64 r, .slice A' n' c', .int .i64 m0, .int .i64 m1, .int .i64 m2, .int .i64 m3] 48)).alloc (by have := hb1.size; simp; omega) (.cells #[.int .i64 v0, .int .i64 v1, .int .i64 v2, .int .i64 v3] 46))
    clear hb1
    go_wp2
    go_ret2
    exact ⟨rfl, HB1.out⟩
  · obtain ⟨e, h4, h1, hr, hz, hp', hv0, hv1, hl⟩ := both_rod hn hm hq v hv
    have HV := Lib.hid hv
    have HE := Lib.hid e
    have HZ := Lib.hid hz
    have HP := Lib.hid hp'
    clear hn hm hq hv e hz hp'
    go_enter Try.func24, Try.ntmps24
    go_wp2_with fail
    refine (cutByPattern_any rod A D n c m d zs ps lo hi lo' hi' _ HN.out hlen HM.out hm2 hs ho hB hB' _ HQ.out).mono ?_
    rintro e w1 ⟨r, A', n', c', m0, m1, m2, m3, v0, v1, v2, v3, hx, rfl, hb1⟩
    obtain ⟨rfl, rfl, rfl, rfl, hpad⟩ := hx rfl
    have hB2 := hb1.alloc hb1.size (.cells #[.int .i64 r, .slice A' n' c', .int .i64 m0, .int .i64 m1, .int .i64 m2, .int .i64 m3] 48)
    have hB3 := hB2.alloc hB2.size (.cells #[.int .i64 v0, .int .i64 v1, .int .i64 v2, .int .i64 v3] 46)
    have hc1 := (Cut6.of (new_at w1 (.cells #[.int .i64 r, .slice A' n' c', .int .i64 m0, .int .i64 m1, .int .i64 m2, .int .i64 m3] 48) rfl)).below ((Below.refl _ _).alloc (Nat.le_refl _) (.cells #[.int .i64 v0, .int .i64 v1, .int .i64 v2, .int .i64 v3] 46))
    have hv1' := Pat4.of (new_at (w1.alloc (.cells #[.int .i64 r, .slice A' n' c', .int .i64 m0, .int .i64 m1, .int .i64 m2, .int .i64 m3] 48)) (.cells #[.int .i64 v0, .int .i64 v1, .int .i64 v2, .int .i64 v3] 46) rfl)
    have hused : Hid (usedTo zs [v0, v1, v2, v3] n' = v) := by
      have : usedTo zs [v0, v1, v2, v3] n' = v := by rw [← hpad, usedTo_pad _ _ h4, ← HE.out]; exact HV.out
      exact Lib.hid this
    have hv60 : Hid (∀ (j : Nat) u, [v0, v1, v2, v3][j]? = some u → 0 ≤ u ∧ u ≤ 60) := by
      refine Lib.hid fun j u hu => ?_
      rw [← hpad] at hu
      have hj : j < 4 := (List.getElem?_eq_some_iff.1 hu).1
      rw [pad4_get _ hj] at hu
      injection hu with hu
      subst hu
      rcases hh : ps[j]? with _ | x
      · simp [List.getD, hh]
      · have := HP.out j x hh; simp [List.getD, hh]; omega
    obtain ⟨c0, c1, c2, c3, c4, c5⟩ := hc1
    obtain ⟨p0, p1, p2, p3⟩ := hv1'
    have HB3 := Lib.hid hB3
    clear hx hpad hb1 hB2 hB3
    go_wp2_with fail
    refine (wasteOf_any r A' n' c' m0 m1 m2 m3 v0 v1 v2 v3 zs lo hi _ HN.out h4 (hs.below HB3.out hB) (Nat.le_trans hB HB3.out.size) HZ.out hv60.out hr _ hused.out).mono ?_
    rintro e w2 ⟨rfl, hb2⟩
    have HB5 := Lib.hid (HB3.out.trans (hb2.mono HB3.out.size))
    clear hb2 c0 c1 c2 c3 c4 c5 p0 p1 p2 p3 HB3
    go_wp2
    go_ret2
    exact ⟨rfl, HB5.out⟩

set_option maxHeartbeats 1000000 in
theorem impl_IsFullPattern (q : Bool) (hq : bothR rod zs ps = q) (v : Int) (hv : usedTo zs ps m = v) (p : Bool) (hp : (q && decide (rod - v < zs.getD 0 0)) = p) :
    Calls Try.prog 26 #[.int .i64 rod, .slice A n c, .slice D m d] w (RetBB p q w) := by
  have HN := Lib.hid hn
  have HM := Lib.hid hm
  have HQ := Lib.hid hq
  cases q
  · obtain rfl : p = false := by rw [← hp]; rfl
    clear hp
    clear hn hm hq hv
    go_enter Try.func26, Try.ntmps26
    go_wp2_with fail
    refine (cutByPattern_any rod A D n c m d zs ps lo hi lo' hi' _ HN.out hlen HM.out hm2 hs ho hB hB' _ HQ.out).mono ?_
    rintro e w1 ⟨r, A', n', c', m0, m1, m2, m3, v0, v1, v2, v3, hx, rfl, hb1⟩
    clear hx
    have HB1 := Lib.hid ((hb1.alloc hb1.size (.cells #[.int .i64 r, .slice A' n' c', .int .i64 m0, .int .i64 m1, .int .i64 m2, .int .i64 m3] 48)).alloc (by have := hb1.size; simp; omega) (.cells #[.int .i64 v0, .int .i64 v1, .int .i64 v2, .int .i64 v3] 46))
    clear hb1
    go_wp2
    go_ret2
    exact ⟨rfl, HB1.out⟩
  · obtain ⟨e, h4, h1, hr, hz, hp', hv0, hv1, hl⟩ := both_rod hn hm hq v hv
    have HV := Lib.hid hv
    have HE := Lib.hid e
    have HZ := Lib.hid hz
    have HP := Lib.hid hp'
    have HD := Lib.hid (show decide (rod - v < zs.getD 0 0) = p by rw [← hp, Bool.true_and])
    clear hp
    clear hn hm hq hv e hz hp'
    go_enter Try.func26, Try.ntmps26
    go_wp2_with fail
    refine (cutByPattern_any rod A D n c m d zs ps lo hi lo' hi' _ HN.out hlen HM.out hm2 hs ho hB hB' _ HQ.out).mono ?_
    rintro e w1 ⟨r, A', n', c', m0, m1, m2, m3, v0, v1, v2, v3, hx, rfl, hb1⟩
    obtain ⟨rfl, rfl, rfl, rfl, hpad⟩ := hx rfl
    have hB2 := hb1.alloc hb1.size (.cells #[.int .i64 r, .slice A' n' c', .int .i64 m0, .int .i64 m1, .int .i64 m2, .int .i64 m3] 48)
    have hB3 := hB2.alloc hB2.size (.cells #[.int .i64 v0, .int .i64 v1, .int .i64 v2, .int .i64 v3] 46)
    have hc1 := (Cut6.of (new_at w1 (.cells #[.int .i64 r, .slice A' n' c', .int .i64 m0, .int .i64 m1, .int .i64 m2, .int .i64 m3] 48) rfl)).below ((Below.refl _ _).alloc (Nat.le_refl _) (.cells #[.int .i64 v0, .int .i64 v1, .int .i64 v2, .int .i64 v3] 46))
    have hv1' := Pat4.of (new_at (w1.alloc (.cells #[.int .i64 r, .slice A' n' c', .int .i64 m0, .int .i64 m1, .int .i64 m2, .int .i64 m3] 48)) (.cells #[.int .i64 v0, .int .i64 v1, .int .i64 v2, .int .i64 v3] 46) rfl)
    have hused : Hid (usedTo zs [v0, v1, v2, v3] n' = v) := by
      have : usedTo zs [v0, v1, v2, v3] n' = v := by rw [← hpad, usedTo_pad _ _ h4, ← HE.out]; exact HV.out
      exact Lib.hid this
    have hv60 : Hid (∀ (j : Nat) u, [v0, v1, v2, v3][j]? = some u → 0 ≤ u ∧ u ≤ 60) := by
      refine Lib.hid fun j u hu => ?_
      rw [← hpad] at hu
      have hj : j < 4 := (List.getElem?_eq_some_iff.1 hu).1
      rw [pad4_get _ hj] at hu
      injection hu with hu
      subst hu
      rcases hh : ps[j]? with _ | x
      · simp [List.getD, hh]
      · have := HP.out j x hh; simp [List.getD, hh]; omega
    obtain ⟨c0, c1, c2, c3, c4, c5⟩ := hc1
    obtain ⟨p0, p1, p2, p3⟩ := hv1'
    have HB3 := Lib.hid hB3
    clear hx hpad hb1 hB2 hB3
    go_wp2_with fail
    refine (isFull_any r A' n' c' m0 m1 m2 m3 v0 v1 v2 v3 zs lo hi _ HN.out h4 (hs.below HB3.out hB) (Nat.le_trans hB HB3.out.size) HZ.out hv60.out hr _ hused.out h1 _ HD.out).mono ?_
    rintro e w2 ⟨rfl, hb2⟩
    have HB5 := Lib.hid (HB3.out.trans (hb2.mono HB3.out.size))
    clear hb2 c0 c1 c2 c3 c4 c5 p0 p1 p2 p3 HB3
    go_wp2
    go_ret2
    exact ⟨rfl, HB5.out⟩
end
end Go.Proofs.Ythlhpddfifpkeaa

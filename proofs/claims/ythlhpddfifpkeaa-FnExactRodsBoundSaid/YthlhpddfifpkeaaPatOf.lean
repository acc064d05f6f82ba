/-
  The written program's pattern of a list of numbers.
  Conditions: the lists have at most 1048576 numbers.
-/
import Derived.Test.YthlhpddfifpkeaaCutOf
namespace Go.Proofs.Ythlhpddfifpkeaa
set_option linter.unusedVariables false
open Go.RowKit

theorem below_set4 {B g : Nat} {a w : World} (h : Below B a w) (hg : B ≤ g) (v0 v1 v2 v3 : Value) :
    Below B a ((((w.setCell ⟨g, 0, none⟩ v0).setCell ⟨g, 1, none⟩ v1).setCell ⟨g, 2, none⟩ v2).setCell ⟨g, 3, none⟩ v3) :=
  (((h.setCell (p := ⟨g, 0, none⟩) hg _).setCell (p := ⟨g, 1, none⟩) hg _).setCell (p := ⟨g, 2, none⟩) hg _).setCell (p := ⟨g, 3, none⟩) hg _

theorem Arr.four {w : World} {g T : Nat} {v0 v1 v2 v3 : Int} (h : Arr w g T [v0, v1, v2, v3]) : Pat4 w g v0 v1 v2 v3 :=
  ⟨h.cell (k := 0) rfl, h.cell (k := 1) rfl, h.cell (k := 2) rfl, h.cell (k := 3) rfl⟩

/-- A pattern, each of its numbers told, and a bool. -/
def RetPat (p : Bool) (ps : List Int) (w : World) (e : Ending) (w' : World) : Prop :=
  ∃ v0 v1 v2 v3 : Int, (p = true → pad4 ps = [v0, v1, v2, v3]) ∧ e = .returned (.tuple #[.agg #[.int .i64 v0, .int .i64 v1, .int .i64 v2, .int .i64 v3], .bool p]) ∧ Below w.heap.size w w'

theorem sets4 {g g' : Nat} (h : g' ≠ g) (w : World) (v0 v1 v2 v3 : Value) : ((((w.setCell ⟨g, 0, none⟩ v0).setCell ⟨g, 1, none⟩ v1).setCell ⟨g, 2, none⟩ v2).setCell ⟨g, 3, none⟩ v3).heap[g']? = w.heap[g']? :=
  (set_far _ (p := ⟨g, 3, none⟩) h _).trans ((set_far _ (p := ⟨g, 2, none⟩) h _).trans ((set_far _ (p := ⟨g, 1, none⟩) h _).trans (set_far _ (p := ⟨g, 0, none⟩) h _)))

theorem set4_heap {w : World} {g T : Nat} {x0 x1 x2 x3 : Value} (h : w.heap[g]? = some (.cells #[x0, x1, x2, x3] T (0, 0))) (v0 v1 v2 v3 : Value) :
    ((((w.setCell ⟨g, 0, none⟩ v0).setCell ⟨g, 1, none⟩ v1).setCell ⟨g, 2, none⟩ v2).setCell ⟨g, 3, none⟩ v3).heap[g]? = some (.cells #[v0, v1, v2, v3] T (0, 0)) :=
  set_self (set_self (set_self (set_self h 0 v0) 1 v1) 2 v2) 3 v3

theorem Cut6.keep {w w' : World} {g : Nat} {rod : Int} {A : Option Addr} {n c : Nat} {m0 m1 m2 m3 : Int} (h : Cut6 w g rod A n c m0 m1 m2 m3) (e : w'.heap[g]? = w.heap[g]?) : Cut6 w' g rod A n c m0 m1 m2 m3 := by
  obtain ⟨h0, h1, h2, h3, h4, h5⟩ := h
  exact ⟨(World.cell?_of_block (a := ⟨g, 0, none⟩) e).trans h0, (World.cell?_of_block (a := ⟨g, 1, none⟩) e).trans h1, (World.cell?_of_block (a := ⟨g, 2, none⟩) e).trans h2, (World.cell?_of_block (a := ⟨g, 3, none⟩) e).trans h3, (World.cell?_of_block (a := ⟨g, 4, none⟩) e).trans h4, (World.cell?_of_block (a := ⟨g, 5, none⟩) e).trans h5⟩

theorem Pat4.keep {w w' : World} {g : Nat} {m0 m1 m2 m3 : Int} (h : Pat4 w g m0 m1 m2 m3) (e : w'.heap[g]? = w.heap[g]?) : Pat4 w' g m0 m1 m2 m3 := by
  obtain ⟨h0, h1, h2, h3⟩ := h
  exact ⟨(World.cell?_of_block (a := ⟨g, 0, none⟩) e).trans h0, (World.cell?_of_block (a := ⟨g, 1, none⟩) e).trans h1, (World.cell?_of_block (a := ⟨g, 2, none⟩) e).trans h2, (World.cell?_of_block (a := ⟨g, 3, none⟩) e).trans h3⟩

theorem patB_len {rod : Int} {zs ps : List Int} (h : ps.length ≠ zs.length) : patB rod zs ps = false := by
  rw [patB, decide_eq_false h, Bool.false_and, Bool.false_and]

theorem patB_end {rod : Int} {zs ps : List Int} (hr : rod ≤ 60) (hz : ∀ (k : Nat) u, zs[k]? = some u → 1 ≤ u ∧ u ≤ 60) (hl : ps.length = zs.length) (h : ∀ (k : Nat) u z, ps[k]? = some u → zs[k]? = some z → 0 ≤ u ∧ u ≤ rod / z) :
    patB rod zs ps = decide (usedTo zs ps zs.length ≤ rod) ∧ ∀ (k : Nat) u, ps[k]? = some u → 0 ≤ u ∧ u ≤ 60 := by
  have h2 : ∀ (k : Nat) u, ps[k]? = some u → 0 ≤ u ∧ u ≤ 60 := fun k u hu => by
    have hk := (List.getElem?_eq_some_iff.1 hu).1
    have hx := List.getElem?_eq_getElem (l := zs) (i := k) (by omega)
    obtain ⟨h3, h4⟩ := h k u _ hu hx
    obtain ⟨h5, h6⟩ := hz k _ hx
    refine ⟨h3, Int.le_trans h4 ?_⟩
    by_cases hr0 : 0 ≤ rod
    · exact Int.le_trans (Int.ediv_le_self _ hr0) hr
    · exact Int.le_trans (Int.le_of_lt (Int.ediv_neg_of_neg_of_pos (by omega) (by omega))) (by omega)
  refine ⟨?_, h2⟩
  rw [patB, decide_eq_true hl, allB_of fun k u hu => inB_true.2 (h2 k u hu), Bool.true_and, Bool.true_and]

set_option maxHeartbeats 1000000 in
theorem patternOf_ne (rod : Int) (A D : Option Addr) (n c m d : Nat) (m0 m1 m2 m3 : Int) (zs ps : List Int) (w : World) (hn : zs.length = n) (hm : ps.length = m) (hne : m ≠ n) :
    Calls Try.prog 51 #[.agg #[.int .i64 rod, .slice A n c, .int .i64 m0, .int .i64 m1, .int .i64 m2, .int .i64 m3], .slice D m d] w (RetPat (patB rod zs ps) ps w) := by
  have hne' : ((m : Int) == (n : Int)) = false := by rw [beq_eq_false_iff_ne]; omega
  rw [patB_len (by omega)]
  clear hn hm
  go_enter Try.func51, Try.ntmps51
  go_wp2
  refine bodyPost_ret (v := .tuple #[.agg #[.int .i64 0, .int .i64 0, .int .i64 0, .int .i64 0], .bool false]) (by simp [results, Try.results51, go_sem]) rfl ⟨0, 0, 0, 0, (fun h => by cases h), rfl, ?_⟩
  exact (((Below.refl _ _).alloc (Nat.le_refl _) _).alloc (by simp) _).alloc (by simp; omega) _

section
variable (rod : Int) (A D : Option Addr) (n c m d : Nat) (m0 m1 m2 m3 : Int) (zs ps : List Int) (lo hi lo' hi' : Nat) (w : World) (hn : zs.length = n) (hs : Seg w lo hi A zs) (hB : hi ≤ w.heap.size)
    (hm : ps.length = m) (hm2 : m ≤ 1048576) (ho : Seg w lo' hi' D ps) (hB' : hi' ≤ w.heap.size) (hq : rodB rod zs = true) (hms : pad4 (mostL rod zs) = [m0, m1, m2, m3])
include hn hs hB hm hm2 ho hB' hq hms

set_option maxRecDepth 100000 in
set_option maxHeartbeats 2000000 in
theorem patternOf_eq (hne : m = n) :
    Calls Try.prog 51 #[.agg #[.int .i64 rod, .slice A n c, .int .i64 m0, .int .i64 m1, .int .i64 m2, .int .i64 m3], .slice D m d] w (RetPat (patB rod zs ps) ps w) := by
  subst hne
  obtain ⟨hr, hl⟩ := rodB_true.1 hq
  obtain ⟨h1, h4, hz⟩ := lensB_at hl
  rw [hn] at h1 h4
  have HN := Lib.hid hn
  have HM := Lib.hid hm
  have HL := Lib.hid hl
  have HZ := Lib.hid hz
  have HMS := Lib.hid hms
  clear hn hm hq hms hl hz
  go_enter Try.func51, Try.ntmps51
  go_wp2
  obtain ⟨W, hW⟩ : ∃ W, ((w.alloc (.cells #[.int .i64 rod, .slice A m c, .int .i64 m0, .int .i64 m1, .int .i64 m2, .int .i64 m3] 48)).alloc (.cells #[.int .i64 0, .int .i64 0, .int .i64 0, .int .i64 0] 46)).alloc (.cells #[.int .i64 0, .int .i64 0, .int .i64 0, .int .i64 0] 46) = W := ⟨_, rfl⟩
  have hb : Below w.heap.size w W := by rw [← hW]; exact (((Below.refl _ _).alloc (Nat.le_refl _) _).alloc (by simp) _).alloc (by simp; omega) _
  have hc : Cut6 W w.heap.size rod A m c m0 m1 m2 m3 := Cut6.of (by rw [← hW]; exact (alloc_old _ (by simp; omega) _).trans ((alloc_old _ (by simp) _).trans (new_at _ _ rfl)))
  have hr0 : W.heap[w.heap.size + 1]? = some (.cells #[.int .i64 0, .int .i64 0, .int .i64 0, .int .i64 0] 46 (0, 0)) := by rw [← hW]; exact (alloc_old _ (by simp) _).trans (new_at _ _ (by simp))
  have hp0 : Arr W (w.heap.size + 1 + 1) 46 (padTo ps 0) := arr4 (by rw [← hW]; exact new_at _ _ (by simp))
  rw [hW]
  clear hW
  go_loopw [18] (fun i wr => ∃ k : Nat, k ≤ m ∧ i = .int .i64 k ∧ Arr wr (w.heap.size + 1 + 1) 46 (padTo ps k) ∧ Cut6 wr w.heap.size rod A m c m0 m1 m2 m3 ∧
    wr.heap[w.heap.size + 1]? = some (.cells #[.int .i64 0, .int .i64 0, .int .i64 0, .int .i64 0] 46 (0, 0)) ∧ Below w.heap.size w wr ∧ ∀ (j : Nat) u z, j < k → ps[j]? = some u → zs[j]? = some z → 0 ≤ u ∧ u ≤ rod / z) (fun i _ => m - (intOf i).toNat)
  case atStart => exact ⟨0, Nat.zero_le _, rfl, hp0, hc, hr0, hb, fun j u z hj => by omega⟩
  case round =>
    obtain ⟨k, hk, rfl, hpt, hct, hrt, hbt, hall⟩ := hrel
    have HA := Lib.hid hall
    clear hall
    by_cases hlt : k < m
    · have ho' := ho.below hbt hB'
      obtain ⟨b', off', u, rfl, _, _, hx, hcx⟩ := ho'.at_ (k := k) (by rw [HM.out]; omega)
      obtain ⟨z, hz⟩ : ∃ z, zs[k]? = some z := ⟨_, List.getElem?_eq_getElem (by rw [HN.out]; exact hlt)⟩
      have hk4 : k < 4 := by omega
      have hmk : [m0, m1, m2, m3][k]? = some (rod / z) := by
        rw [← HMS.out, pad4_get _ hk4]; simp [List.getD, mostL, hz]
      have HX := Lib.hid hx
      have HZK := Lib.hid hz
      have hcm : wr.cell? ⟨w.heap.size, 2 + k, none⟩ = some (.int .i64 (rod / z)) := by
        obtain ⟨c0, c1, c2, c3, c4, c5⟩ := hct
        have : k = 0 ∨ k = 1 ∨ k = 2 ∨ k = 3 := by omega
        rcases this with rfl | rfl | rfl | rfl <;> (simp at hmk; rw [← hmk]; assumption)
      by_cases hu0 : u < 0
      · have hd : decide (u < 0) = true := by simpa using hu0
        rw [patB_more HL.out HX.out HZK.out (Or.inl hu0)]
        obtain ⟨q0, q1, q2, q3⟩ := Pat4.of hrt
        have f0 := frozen_of hrt 0
        have f1 := frozen_of hrt 1
        have f2 := frozen_of hrt 2
        have f3 := frozen_of hrt 3
        clear hx hz hmk hrt hct hpt
        go_wp2
        refine bodyPost_ret (v := .tuple #[.agg #[.int .i64 0, .int .i64 0, .int .i64 0, .int .i64 0], .bool false]) (by simp [results, Try.results51, go_sem, q0, q1, q2, q3]) rfl ⟨0, 0, 0, 0, (fun h => by cases h), rfl, ?_⟩
        exact below_set4 hbt (by omega) _ _ _ _
      have hd : decide (u < 0) = false := by simpa using hu0
      by_cases hu1 : rod / z < u
      · have hd1 : decide (rod / z < u) = true := by simpa using hu1
        rw [patB_more HL.out HX.out HZK.out (Or.inr hu1)]
        obtain ⟨q0, q1, q2, q3⟩ := Pat4.of hrt
        have f0 := frozen_of hrt 0
        have f1 := frozen_of hrt 1
        have f2 := frozen_of hrt 2
        have f3 := frozen_of hrt 3
        generalize rod / z = rz at *
        clear hx hz hmk hrt hct hpt
        go_wp2
        refine bodyPost_ret (v := .tuple #[.agg #[.int .i64 0, .int .i64 0, .int .i64 0, .int .i64 0], .bool false]) (by simp [results, Try.results51, go_sem, q0, q1, q2, q3]) rfl ⟨0, 0, 0, 0, (fun h => by cases h), rfl, ?_⟩
        exact below_set4 hbt (by omega) _ _ _ _
      have hd1 : decide (rod / z < u) = false := by simpa using hu1
      obtain ⟨x0, hx0⟩ : ∃ x0, (padTo ps k)[k]? = some x0 := ⟨_, List.getElem?_eq_getElem (by rw [padTo_len]; exact hk4)⟩
      have hcx0 := hpt.cell hx0
      have hfr := hpt.frozen k
      have hset := hpt.set k u
      rw [padTo_step hx hk4] at hset
      have HSET := Lib.hid hset
      have HRT := Lib.hid ((set_far wr (by show w.heap.size + 1 ≠ w.heap.size + 1 + 1; omega) (.int .i64 u)).trans hrt : (wr.setCell ⟨w.heap.size + 1 + 1, k, none⟩ (.int .i64 u)).heap[w.heap.size + 1]? = _)
      have hbset : Below (w.heap.size + 1 + 1) wr (wr.setCell ⟨w.heap.size + 1 + 1, k, none⟩ (.int .i64 u)) := (Below.refl _ _).setCell (p := ⟨w.heap.size + 1 + 1, k, none⟩) (Nat.le_refl _) _
      have HBT := Lib.hid (hbt.setCell (p := ⟨w.heap.size + 1 + 1, k, none⟩) (by show w.heap.size ≤ w.heap.size + 1 + 1; omega) (.int .i64 u))
      have HCT := Lib.hid (hct.below2 (B := w.heap.size + 1 + 1) hbset (by omega))
      have HNEW := Lib.hid (show 0 ≤ u ∧ u ≤ rod / z from ⟨by omega, by omega⟩)
      clear hbset hset hpt hct hrt hbt hx0 hx hmk hz
      obtain ⟨rz, hrz⟩ : ∃ rz, rod / z = rz := ⟨_, rfl⟩
      rw [hrz] at hcm hd1
      clear hrz hu1 hu0
      go_wp2
      go_roundw
      case rel =>
        refine ⟨k + 1, by omega, by go_num, HSET.out, HCT.out, HRT.out, HBT.out, fun j v y hj hv hy => ?_⟩
        by_cases e : j = k
        · subst e; rw [HX.out] at hv; injection hv with hv; subst hv; rw [HZK.out] at hy; injection hy with hy; subst hy; exact HNEW.out
        · exact HA.out j v y (by omega) hv hy
      case measure => simp [intOf]; omega
    · obtain rfl : k = m := by omega
      obtain ⟨v0, v1, v2, v3, hvs⟩ := ints_4 (padTo_len ps k)
      rw [hvs] at hpt
      rw [padTo_all HM.out] at hvs
      obtain ⟨hpe, hp60⟩ := patB_end hr.2 HZ.out (HM.out.trans HN.out.symm) (fun j u z hu hz => HA.out j u z (by rw [← HM.out]; exact (List.getElem?_eq_some_iff.1 hu).1) hu hz)
      obtain ⟨t, ht⟩ : ∃ t, usedTo zs ps zs.length = t := ⟨_, rfl⟩
      rw [ht] at hpe
      have ht4 : usedTo zs [v0, v1, v2, v3] k = t := by rw [← hvs, usedTo_pad _ _ h4, ← HN.out, ht]
      have hv60 : ∀ (j : Nat) u, [v0, v1, v2, v3][j]? = some u → 0 ≤ u ∧ u ≤ 60 := fun j u hu => by
        rw [← hvs] at hu
        have hj : j < 4 := (List.getElem?_eq_some_iff.1 hu).1
        rw [pad4_get _ hj] at hu
        injection hu with hu
        subst hu
        rcases hh : ps[j]? with _ | v
        · simp [List.getD, hh]
        · have := hp60 j v hh; simp [List.getD, hh]; omega
      have HPE := Lib.hid hpe
      have HV := Lib.hid hvs
      have HT4 := Lib.hid ht4
      have HP := Lib.hid hpt.four
      have HR := Lib.hid hrt
      have HC := Lib.hid hct
      have HB := Lib.hid hbt
      clear hvs ht4 hpt hrt hct hbt hpe ht
      go_wp2_with fail
      refine wp_region_held_drew (S := (fun wq => Below w.heap.size w wq ∧ Cut6 wq w.heap.size rod A k c m0 m1 m2 m3 ∧ Pat4 wq (w.heap.size + 1 + 1) v0 v1 v2 v3 ∧ ∃ x0 x1 x2 x3 : Int, wq.heap[w.heap.size + 1]? = some (.cells #[.int .i64 x0, .int .i64 x1, .int .i64 x2, .int .i64 x3] 46 (0, 0)))) (by kernel_rfl) ⟨below_drewN HB.out 1, HC.out, HP.out, 0, 0, 0, 0, HR.out⟩ (fun hH0 => ?_)
      refine wpAnyH_take (i := 0) (v := ?_) (ops_at rfl) (by kernel_rfl) (by kernel_rfl) (by kernel_rfl) (fun _ _ _ h => h) (Or.inl ⟨by rfl, ?ya0⟩) (by assumption) ?na0
      case ya0 => (intro wS hSw; (try dsimp only [Cut6, Pat4] at hSw); go_simp; try rfl)
      try simp only [Act.put, List.setIfInBounds_toArray, List.set_cons_zero, List.set_cons_succ]
      refine wpAnyH_take (i := 1) (v := ?_) (ops_at rfl) (by kernel_rfl) (by kernel_rfl) (by kernel_rfl) (fun _ _ _ h => h) (Or.inl ⟨by rfl, ?ya1⟩) (by assumption) ?na1
      case ya1 => (intro wS hSw; (try dsimp only [Cut6, Pat4] at hSw); go_simp; try rfl)
      try simp only [Act.put, List.setIfInBounds_toArray, List.set_cons_zero, List.set_cons_succ]
      refine wpAnyH_take (i := 2) (v := ?_) (ops_at rfl) (by kernel_rfl) (by kernel_rfl) (by kernel_rfl) (fun _ _ _ h => h) (Or.inl ⟨by rfl, ?ya2⟩) (by assumption) ?na2
      case ya2 => (intro wS hSw; (try dsimp only [Cut6, Pat4] at hSw); go_simp; try rfl)
      try simp only [Act.put, List.setIfInBounds_toArray, List.set_cons_zero, List.set_cons_succ]
      refine wpAnyH_ready (rs := [3]) (by kernel_rfl) (by simp) ?_
      refine AllReadyH.cons (ops_at rfl) (fun K hK => ?_) AllReadyH.nil
      go_simp
      refine (wasteOf_any rod A k c m0 m1 m2 m3 v0 v1 v2 v3 zs lo hi _ HN.out h4 (hs.below hH0.1 hB) (Nat.le_trans hB hH0.1.size) HZ.out hv60 hr t HT4.out).mono ?_
      rintro e w1 ⟨rfl, hb1⟩
      have hk := cutpat_keep (P := True) ⟨hH0.1, hH0.2.1, hH0.2.2.1⟩ hH0.1.size hb1
      obtain ⟨x0, x1, x2, x3, hx⟩ := hH0.2.2.2
      have hrr := (hb1.block (w.heap.size + 1) (heap_lt hx)).trans hx
      refine hK.out _ _ ⟨hk.1, hk.2.1, hk.2.2, x0, x1, x2, x3, hrr⟩ (fun hHa3 => ?_)
      clear hK K
      refine wpAnyH_take (i := 4) (v := ?_) (ops_at rfl) (by kernel_rfl) (by kernel_rfl) (by kernel_rfl) (fun _ _ _ h => h) (Or.inl ⟨by rfl, ?ya4⟩) (by assumption) ?na4
      case ya4 => (intro wS hSw; (try dsimp only [Cut6, Pat4] at hSw); go_simp; try rfl)
      try simp only [Act.put, List.setIfInBounds_toArray, List.set_cons_zero, List.set_cons_succ]
      obtain ⟨q0, q1, q2, q3⟩ := Pat4.of hrr
      have f0 := frozen_of hrr 0
      have f1 := frozen_of hrr 1
      have f2 := frozen_of hrr 2
      have f3 := frozen_of hrr 3
      refine wpAnyH_ready (rs := [5]) (by kernel_rfl) (by simp) ?_
      refine AllReadyH.cons (ops_at rfl) (fun K hK => ?_) AllReadyH.nil
      go_simp
      have hset2 := sets4 (show w.heap.size + 1 + 1 ≠ w.heap.size + 1 by omega) w1 (.int .i64 v0) (.int .i64 v1) (.int .i64 v2) (.int .i64 v3)
      have hset0 := sets4 (show w.heap.size ≠ w.heap.size + 1 by omega) w1 (.int .i64 v0) (.int .i64 v1) (.int .i64 v2) (.int .i64 v3)
      refine hK.out _ _ ⟨below_set4 hk.1 (by omega) _ _ _ _, hk.2.1.keep hset0, hk.2.2.keep hset2, v0, v1, v2, v3, set4_heap hrr _ _ _ _⟩ (fun hHs => ?_)
      clear hK K
      refine wpAnyH_take (i := 6) (v := ?_) (ops_at rfl) (by kernel_rfl) (by kernel_rfl) (by kernel_rfl) (fun _ _ _ h => h) (Or.inl ⟨by rfl, ?ys6⟩) (by assumption) ?ns6
      case ys6 => (intro wS hSw; (try dsimp only [Cut6, Pat4] at hSw); go_simp; try rfl)
      try simp only [Act.put, List.setIfInBounds_toArray, List.set_cons_zero, List.set_cons_succ]
      refine wpAnyH_done (by kernel_rfl) ?_ _
      go_wp2
      refine bodyPost_ret (v := .tuple #[.agg #[.int .i64 v0, .int .i64 v1, .int .i64 v2, .int .i64 v3], .bool (decide (t ≤ rod))]) (by simp [results, Try.results51, go_sem, q0, q1, q2, q3]) rfl ⟨v0, v1, v2, v3, fun _ => HV.out, by rw [HPE.out], hHs.1⟩

theorem patternOf_any (p : Bool) (hp : patB rod zs ps = p) :
    Calls Try.prog 51 #[.agg #[.int .i64 rod, .slice A n c, .int .i64 m0, .int .i64 m1, .int .i64 m2, .int .i64 m3], .slice D m d] w (RetPat p ps w) := by
  rw [← hp]
  by_cases hne : m = n
  · exact patternOf_eq rod A D n c m d m0 m1 m2 m3 zs ps lo hi lo' hi' w hn hs hB hm hm2 ho hB' hq hms hne
  · exact patternOf_ne rod A D n c m d m0 m1 m2 m3 zs ps w hn hm hne
end
end Go.Proofs.Ythlhpddfifpkeaa

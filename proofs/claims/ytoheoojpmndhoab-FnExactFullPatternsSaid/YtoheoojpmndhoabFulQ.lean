/-
  The written program's FullPatterns.
  Conditions: the list has at most 1048576 numbers.
-/
import Derived.Test.YtoheoojpmndhoabFulP
namespace Go.Proofs.Ytoheoojpmndhoab
set_option linter.unusedVariables false
set_option linter.unusedSimpArgs false
open Go.RowKit

set_option maxHeartbeats 1000000 in
theorem walk_full (rod : Int) (A : Option Addr) (n c : Nat) (m0 m1 m2 m3 : Int) (zs : List Int) (lo hi C B T base : Nat) (w : World) (hn : zs.length = n) (hn1 : 1 ≤ n) (h4 : n ≤ 4) (hs : Seg w lo hi A zs) (hB : hi ≤ w.heap.size) (hz : ∀ (k : Nat) u, zs[k]? = some u → 1 ≤ u ∧ u ≤ 60) (hr : 1 ≤ rod ∧ rod ≤ 60)
    (hms : ∀ (k : Nat) z, zs[k]? = some z → [m0, m1, m2, m3][k]? = some (rod / z)) (hC : w.heap[C]? = some (.cells #[.int .i64 rod, .slice A n c, .int .i64 m0, .int .i64 m1, .int .i64 m2, .int .i64 m3] 40 (0, 0))) (hL : Lst w B T base (fun _ => False) []) (hiB : hi ≤ B) (hCB : C ≠ B) (hCb : C < base) (hlen : (fullsF rod zs).length ≤ 14641) :
    Calls Try.prog 30 #[.agg #[.int .i64 rod, .slice A n c, .int .i64 m0, .int .i64 m1, .int .i64 m2, .int .i64 m3], .func (.func 31) #[] #[.pointer (some ⟨C, 0, none⟩), .pointer (some ⟨B, 0, none⟩)]] w (RetF B T base (fun _ => False) (fullsF rod zs) w) := by
  have hbl := (Below.refl w.heap.size w).alloc (Nat.le_refl _) (.cells #[.int .i64 rod, .slice A n c, .int .i64 m0, .int .i64 m1, .int .i64 m2, .int .i64 m3] 40)
  obtain ⟨q0, q1, q2, q3, q4, q5⟩ := Cut6.of (w := w.alloc (.cells #[.int .i64 rod, .slice A n c, .int .i64 m0, .int .i64 m1, .int .i64 m2, .int .i64 m3] 40)) (g := w.heap.size) (new_at _ _ rfl)
  obtain ⟨W, hW⟩ : ∃ W, w.alloc (.cells #[.int .i64 rod, .slice A n c, .int .i64 m0, .int .i64 m1, .int .i64 m2, .int .i64 m3] 40) = W := ⟨_, rfl⟩
  rw [hW] at hbl q0 q1 q2 q3 q4 q5
  have HL0 := Lib.hid (hL.below hbl)
  have HC0 := Lib.hid ((hbl.block C (heap_lt hC)).trans hC)
  have HS := Lib.hid (hs.below hbl hB)
  have HON := Lib.hid (Only.of_below (S := FarX B base (fun _ => False)) hbl (Nat.le_refl _))
  have HN := Lib.hid hn
  have HZ := Lib.hid hz
  have HMS := Lib.hid hms
  have HV := Lib.hid (show lookF (zs.getD 0 0) (zs.drop 0) (([0, 0, 0, 0] : List Int).take 0) (rod - 0) = fullsF rod zs by
    rw [Int.sub_zero]; rfl)
  have HLEN := Lib.hid hlen
  clear hL hC hbl hs hn hz hms hlen
  go_enter Try.func30, Try.ntmps30
  go_wp2_with fail
  refine (walkOn_full rod A n c m0 m1 m2 m3 zs lo hi C B T base HN.out hn1 h4 HZ.out hr HMS.out hiB hCB hCb n 0 0 0 0 0 0 (fun _ => False) [] W (by omega) HS.out (fun i u h => zeros_atF h) (usedTo_zerosF zs n) (by omega) (fun i _ h => zeros_getF h) HC0.out HL0.out (fun p h => h.elim) (by rw [HV.out, List.length_nil, Nat.zero_add]; exact Nat.le_trans HLEN.out (by omega))).mono ?_
  rw [HV.out, List.nil_append]
  rintro e w1 ⟨rfl, hl1, ho1⟩
  have HL1 := Lib.hid hl1
  have HO1 := Lib.hid (HON.out.trans ho1)
  clear hl1 ho1 hW
  go_wp2
  go_end0
  exact ⟨rfl, HL1.out, HO1.out⟩

section
variable (rod : Int) (A : Option Addr) (n c : Nat) (zs : List Int) (lo hi : Nat) (w : World) (hn : zs.length = n) (hlen : n ≤ 1048576) (hs : Seg w lo hi A zs) (hB : hi ≤ w.heap.size)
include hn hlen hs hB

set_option maxRecDepth 100000 in
set_option maxHeartbeats 2000000 in
theorem impl_FullPatterns (q : Bool) (hq : fullB rod zs = q) :
    Calls Try.prog 17 #[.int .i64 rod, .slice A n c] w (RetSSF q (someSSF q (fullsF rod zs)) w) := by
  have HN := Lib.hid hn
  cases hrb : rodB rod zs
  · obtain rfl : q = false := by rw [← hq, fullB, hrb, Bool.false_and]
    have HQ := Lib.hid hrb
    clear hn hq hrb
    go_enter Try.func17, Try.ntmps17
    go_wp2_with fail
    refine (cuttingOf_no rod A n c zs lo hi _ HN.out hlen hs hB HQ.out).mono ?_
    rintro e w1 ⟨rfl, hb1⟩
    have HB1 := Lib.hid hb1
    clear hb1
    go_wp2
    go_ret2
    exact ⟨none, 0, 0, rfl, rfl, .inl rfl, HB1.out.alloc HB1.out.size _⟩
  · obtain ⟨hr, hl⟩ := rodB_true.1 hrb
    obtain ⟨h1, h4, hz⟩ := lensB_at hl
    rw [hn] at h1 h4
    obtain ⟨bz, oz, z0, rfl, _, hbz, hx0, hcz⟩ := hs.at_ (k := 0) (by omega)
    have hcz0 : w.cell? ⟨bz, oz, none⟩ = some (.int .i64 z0) := hcz
    have e0 : zs.getD 0 0 = z0 := by simp [List.getD, hx0]
    have hzb := hz 0 z0 hx0
    have hQ3 : q = (decide (3 ≤ z0) && decide (rod ≤ 10 * z0)) := by rw [← hq, fullB, hrb, Bool.true_and, e0]
    have HRB := Lib.hid hrb
    have HZ := Lib.hid hz
    have HF := Lib.hid (fun h : q = true => fulls_len (by rw [hq, h] : fullB rod zs = true))
    have hn0 : (0 : Int) < (n : Int) := by omega
    have hwm : IntKind.i64.wrap (10 * z0) = 10 * z0 := IntWalk.i64_in _ (by omega)
    have HCZ := Lib.hid hcz0
    clear hn hq hrb hx0 hcz hl hz hcz0
    go_enter Try.func17, Try.ntmps17
    go_wp2_with fail
    refine (cuttingOf_yes rod (some ⟨bz, oz, none⟩) n c zs lo hi _ HN.out hlen hs hB HRB.out).mono ?_
    rintro e w1 ⟨m0, m1, m2, m3, hm, rfl, hb1⟩
    have HMS := Lib.hid (show ∀ (k : Nat) z, zs[k]? = some z → [m0, m1, m2, m3][k]? = some (rod / z) by
      intro k z hk
      have hk4 : k < 4 := by have := (List.getElem?_eq_some_iff.1 hk).1; have := HN.out; omega
      rw [← hm, pad4_get _ hk4]
      simp [List.getD, mostL_at hk])
    have hz1 := hb1.size
    obtain ⟨W, hW⟩ : ∃ W, w1.alloc (.cells #[.int .i64 rod, .slice (some ⟨bz, oz, none⟩) n c, .int .i64 m0, .int .i64 m1, .int .i64 m2, .int .i64 m3] 40) = W := ⟨_, rfl⟩
    have hb0 : Below w1.heap.size w1 W := by rw [← hW]; exact (Below.refl _ _).alloc (Nat.le_refl _) _
    have hWs : W.heap.size = w1.heap.size + 1 := by rw [← hW]; simp
    have hCx : W.heap[w1.heap.size]? = some (.cells #[.int .i64 rod, .slice (some ⟨bz, oz, none⟩) n c, .int .i64 m0, .int .i64 m1, .int .i64 m2, .int .i64 m3] 40 (0, 0)) := by rw [← hW]; exact new_at _ _ rfl
    have hB1 := hb1.trans (hb0.mono hz1)
    have hcz1 : W.cell? ⟨bz, oz, none⟩ = some (.int .i64 z0) := (hB1.cell (by exact Nat.lt_of_lt_of_le hbz hB)).trans HCZ.out
    have HB1 := Lib.hid hB1
    have HW := Lib.hid hW
    have HCX := Lib.hid hCx
    clear hb1 hm hW hB1 hb0 hCx
    go_upto_region 2 with (fail)
    rw [HW.out]
    by_cases c1 : z0 < 3
    · obtain rfl : q = false := by rw [hQ3, decide_eq_false (by omega), Bool.false_and]
      have d1 : decide (z0 < 3) = true := decide_eq_true c1
      clear hQ3 HF e0
      go_wp2
      go_ret2
      exact ⟨none, 0, 0, rfl, rfl, .inl rfl, HB1.out⟩
    by_cases c2 : 10 * z0 < rod
    · obtain rfl : q = false := by rw [hQ3, decide_eq_false (show ¬ rod ≤ 10 * z0 by omega), Bool.and_false]
      have d1 : decide (z0 < 3) = false := decide_eq_false c1
      have d2 : decide (10 * z0 < rod) = true := decide_eq_true c2
      clear hQ3 HF e0
      go_wp2
      go_ret2
      exact ⟨none, 0, 0, rfl, rfl, .inl rfl, HB1.out⟩
    · obtain rfl : q = true := by rw [hQ3, decide_eq_true (show 3 ≤ z0 by omega), decide_eq_true (show rod ≤ 10 * z0 by omega)]; rfl
      have d1 : decide (z0 < 3) = false := decide_eq_false c1
      have d2 : decide (10 * z0 < rod) = false := decide_eq_false c2
      obtain ⟨V, hV⟩ : ∃ V, W.alloc (.cells #[.slice none 0 0] 23) = V := ⟨_, rfl⟩
      have hbV : Below W.heap.size W V := by rw [← hV]; exact (Below.refl _ _).alloc (Nat.le_refl _) _
      have hVs : V.heap.size = W.heap.size + 1 := by rw [← hV]; simp
      have hBx : V.heap[w1.heap.size + 1]? = some (.cells #[.slice none 0 0] 23 (0, 0)) := by rw [← hV]; exact new_at _ _ hWs.symm
      have HL0 := Lib.hid (show Lst V (w1.heap.size + 1) 23 V.heap.size (fun _ => False) [] from
        ⟨_, [], hBx, Rws.nil_ _ _, by omega, Nat.le_refl _, fun p h => h.elim, AscF.nil_, UpF.nil_ _⟩)
      have hCV := (hbV.block _ (heap_lt HCX.out)).trans HCX.out
      have HBV := Lib.hid (HB1.out.trans (hbV.mono HB1.out.size))
      have HLEN := Lib.hid (HF.out rfl)
      have HV := Lib.hid hV
      obtain ⟨q0, q1, q2, q3, q4, q5⟩ := Cut6.of hCV
      have HCV := Lib.hid hCV
      have hCVl := heap_lt hCV
      have hzw := HB1.out.size
      clear hQ3 HF hbV hBx hV e0 hCV
      go_upto_region 4 with (fail)
      go_upto_region 5 with (fail)
      rw [HV.out]
      go_wp2_with fail
      refine (walk_full rod (some ⟨bz, oz, none⟩) n c m0 m1 m2 m3 zs lo hi w1.heap.size (w1.heap.size + 1) 23 V.heap.size V HN.out h1 h4 (hs.below HBV.out hB) (by omega) HZ.out hr HMS.out HCV.out HL0.out (by omega) (by omega) (by omega) HLEN.out).mono ?_
      rintro e w2 ⟨rfl, hl2, ho2⟩
      obtain ⟨v, vs, k1, k2, k3, k4, k5, k6, k7⟩ := hl2
      obtain ⟨Av, cv, rfl⟩ := k2.form
      have hne := rws_nestF k2 k6
      have c0 := cell_of k1 0
      simp only [List.getElem?_toArray, List.getElem?_cons_zero, List.getElem?_cons_succ] at c0
      have HNE := Lib.hid hne
      have HB2 := Lib.hid (HBV.out.trans (ho2.below (by omega) (fun g hg => by rcases hg with h | h <;> omega)))
      clear k1 k2 k5 k6 k7 ho2 hne q0 q1 q2 q3 q4 q5
      go_wp2
      go_ret2
      exact ⟨Av, _, cv, rfl, rfl, by simpa [someSSF] using HNE.out.more (by omega) (Nat.le_refl _), HB2.out⟩
end
end Go.Proofs.Ytoheoojpmndhoab

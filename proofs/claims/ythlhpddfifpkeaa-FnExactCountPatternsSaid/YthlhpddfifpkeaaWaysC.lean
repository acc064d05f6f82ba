/-
  The written program's CountPatterns.
  Conditions: the list has at most 1048576 numbers.
-/
import Derived.Test.YthlhpddfifpkeaaWaysW
namespace Go.Proofs.Ythlhpddfifpkeaa
set_option linter.unusedVariables false
open Go.RowKit

theorem usedTo_zeros (zs : List Int) (k : Nat) : usedTo zs [0, 0, 0, 0] k = 0 := by
  induction k with
  | zero => rfl
  | succ k ih =>
    have e : ([0, 0, 0, 0] : List Int).getD k 0 = 0 := by
      match k with
      | 0 => rfl
      | 1 => rfl
      | 2 => rfl
      | 3 => rfl
      | k + 4 => rfl
    simp only [usedTo]
    rw [ih, e, Int.zero_mul]
    rfl

theorem zeros_at {i : Nat} {u : Int} (h : ([0, 0, 0, 0] : List Int)[i]? = some u) : 0 ≤ u ∧ u ≤ 60 := by
  match i, h with
  | 0, h => simp at h; omega
  | 1, h => simp at h; omega
  | 2, h => simp at h; omega
  | 3, h => simp at h; omega

theorem zeros_get {i : Nat} (h : i < 4) : ([0, 0, 0, 0] : List Int)[i]? = some 0 := by
  match i, h with
  | 0, _ => rfl
  | 1, _ => rfl
  | 2, _ => rfl
  | 3, _ => rfl

set_option maxHeartbeats 1000000 in
theorem walk_count (rod : Int) (A : Option Addr) (n c : Nat) (m0 m1 m2 m3 : Int) (zs : List Int) (lo hi : Nat) (w : World) (hn : zs.length = n) (h4 : n ≤ 4) (hs : Seg w lo hi A zs) (hB : hi ≤ w.heap.size) (hz : ∀ (k : Nat) u, zs[k]? = some u → 1 ≤ u ∧ u ≤ 60) (hr : 1 ≤ rod ∧ rod ≤ 60)
    (hms : ∀ (k : Nat) z, zs[k]? = some z → [m0, m1, m2, m3][k]? = some (rod / z)) (B T : Nat) (hb : w.heap[B]? = some (.cells #[.int .i64 0] T (0, 0))) (hiB : hi ≤ B) (v : Int) (hv : manyP zs rod = v) (hv2 : v ≤ 13845841) :
    Calls Try.prog 65 #[.agg #[.int .i64 rod, .slice A n c, .int .i64 m0, .int .i64 m1, .int .i64 m2, .int .i64 m3], .func (.func 66) #[] #[.pointer (some ⟨B, 0, none⟩)]] w (RetN v B T w) := by
  have hb0 := (alloc_old w (heap_lt hb) (.cells #[.int .i64 rod, .slice A n c, .int .i64 m0, .int .i64 m1, .int .i64 m2, .int .i64 m3] 48)).trans hb
  have hbl := (Below.refl w.heap.size w).alloc (Nat.le_refl _) (.cells #[.int .i64 rod, .slice A n c, .int .i64 m0, .int .i64 m1, .int .i64 m2, .int .i64 m3] 48)
  have hon := (Only.refl (fun b => b = B) w).alloc (.cells #[.int .i64 rod, .slice A n c, .int .i64 m0, .int .i64 m1, .int .i64 m2, .int .i64 m3] 48)
  obtain ⟨q0, q1, q2, q3, q4, q5⟩ := Cut6.of (w := w.alloc (.cells #[.int .i64 rod, .slice A n c, .int .i64 m0, .int .i64 m1, .int .i64 m2, .int .i64 m3] 48)) (g := w.heap.size) (new_at _ _ rfl)
  obtain ⟨W, hW⟩ : ∃ W, w.alloc (.cells #[.int .i64 rod, .slice A n c, .int .i64 m0, .int .i64 m1, .int .i64 m2, .int .i64 m3] 48) = W := ⟨_, rfl⟩
  rw [hW] at hb0 hbl hon q0 q1 q2 q3 q4 q5
  have HB0 := Lib.hid hb0
  have HBL := Lib.hid hbl
  have HON := Lib.hid hon
  have HN := Lib.hid hn
  have HZ := Lib.hid hz
  have HMS := Lib.hid hms
  have HV := Lib.hid (show (0 : Int) + cntG (fun _ => 1) ((zs.drop 0).map Int.toNat) (rod - 0).toNat = v by
    rw [← hv, Int.zero_add, Int.sub_zero]; rfl)
  clear hb hb0 hbl hon hn hz hms hv
  go_enter Try.func65, Try.ntmps65
  go_wp2_with fail
  refine (walkOn_count rod A n c m0 m1 m2 m3 zs lo hi HN.out h4 HZ.out hr HMS.out n 0 0 0 0 0 0 0 B T W (by omega) (hs.below HBL.out hB) (by have := HBL.out.size; omega) (fun i u h => zeros_at h) (usedTo_zeros zs n) (by omega) (fun i _ h => zeros_get h) HB0.out hiB (Int.le_refl 0) (by rw [HV.out]; exact hv2)).mono ?_
  rw [HV.out]
  rintro e w1 ⟨rfl, hb1, ho1⟩
  have HB1 := Lib.hid hb1
  have HO1 := Lib.hid (HON.out.trans ho1)
  clear hb1 ho1 hW
  go_wp2
  go_end0
  exact ⟨rfl, HB1.out, HO1.out⟩

set_option maxHeartbeats 1000000 in
theorem impl_CountPatterns (rod : Int) (A : Option Addr) (n c : Nat) (zs : List Int) (lo hi : Nat) (w : World) (hn : zs.length = n) (hlen : n ≤ 1048576) (hs : Seg w lo hi A zs) (hB : hi ≤ w.heap.size) (q : Bool) (hq : rodB rod zs = q) (v : Int) (hv : manyP zs rod = v) :
    Calls Try.prog 32 #[.int .i64 rod, .slice A n c] w (RetI (numP q v) q w) := by
  have HN := Lib.hid hn
  have HQ := Lib.hid hq
  cases q
  · clear hn hq hv
    go_enter Try.func32, Try.ntmps32
    go_wp2_with fail
    refine (cuttingOf_no rod A n c zs lo hi _ HN.out hlen hs hB HQ.out).mono ?_
    rintro e w1 ⟨rfl, hb1⟩
    have HB1 := Lib.hid hb1
    clear hb1
    go_wp2
    go_ret2
    exact ⟨rfl, HB1.out.alloc HB1.out.size _⟩
  · obtain ⟨hr, hl⟩ := rodB_true.1 hq
    obtain ⟨h1, h4, hz⟩ := lensB_at hl
    rw [hn] at h1 h4
    have hv2 : v ≤ 13845841 := by
      rw [← hv]
      refine (cnt_bd _ ?_ (by rw [List.length_map, hn]; exact h4) _ (by omega)).2
      intro x hx
      obtain ⟨u, hu, rfl⟩ := List.mem_map.1 hx
      obtain ⟨i, hi⟩ := List.getElem?_of_mem hu
      have := hz i u hi
      omega
    have HV := Lib.hid hv
    have HZ := Lib.hid hz
    clear hn hq hv hz hl
    go_enter Try.func32, Try.ntmps32
    go_wp2_with fail
    refine (cuttingOf_yes rod A n c zs lo hi _ HN.out hlen hs hB HQ.out).mono ?_
    rintro e w1 ⟨m0, m1, m2, m3, hm, rfl, hb1⟩
    have HMS := Lib.hid (show ∀ (k : Nat) z, zs[k]? = some z → [m0, m1, m2, m3][k]? = some (rod / z) by
      intro k z hk
      have hk4 : k < 4 := by have := (List.getElem?_eq_some_iff.1 hk).1; have := HN.out; omega
      rw [← hm, pad4_get _ hk4]
      simp [List.getD, mostL_at hk])
    have HB1 := Lib.hid hb1
    clear hb1 hm
    go_wp2_with fail
    have HBX := Lib.hid ((HB1.out.alloc HB1.out.size (.cells #[.int .i64 rod, .slice A n c, .int .i64 m0, .int .i64 m1, .int .i64 m2, .int .i64 m3] 48)).alloc (by rw [World.size_alloc]; exact Nat.le_succ_of_le HB1.out.size) (.cells #[.int .i64 0] 3))
    have HS1 := Lib.hid HB1.out.size
    refine (walk_count rod A n c m0 m1 m2 m3 zs lo hi _ HN.out h4 (hs.below HBX.out hB) (Nat.le_trans hB HBX.out.size) HZ.out hr HMS.out (w1.heap.size + 1) 3 (new_at _ _ (by rw [World.size_alloc])) (by have := HS1.out; omega) v HV.out hv2).mono ?_
    rintro e w2 ⟨rfl, hb2, ho2⟩
    have hcl : w2.cell? ⟨w1.heap.size + 1, 0, none⟩ = some (.int .i64 v) := by rw [cell_of hb2]; rfl
    have HB2 := Lib.hid (HBX.out.trans (ho2.below HBX.out.size (fun k hk => by have h : k = w1.heap.size + 1 := hk; have := HS1.out; omega)))
    clear hb2 ho2
    go_wp2
    go_ret2
    exact ⟨rfl, HB2.out⟩
end Go.Proofs.Ythlhpddfifpkeaa

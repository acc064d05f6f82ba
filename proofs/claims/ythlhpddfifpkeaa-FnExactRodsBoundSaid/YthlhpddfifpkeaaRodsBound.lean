/-
  Both programs' RodsBound.
  Conditions: the lists have at most 1048576 numbers.
-/
import Derived.Test.YthlhpddfifpkeaaOrdOf
namespace Go.Proofs.Ythlhpddfifpkeaa
set_option linter.unusedVariables false
open Go.RowKit

/-- What is known of orders. -/
theorem ordersB_at {rod : Int} {zs cs : List Int} {n m : Nat} (hn : zs.length = n) (hm : cs.length = m) (h : ordersB rod zs cs = true) (v : Int) (hv : usedTo zs cs m = v) :
    m = n ∧ n ≤ 4 ∧ 1 ≤ n ∧ (1 ≤ rod ∧ rod ≤ 60) ∧ (∀ (k : Nat) u, zs[k]? = some u → 1 ≤ u ∧ u ≤ 60) ∧ (∀ (k : Nat) u, cs[k]? = some u → 0 ≤ u ∧ u ≤ 60) ∧ 0 ≤ v ∧ v ≤ 14400 := by
  simp only [ordersB, Bool.and_eq_true, decide_eq_true_iff] at h
  obtain ⟨h1, h2, h3, h4, h5⟩ := h
  obtain ⟨h6, h7⟩ := rodB_true.1 h1
  obtain ⟨h8, h9, h10⟩ := lensB_at h7
  have h11 : ∀ (k : Nat) u, cs[k]? = some u → 0 ≤ u ∧ u ≤ 60 := fun k u hu => by have := someB_at h2 k u hu; omega
  have h12 := usedTo_bd h10 h11 m
  rw [hv] at h12
  refine ⟨by omega, by omega, by omega, h6, h10, h11, h12.1, by omega⟩

theorem bound_wrap {v rod : Int} (h1 : 0 ≤ v) (h2 : v ≤ 14400) (hr : 1 ≤ rod ∧ rod ≤ 60) : IntKind.i64.wrap ((v + rod - 1).tdiv rod) = (v + rod - 1) / rod ∧ 0 ≤ (v + rod - 1) / rod ∧ (v + rod - 1) / rod ≤ 14460 := by
  have h3 : 0 ≤ v + rod - 1 := by omega
  have h4 : 0 ≤ (v + rod - 1) / rod := Int.ediv_nonneg h3 (by omega)
  have h5 : (v + rod - 1) / rod ≤ v + rod - 1 := Int.ediv_le_self _ h3
  refine ⟨?_, h4, by omega⟩
  rw [Int.tdiv_eq_ediv_of_nonneg h3]
  exact IntWalk.i64_in _ (by omega)

section
variable (rod : Int) (A D : Option Addr) (n c m d : Nat) (zs cs : List Int) (lo hi lo' hi' : Nat) (w : World) (hn : zs.length = n) (hlen : n ≤ 1048576) (hm : cs.length = m) (hm2 : m ≤ 1048576) (hs : Seg w lo hi A zs) (ho : Seg w lo' hi' D cs)
include hn hlen hm hm2 hs ho

set_option maxHeartbeats 1000000 in
theorem spec_RodsBound (q : Bool) (hq : ordersB rod zs cs = q) (v : Int) (hv : usedTo zs cs m = v) :
    Calls Try.prog 29 #[.int .i64 rod, .slice A n c, .slice D m d] w (RetI (numQ q ((v + rod - 1) / rod)) q w) := by
  have HN := Lib.hid hn
  have HM := Lib.hid hm
  have HQ := Lib.hid hq
  cases q
  · clear hn hm hq hv
    go_enter Try.func29, Try.ntmps29
    go_wp2_with (go_at_call 62; refine (rdOrders_any _ _ _ _ _ _ _ zs cs lo hi lo' hi' _ HN.out hlen HM.out hm2 hs ho _ HQ.out).mono ?_; rintro e w' ⟨rfl, rfl⟩)
    go_ret2
    exact ⟨rfl, Below.refl _ _⟩
  · obtain ⟨e, h4, h1, hr, hz, hp, hv0, hv1⟩ := ordersB_at hn hm hq v hv
    have HE := Lib.hid (Nat.le_of_eq e)
    have HV := Lib.hid hv
    obtain ⟨hw1, hw2, hw3⟩ := bound_wrap hv0 hv1 hr
    have HW := Lib.hid hw1
    have hrne : (rod == 0) = false := by rw [beq_eq_false_iff_ne]; omega
    clear hn hm hq hv e hw1
    go_enter Try.func29, Try.ntmps29
    go_wp2_with (first
      | (go_at_call 62; refine (rdOrders_any _ _ _ _ _ _ _ zs cs lo hi lo' hi' _ HN.out hlen HM.out hm2 hs ho _ HQ.out).mono ?_; rintro e w' ⟨rfl, rfl⟩)
      | (go_at_call 53; refine (rdUsed_any _ _ _ _ _ _ zs cs lo hi lo' hi' _ HN.out HM.out HE.out h4 hs ho hz hp _ HV.out).mono ?_; rintro e w' ⟨rfl, rfl⟩))
    go_ret2
    exact ⟨rfl, Below.refl _ _⟩

set_option maxHeartbeats 1000000 in
theorem impl_RodsBound (hB : hi ≤ w.heap.size) (hB' : hi' ≤ w.heap.size) (q : Bool) (hq : ordersB rod zs cs = q) (v : Int) (hv : usedTo zs cs m = v) :
    Calls Try.prog 30 #[.int .i64 rod, .slice A n c, .slice D m d] w (RetI (numQ q ((v + rod - 1) / rod)) q w) := by
  have HN := Lib.hid hn
  have HM := Lib.hid hm
  have HQ := Lib.hid hq
  cases q
  · clear hn hm hq hv
    go_enter Try.func30, Try.ntmps30
    go_wp2_with fail
    refine (orderedOf_any rod A D n c m d zs cs lo hi lo' hi' _ HN.out hlen HM.out hm2 hs ho hB hB' _ HQ.out).mono ?_
    rintro e w1 ⟨r, A', n', c', m0, m1, m2, m3, hx, rfl, hb1⟩
    clear hx
    have HB1 := Lib.hid (hb1.alloc hb1.size (.cells #[.int .i64 r, .slice A' n' c', .int .i64 m0, .int .i64 m1, .int .i64 m2, .int .i64 m3] 48))
    clear hb1
    go_wp2
    go_ret2
    exact ⟨rfl, HB1.out⟩
  · obtain ⟨e, h4, h1, hr, hz, hp, hv0, hv1⟩ := ordersB_at hn hm hq v hv
    have HE := Lib.hid e
    have HV := Lib.hid hv
    have HZ := Lib.hid hz
    have HP := Lib.hid hp
    obtain ⟨hw1, hw2, hw3⟩ := bound_wrap hv0 hv1 hr
    have HW := Lib.hid hw1
    have hrne : (rod == 0) = false := by rw [beq_eq_false_iff_ne]; omega
    clear hn hm hq hv e hw1 hz hp
    go_enter Try.func30, Try.ntmps30
    go_wp2_with fail
    refine (orderedOf_any rod A D n c m d zs cs lo hi lo' hi' _ HN.out hlen HM.out hm2 hs ho hB hB' _ HQ.out).mono ?_
    rintro e w1 ⟨r, A', n', c', m0, m1, m2, m3, hx, rfl, hb1⟩
    obtain ⟨rfl, rfl, rfl, rfl, hpad⟩ := hx rfl
    have hB2 := hb1.alloc hb1.size (.cells #[.int .i64 r, .slice A' n' c', .int .i64 m0, .int .i64 m1, .int .i64 m2, .int .i64 m3] 48)
    obtain ⟨c0, c1, c2, c3, c4, c5⟩ := Cut6.of (new_at w1 (.cells #[.int .i64 r, .slice A' n' c', .int .i64 m0, .int .i64 m1, .int .i64 m2, .int .i64 m3] 48) rfl)
    have hused : Hid (usedTo zs [m0, m1, m2, m3] n' = v) := by
      have : usedTo zs [m0, m1, m2, m3] n' = v := by rw [← hpad, usedTo_pad _ _ h4, ← HE.out]; exact HV.out
      exact Lib.hid this
    have hv60 : Hid (∀ (j : Nat) u, [m0, m1, m2, m3][j]? = some u → 0 ≤ u ∧ u ≤ 60) := by
      refine Lib.hid fun j u hu => ?_
      rw [← hpad] at hu
      have hj : j < 4 := (List.getElem?_eq_some_iff.1 hu).1
      rw [pad4_get _ hj] at hu
      injection hu with hu
      subst hu
      rcases hh : cs[j]? with _ | x
      · simp [List.getD, hh]
      · have := HP.out j x hh; simp [List.getD, hh]; omega
    have HB2 := Lib.hid hB2
    clear hx hpad hb1 hB2
    go_wp2_with fail
    refine (lengthOf_any r A' n' c' m0 m1 m2 m3 m0 m1 m2 m3 zs lo hi _ HN.out h4 (hs.below HB2.out hB) (Nat.le_trans hB HB2.out.size) HZ.out hv60.out _ hused.out).mono ?_
    rintro e w2 ⟨rfl, hb2⟩
    have HB3 := Lib.hid (HB2.out.trans (hb2.mono HB2.out.size))
    clear hb2 c0 c1 c2 c3 c4 c5 HB2
    go_wp2
    go_ret2
    exact ⟨rfl, HB3.out⟩
end
end Go.Proofs.Ythlhpddfifpkeaa

/-
  What the written program answers of the boxes in a box.
  Conditions: the lists have at most 1048576 elements.
-/
import Derived.Test.YtjhgpbpincikiaaContW
import Derived.Test.YtjhgpbpincikiaaSomeN
namespace Go.Proofs.Ytjhgpbpincikiaa
set_option linter.unusedVariables false
open Go.RowKit Go.Maps

set_option maxRecDepth 100000 in
set_option maxHeartbeats 1000000 in
theorem impl_ContentsOf (A B : Option Addr) (n c m d : Nat) (bs : List (Int × Int × Int)) (plan : List Int) (k : Int) (lo hi lo' hi' : Nat) (w : World) (hn : bs.length = n) (hlen : n ≤ 1048576) (hmd : m ≤ d) (hm : plan.length = m) (hm2 : m ≤ 1048576)
    (hs : Seg w lo hi A (flat3 bs)) (hB : hi ≤ w.heap.size) (hp : Seg w lo' hi' B plan) (hBp : hi' ≤ w.heap.size) (q : Bool) (hq : contB bs plan k = q) :
    Calls Try.prog 28 #[.slice A n c, .slice B m d, .int .i64 k] w (RetL q (someN q (contL plan k)) w) := by
  have HN := Lib.hid hn
  have HM := Lib.hid hm
  obtain ⟨q1, hq1⟩ : ∃ q1, bothN bs plan = q1 := ⟨_, rfl⟩
  obtain ⟨q2, hq2⟩ : ∃ q2, inB k 0 ((n : Int) - 1) = q2 := ⟨_, rfl⟩
  rw [contB, hn, hq1, hq2] at hq
  have HQ := Lib.hid hq1
  have HQ2 := Lib.hid hq2
  cases q1
  · obtain rfl : q = false := hq.symm
    clear hn hm hq1 hq2
    go_enter Try.func28, Try.ntmps28
    go_wp2_with fail
    refine (isNestingOf_any _ _ _ _ _ _ bs plan lo hi lo' hi' _ HN.out hlen hs hB HM.out hm2 hp hBp _ HQ.out).mono ?_
    rintro e w1 ⟨rfl, hb1⟩
    go_wp2
    go_ret2
    exact ⟨none, 0, 0, rfl, rfl, Own.nil_, hb1⟩
  have hln : n ≤ 7 := by rw [← hn]; exact (goodN_at (bothN_at hq1).1).2.1
  cases q2
  · obtain rfl : q = false := hq.symm
    clear hn hm hq1 hq2
    go_enter Try.func28, Try.ntmps28
    go_wp2_with fail
    refine (isNestingOf_any _ _ _ _ _ _ bs plan lo hi lo' hi' _ HN.out hlen hs hB HM.out hm2 hp hBp _ HQ.out).mono ?_
    rintro e w1 ⟨rfl, hb1⟩
    go_wp2_with fail
    refine (isBoxNumber_any _ n c k _ _ HQ2.out).mono ?_
    rintro e w2 ⟨rfl, rfl⟩
    go_wp2
    go_ret2
    exact ⟨none, 0, 0, rfl, rfl, Own.nil_, hb1⟩
  obtain rfl : q = true := hq.symm
  have hpb : plan.length = bs.length := (bothN_at hq1).2.1
  obtain ⟨kn, rfl⟩ : ∃ kn : Nat, k = (kn : Int) := ⟨k.toNat, by have := of_decide_eq_true hq2; omega⟩
  have hkl : kn < plan.length := by have := of_decide_eq_true hq2; omega
  have HW0 := Lib.hid (in_start hq1 hkl)
  have HTL := Lib.hid (contL_length plan (kn : Int))
  obtain ⟨tot, htot⟩ : ∃ tot, contL plan (kn : Int) = tot := ⟨_, rfl⟩
  rw [htot] at HW0 HTL
  have HTOT := Lib.hid (show someN true (contL plan (kn : Int)) = tot by rw [← htot]; rfl)
  have HIND := Lib.hid (show InD plan [] plan.length (insD plan m) by rw [← hm]; exact insD_in plan _ (Nat.le_refl _))
  have HPB := Lib.hid (show ∀ u ∈ plan, -1 ≤ u ∧ u < 1048576 from fun u hu => by
    obtain ⟨i, hi⟩ := List.getElem?_of_mem hu
    rcases nest_bd hq1 hi with h | ⟨h1, h2, _⟩
    · omega
    · omega)
  clear hn hm hq1 hq2 hpb hkl htot
  go_enter Try.func28, Try.ntmps28
  go_wp2_with fail
  refine (isNestingOf_any _ _ _ _ _ _ bs plan lo hi lo' hi' _ HN.out hlen hs hB HM.out hm2 hp hBp _ HQ.out).mono ?_
  rintro e w1 ⟨rfl, hb1⟩
  have hz1 := hb1.size
  have HB1 := Lib.hid hb1
  have HP1 := Lib.hid (hp.below hb1 hBp)
  clear hb1
  go_wp2_with fail
  refine (isBoxNumber_any _ n c (kn : Int) _ _ HQ2.out).mono ?_
  rintro e w2 ⟨rfl, rfl⟩
  go_wp2_with fail
  refine (boxesInside_any _ m d plan lo' hi' _ HM.out hm2 HP1.out (by omega) HPB.out).mono ?_
  rintro e w3 ⟨rfl, ⟨c3, hc3, hown3⟩, hb3⟩
  have HOW3 := Lib.hid hown3
  have HB3 := Lib.hid hb3
  have hz3 := hb3.size
  have hlt3 := hown3.lt
  clear hown3 hb3
  go_wp2_with fail
  refine (inward_any bs plan tot w1.heap.size c3 (kn : Int) _ w3 HQ.out HTL.out (by omega) hlt3 HW0.out HIND.out HOW3.out).mono ?_
  rintro e w4 ⟨A4, n4, c4, rfl, hl4, hown4, hb4⟩
  have HL4 := Lib.hid hl4
  have HO4 := Lib.hid hown4
  have HB4 := Lib.hid (HB1.out.trans ((HB3.out.trans hb4).mono hz1))
  clear hl4 hown4 hb4
  go_wp2
  go_ret2
  exact ⟨A4, n4, c4, rfl, by rw [HTOT.out]; exact HL4.out, by rw [HTOT.out]; exact HO4.out.more (by omega) (Nat.le_refl _), HB4.out⟩
end Go.Proofs.Ytjhgpbpincikiaa

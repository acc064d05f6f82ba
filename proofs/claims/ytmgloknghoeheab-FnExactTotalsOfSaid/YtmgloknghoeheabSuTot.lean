/-
  What both programs answer of the totals of a list of items.
  Conditions: lists of at most 1048576 items and numbers.
-/
import Derived.Test.YtmgloknghoeheabSuS
import Derived.Test.YtmgloknghoeheabSuI
import Derived.Test.YtmgloknghoeheabSomeN
namespace Go.Proofs.Ytmgloknghoeheab
set_option linter.unusedVariables false
open Go.RowKit

/-- Weight, bulk and value of a list of items. -/
def totI (ts : List (Int × Int × Int)) (ks : List Int) : List Int := [sumF (wI ts) ks, sumF (bI ts) ks, sumF (vI ts) ks]
/-- There are items, and a rising list of them. -/
def totB (ts : List (Int × Int × Int)) (ks : List Int) : Bool := goodI ts && incI ts.length ks

theorem own_three {w : World} {T : Nat} {a b c : Int} : Own (w.alloc (.cells #[.int .i64 a, .int .i64 b, .int .i64 c] T)) w.heap.size (w.alloc (.cells #[.int .i64 a, .int .i64 b, .int .i64 c] T)).heap.size (some ⟨w.heap.size, 0, none⟩) [a, b, c] := by
  refine .inr ⟨w.heap.size, _, T, rfl, Nat.le_refl _, by simp, new_at w _ rfl, fun k hk => ?_⟩
  have hk2 : k < 3 := hk
  match k, hk2 with
  | 0, _ => rfl
  | 1, _ => rfl
  | 2, _ => rfl

set_option maxRecDepth 100000 in
set_option maxHeartbeats 1000000 in
theorem spec_TotalsOf (A A2 : Option Addr) (n c m c2 : Nat) (ts : List (Int × Int × Int)) (ks : List Int) (lo hi lo2 hi2 : Nat) (w : World) (hn : ts.length = n) (hlen : n ≤ 1048576) (hm : ks.length = m) (hlen2 : m ≤ 1048576) (hs : Seg w lo hi A (flat3 ts)) (hB : hi ≤ w.heap.size) (hs2 : Seg w lo2 hi2 A2 ks) (hB2 : hi2 ≤ w.heap.size) (q : Bool) (hq : totB ts ks = q) :
    Calls Try.prog 10 #[.slice A n c, .slice A2 m c2] w (RetL q (someN q (totI ts ks)) w) := by
  have HN := Lib.hid hn
  have HM := Lib.hid hm
  cases hg : goodI ts
  · obtain rfl : q = false := by rw [← hq, totB, hg, Bool.false_and]
    have HG := Lib.hid hg
    clear hn hm hq hg
    go_enter Try.func10, Try.ntmps10
    go_wp2_with fail
    refine (suGood_any A n c ts lo hi _ HN.out hlen hs hB _ HG.out).mono ?_
    rintro e w1 ⟨rfl, hb1⟩
    go_wp2
    go_ret2
    exact ⟨none, 0, 0, rfl, rfl, Own.nil_, hb1⟩
  · have HG := Lib.hid hg
    have HO := Lib.hid (goodI_ok hg)
    have hn10 : n ≤ 10 := by rw [← hn]; exact (goodI_ok hg).len
    have hn1 : 1 ≤ n := by rw [← hn]; exact goodI_one hg
    cases hi : incI ts.length ks
    · obtain rfl : q = false := by rw [← hq, totB, hi, Bool.and_false]
      have HI := Lib.hid (show incI n ks = false by rw [← hn]; exact hi)
      clear hn hm hq hg hi
      go_enter Try.func10, Try.ntmps10
      go_wp2_with fail
      refine (suGood_any A n c ts lo hi _ HN.out hlen hs hB _ HG.out).mono ?_
      rintro e w1 ⟨rfl, hb1⟩
      go_wp2_with fail
      refine (suList_any A A2 n c m c2 ks _ _ _ hn10 hn1 HM.out hlen2 (hs2.below hb1 hB2) _ HI.out).mono ?_
      rintro e w' ⟨rfl, rfl⟩
      go_wp2
      go_ret2
      exact ⟨none, 0, 0, rfl, rfl, Own.nil_, hb1⟩
    · obtain rfl : q = true := by rw [← hq, totB, hg, hi]; rfl
      have HI := Lib.hid (show incI n ks = true by rw [← hn]; exact hi)
      have HST := Lib.hid hi
      clear hn hm hq hg hi
      go_enter Try.func10, Try.ntmps10
      go_wp2_with fail
      refine (suGood_any A n c ts lo hi _ HN.out hlen hs hB _ HG.out).mono ?_
      rintro e w1 ⟨rfl, hb1⟩
      go_wp2_with fail
      refine (suList_any A A2 n c m c2 ks _ _ _ hn10 hn1 HM.out hlen2 (hs2.below hb1 hB2) _ HI.out).mono ?_
      rintro e w' ⟨rfl, rfl⟩
      go_wp2_with fail
      refine (suTotals_any A A2 n c m c2 ts ks _ _ _ _ _ HN.out HO.out HM.out HST.out (hs.below hb1 hB) (hs2.below hb1 hB2)).mono ?_
      rintro e w' ⟨rfl, rfl⟩
      go_wp2
      go_ret2
      exact ⟨_, 3, 3, rfl, rfl, own_three.more hb1.size (Nat.le_refl _), hb1.alloc hb1.size _⟩

set_option maxRecDepth 100000 in
set_option maxHeartbeats 1000000 in
theorem impl_TotalsOf (A A2 : Option Addr) (n c m c2 : Nat) (ts : List (Int × Int × Int)) (ks : List Int) (lo hi lo2 hi2 : Nat) (w : World) (hn : ts.length = n) (hlen : n ≤ 1048576) (hm : ks.length = m) (hlen2 : m ≤ 1048576) (hs : Seg w lo hi A (flat3 ts)) (hB : hi ≤ w.heap.size) (hs2 : Seg w lo2 hi2 A2 ks) (hB2 : hi2 ≤ w.heap.size) (q : Bool) (hq : totB ts ks = q) :
    Calls Try.prog 13 #[.slice A n c, .slice A2 m c2] w (RetL q (someN q (totI ts ks)) w) := by
  have HN := Lib.hid hn
  have HM := Lib.hid hm
  cases hg : goodI ts
  · obtain rfl : q = false := by rw [← hq, totB, hg, Bool.false_and]
    have HG := Lib.hid hg
    clear hn hm hq hg
    go_enter Try.func13, Try.ntmps13
    go_wp2_with fail
    refine (areItems_any A n c ts lo hi _ HN.out hlen hs hB _ HG.out).mono ?_
    rintro e w1 ⟨rfl, hb1⟩
    go_wp2
    go_ret2
    exact ⟨none, 0, 0, rfl, rfl, Own.nil_, hb1⟩
  · have HG := Lib.hid hg
    have HO := Lib.hid (goodI_ok hg)
    have hn10 : n ≤ 10 := by rw [← hn]; exact (goodI_ok hg).len
    cases hi : incI ts.length ks
    · obtain rfl : q = false := by rw [← hq, totB, hi, Bool.and_false]
      have HI := Lib.hid (show incI n ks = false by rw [← hn]; exact hi)
      clear hn hm hq hg hi
      go_enter Try.func13, Try.ntmps13
      go_wp2_with fail
      refine (areItems_any A n c ts lo hi _ HN.out hlen hs hB _ HG.out).mono ?_
      rintro e w1 ⟨rfl, hb1⟩
      go_wp2_with fail
      refine (areIncreasing_any A2 m c2 n ks _ _ _ HM.out hlen2 hn10 (hs2.below hb1 hB2) _ HI.out).mono ?_
      rintro e w' ⟨rfl, rfl⟩
      go_wp2
      go_ret2
      exact ⟨none, 0, 0, rfl, rfl, Own.nil_, hb1⟩
    · obtain rfl : q = true := by rw [← hq, totB, hg, hi]; rfl
      have HI := Lib.hid (show incI n ks = true by rw [← hn]; exact hi)
      have HST := Lib.hid hi
      have hm10 : m ≤ 10 := by have := incI_len hi; omega
      have HPL := Lib.hid (show (pickL ts ks).length = m by rw [pickL_length, hm])
      have HPW := Lib.hid (pick_w ts ks)
      have HPB := Lib.hid (pick_b ts ks)
      have HPV := Lib.hid (pick_v ts ks)
      clear hn hm hq hg hi
      go_enter Try.func13, Try.ntmps13
      go_wp2_with fail
      refine (areItems_any A n c ts lo hi _ HN.out hlen hs hB _ HG.out).mono ?_
      rintro e w1 ⟨rfl, hb1⟩
      have hz1 := hb1.size
      go_wp2_with fail
      refine (areIncreasing_any A2 m c2 n ks _ _ _ HM.out hlen2 hn10 (hs2.below hb1 hB2) _ HI.out).mono ?_
      rintro e w' ⟨rfl, rfl⟩
      go_wp2_with fail
      refine (picked_any A A2 n c m c2 0 0 ts ks _ _ _ _ _ HN.out HO.out HM.out HST.out (hs.below hb1 hB) (by omega) (hs2.below hb1 hB2) (by omega)).mono ?_
      rintro e w2 ⟨A', c', rfl, ho2, hb2⟩
      have HB2 := Lib.hid (hb1.trans (hb2.mono hz1))
      have HO2 := Lib.hid ho2
      clear ho2 hb2
      go_wp2_with fail
      refine (sum_weight A' m c' (pickL ts ks) _ _ _ HPL.out (by rw [HPL.out]; exact hm10) (pickL_ok HO.out ks) HO2.out.seg (Nat.le_refl _)).mono ?_
      rw [HPW.out]
      rintro e w3 ⟨rfl, hb3⟩
      have HB3 := Lib.hid (HB2.out.trans (hb3.mono HB2.out.size))
      have HO3 := Lib.hid (HO2.out.below hb3 (Nat.le_refl _))
      have hz3 := hb3.size
      clear hb3
      go_wp2_with fail
      refine (sum_bulk A' m c' (pickL ts ks) _ _ _ HPL.out (by rw [HPL.out]; exact hm10) (pickL_ok HO.out ks) HO3.out.seg hz3).mono ?_
      rw [HPB.out]
      rintro e w4 ⟨rfl, hb4⟩
      have HB4 := Lib.hid (HB3.out.trans (hb4.mono HB3.out.size))
      have HO4 := Lib.hid (HO3.out.below hb4 hz3)
      have hz4 := hb4.size
      clear hb4
      go_wp2_with fail
      refine (sum_value A' m c' (pickL ts ks) _ _ _ HPL.out (by rw [HPL.out]; exact hm10) (pickL_ok HO.out ks) HO4.out.seg (by omega)).mono ?_
      rw [HPV.out]
      rintro e w5 ⟨rfl, hb5⟩
      have HB5 := Lib.hid (HB4.out.trans (hb5.mono HB4.out.size))
      clear hb5
      go_wp2
      go_ret2
      exact ⟨_, 3, 3, rfl, rfl, own_three.more HB5.out.size (Nat.le_refl _), HB5.out.alloc HB5.out.size _⟩
end Go.Proofs.Ytmgloknghoeheab

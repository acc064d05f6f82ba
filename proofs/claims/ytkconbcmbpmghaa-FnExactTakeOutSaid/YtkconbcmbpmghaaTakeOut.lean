/-
  Both programs' nesting with a box taken out.
  Conditions: the lists have at most 1048576 elements.
-/
import Derived.Test.YtkconbcmbpmghaaOuter
import Derived.Test.YtkconbcmbpmghaaCloneI
namespace Go.Proofs.Ytkconbcmbpmghaa
set_option linter.unusedVariables false
open Go.RowKit

/-- There is a box to take out. -/
def takeB (bs : List (Int × Int × Int)) (plan : List Int) (k : Int) : Bool := bothN bs plan && (inB k 0 ((bs.length : Int) - 1) && decide (k ∈ plan))
def takeN (plan : List Int) (k : Int) : List Int := plan.set (plan.idxOf k) (-1)
theorem takeN_length (plan : List Int) (k : Int) : (takeN plan k).length = plan.length := by simp [takeN]

theorem neInside_any (B : Option Addr) (m d : Nat) (plan : List Int) (v : Int) (lo hi : Nat) (w : World) (hm : plan.length = m) (hm2 : m ≤ 1048576) (hp : Seg w lo hi B plan) :
    Calls Try.prog 66 #[.slice B m d, .int .i64 v] w fun e w' => e = .returned (.int .i64 (placeI plan v)) ∧ w = w' := by
  have HN := Lib.hid hm
  clear hm
  go_enter Try.func66, Try.ntmps66
  go_wp2
  go_loop [9] (fun i => ∃ k : Nat, k ≤ m ∧ i = .int .i64 k ∧ ∀ j, j < k → plan[j]? ≠ some v) (fun i => m - (intOf i).toNat)
  case atStart => exact ⟨0, Nat.zero_le _, rfl, fun j hj => by omega⟩
  case round =>
    obtain ⟨k, hk, rfl, hno⟩ := hrel
    have HO := Lib.hid hno
    clear hno
    by_cases hlt : k < m
    · obtain ⟨b, off, u, rfl, _, _, hx, hc⟩ := hp.at_ (k := k) (by rw [HN.out]; exact hlt)
      have HX := Lib.hid hx
      clear hx
      by_cases hv : u = v
      · subst hv
        go_wp2
        go_ret
        exact ⟨by rw [placeI_hit HX.out HO.out]; rfl, rfl⟩
      · go_wp2
        go_round
        case rel => exact ⟨k + 1, by omega, by go_num, fun j hj => by
          by_cases e : j = k
          · subst e
            rw [HX.out]
            intro h
            injection h with h
            exact hv h
          · exact HO.out j (by omega)⟩
        case measure => simp [intOf]; omega
    · obtain rfl : k = m := by omega
      go_wp2
      go_ret
      exact ⟨by rw [placeI_no (by rw [HN.out]; exact HO.out)]; rfl, rfl⟩

theorem isBoxNumber_any (A : Option Addr) (n c : Nat) (k : Int) (w : World) (q : Bool) (hq : inB k 0 ((n : Int) - 1) = q) :
    Calls Try.prog 67 #[.slice A n c, .int .i64 k] w fun e w' => e = .returned (.bool q) ∧ w = w' := by
  by_cases h1 : 0 ≤ k
  · have h2 : decide (k < (n : Int)) = q := by rw [← hq, inB, decide_eq_decide]; omega
    clear hq
    go_enter Try.func67, Try.ntmps67
    go_wp2
    go_ret
    exact ⟨rfl, rfl⟩
  · obtain rfl : q = false := by rw [← hq, inB_false]; omega
    have h2 : decide (0 ≤ k) = false := by simpa using h1
    clear hq h1
    go_enter Try.func67, Try.ntmps67
    go_wp2
    go_ret
    exact ⟨rfl, rfl⟩

theorem place_yes {plan : List Int} {k : Int} (h : decide (k ∈ plan) = true) : placeI plan k = ((plan.idxOf k : Nat) : Int) ∧ plan.idxOf k < plan.length := by
  have hm := of_decide_eq_true h
  exact ⟨by rw [placeI, if_pos hm], List.idxOf_lt_length_of_mem hm⟩
theorem place_none {plan : List Int} {k : Int} (h : decide (k ∈ plan) = false) : placeI plan k = -1 := by
  rw [placeI, if_neg (of_decide_eq_false h)]

set_option maxRecDepth 100000 in
set_option maxHeartbeats 2000000 in
theorem spec_TakeOut (A B : Option Addr) (n c m d : Nat) (bs : List (Int × Int × Int)) (plan : List Int) (k : Int) (lo hi lo' hi' : Nat) (w : World) (hn : bs.length = n) (hlen : n ≤ 1048576) (hmd : m ≤ d) (hm : plan.length = m) (hm2 : m ≤ 1048576)
    (hs : Seg w lo hi A (flat3 bs)) (hB : hi ≤ w.heap.size) (hp : Seg w lo' hi' B plan) (hBp : hi' ≤ w.heap.size) (q : Bool) (hq : takeB bs plan k = q) :
    Calls Try.prog 45 #[.slice A n c, .slice B m d, .int .i64 k] w (RetL q (someN q (takeN plan k)) w) := by
  have HN := Lib.hid hn
  have HM := Lib.hid hm
  obtain ⟨q1, hq1⟩ : ∃ q1, bothN bs plan = q1 := ⟨_, rfl⟩
  obtain ⟨q2, hq2⟩ : ∃ q2, inB k 0 ((n : Int) - 1) = q2 := ⟨_, rfl⟩
  obtain ⟨q3, hq3⟩ : ∃ q3, decide (k ∈ plan) = q3 := ⟨_, rfl⟩
  rw [takeB, hn, hq1, hq2, hq3] at hq
  have HQ := Lib.hid hq1
  have HQ2 := Lib.hid hq2
  cases q1
  · obtain rfl : q = false := hq.symm
    clear hn hm hq1 hq2 hq3
    go_enter Try.func45, Try.ntmps45
    go_wp2_with fail
    refine (nePlanned_any _ _ _ _ _ _ bs plan lo hi lo' hi' _ HN.out hlen hs hB HM.out hm2 hmd hp hBp _ HQ.out).mono ?_
    rintro e w1 ⟨rfl, hb1⟩
    go_wp2
    go_ret2
    exact ⟨none, 0, 0, rfl, rfl, Own.nil_, hb1⟩
  have hln : n ≤ 7 := by rw [← hn]; exact (goodN_at (bothN_at hq1).1).2.1
  cases q2
  · obtain rfl : q = false := hq.symm
    clear hn hm hq1 hq2 hq3
    go_enter Try.func45, Try.ntmps45
    go_wp2_with fail
    refine (nePlanned_any _ _ _ _ _ _ bs plan lo hi lo' hi' _ HN.out hlen hs hB HM.out hm2 hmd hp hBp _ HQ.out).mono ?_
    rintro e w1 ⟨rfl, hb1⟩
    go_wp2_with fail
    refine (l1In_any k 0 ((n : Int) - 1) _ HQ2.out _).mono ?_
    rintro e w2 ⟨rfl, rfl⟩
    go_wp2
    go_ret2
    exact ⟨none, 0, 0, rfl, rfl, Own.nil_, hb1⟩
  cases q3
  · obtain rfl : q = false := hq.symm
    have HPL := Lib.hid (place_none hq3)
    clear hn hm hq1 hq2 hq3
    go_enter Try.func45, Try.ntmps45
    go_wp2_with fail
    refine (nePlanned_any _ _ _ _ _ _ bs plan lo hi lo' hi' _ HN.out hlen hs hB HM.out hm2 hmd hp hBp _ HQ.out).mono ?_
    rintro e w1 ⟨rfl, hb1⟩
    go_wp2_with fail
    refine (l1In_any k 0 ((n : Int) - 1) _ HQ2.out _).mono ?_
    rintro e w2 ⟨rfl, rfl⟩
    go_wp2_with fail
    refine (neInside_any _ m d plan k lo' hi' _ HM.out hm2 (hp.below hb1 hBp)).mono ?_
    rw [HPL.out]
    rintro e w2 ⟨rfl, rfl⟩
    go_wp2
    go_ret2
    exact ⟨none, 0, 0, rfl, rfl, Own.nil_, hb1⟩
  obtain rfl : q = true := hq.symm
  obtain ⟨hpl, hpi⟩ := place_yes hq3
  have hmpos : 0 < m := by rw [← hm]; omega
  have HEQ : Hid (takeN plan k = plan.set (plan.idxOf k) (-1)) := rfl
  obtain ⟨p, hpp⟩ : ∃ p, plan.idxOf k = p := ⟨_, rfl⟩
  rw [hpp] at hpl hpi HEQ
  rw [hm] at hpi
  have HPL := Lib.hid hpl
  obtain ⟨bo, oo, uu, rfl, _, _, _, _⟩ := hp.at_ (k := 0) (by rw [hm]; exact hmpos)
  clear hn hm hq1 hq2 hq3 hpp hpl hq
  go_enter Try.func45, Try.ntmps45
  go_wp2_with fail
  refine (nePlanned_any _ _ _ _ _ _ bs plan lo hi lo' hi' _ HN.out hlen hs hB HM.out hm2 hmd hp hBp _ HQ.out).mono ?_
  rintro e w1 ⟨rfl, hb1⟩
  have hz1 := hb1.size
  go_wp2_with fail
  refine (l1In_any k 0 ((n : Int) - 1) _ HQ2.out _).mono ?_
  rintro e w2 ⟨rfl, rfl⟩
  go_wp2_with fail
  refine (neInside_any _ m d plan k lo' hi' _ HM.out hm2 (hp.below hb1 hBp)).mono ?_
  rw [HPL.out]
  rintro e w2 ⟨rfl, rfl⟩
  have hpn : decide ((p : Int) < 0) = false := by rw [decide_eq_false_iff_not]; omega
  go_wp2_with fail
  refine (l1Own_any _ m d plan lo' hi' _ HM.out hm2 (hp.below hb1 hBp) (by omega)).mono ?_
  rintro e w2 ⟨A2, c2, rfl, hown2, hb2⟩
  have hz2 := hb2.size
  obtain ⟨g, cap, hgv, hg0, hg1, hgc, hgf⟩ := ownsRow_head hown2 hmpos
  obtain ⟨rfl, rfl⟩ : A2 = some ⟨g, 0, none⟩ ∧ c2 = cap := by injection hgv with a b d; exact ⟨a, d⟩
  have HO2 := Lib.hid (ownsRow_set hown2 p (-1))
  have hx : ∃ u, plan[p]? = some u := ⟨_, List.getElem?_eq_getElem (by rw [HM.out]; exact hpi)⟩
  obtain ⟨u, hu⟩ := hx
  have hcl := hgc p u hu
  have hfz := hgf p
  have HB2 := Lib.hid hb2
  clear hown2 hgc hgf hu hgv hb2
  go_wp2_with fail
  refine (neInside_any _ m d plan k lo' hi' _ HM.out hm2 ((hp.below hb1 hBp).below HB2.out (by omega))).mono ?_
  rw [HPL.out]
  rintro e w3 ⟨rfl, rfl⟩
  go_wp2
  go_ret2
  have hfin : Below w.heap.size w (w2.setCell ⟨g, p, none⟩ (.int .i64 (-1))) := (hb1.trans (HB2.out.mono hz1)).setCell (by show w.heap.size ≤ g; omega) _
  have hl : (plan.set p (-1)).length = m := by rw [List.length_set]; exact HM.out
  refine ⟨_, m, _, rfl, ?_, ?_, hfin⟩
  · show (takeN plan k).length = m
    rw [HEQ.out]; exact hl
  · show Own _ _ _ _ (takeN plan k)
    rw [HEQ.out]
    exact (ownsRow_own (ys := plan.set p (-1)) (by rw [hl]; exact HO2.out)).2.more (by omega) (Nat.le_refl _)
set_option maxRecDepth 100000 in
set_option maxHeartbeats 2000000 in
theorem impl_TakeOut (A B : Option Addr) (n c m d : Nat) (bs : List (Int × Int × Int)) (plan : List Int) (k : Int) (lo hi lo' hi' : Nat) (w : World) (hn : bs.length = n) (hlen : n ≤ 1048576) (hmd : m ≤ d) (hm : plan.length = m) (hm2 : m ≤ 1048576)
    (hs : Seg w lo hi A (flat3 bs)) (hB : hi ≤ w.heap.size) (hp : Seg w lo' hi' B plan) (hBp : hi' ≤ w.heap.size) (q : Bool) (hq : takeB bs plan k = q) :
    Calls Try.prog 46 #[.slice A n c, .slice B m d, .int .i64 k] w (RetL q (someN q (takeN plan k)) w) := by
  have HN := Lib.hid hn
  have HM := Lib.hid hm
  obtain ⟨q1, hq1⟩ : ∃ q1, bothN bs plan = q1 := ⟨_, rfl⟩
  obtain ⟨q2, hq2⟩ : ∃ q2, inB k 0 ((n : Int) - 1) = q2 := ⟨_, rfl⟩
  obtain ⟨q3, hq3⟩ : ∃ q3, decide (k ∈ plan) = q3 := ⟨_, rfl⟩
  rw [takeB, hn, hq1, hq2, hq3] at hq
  have HQ := Lib.hid hq1
  have HQ2 := Lib.hid hq2
  cases q1
  · obtain rfl : q = false := hq.symm
    clear hn hm hq1 hq2 hq3
    go_enter Try.func46, Try.ntmps46
    go_wp2_with fail
    refine (isNestingOf_any _ _ _ _ _ _ bs plan lo hi lo' hi' _ HN.out hlen hs hB HM.out hm2 hp hBp _ HQ.out).mono ?_
    rintro e w1 ⟨rfl, hb1⟩
    go_wp2
    go_ret2
    exact ⟨none, 0, 0, rfl, rfl, Own.nil_, hb1⟩
  have hln : n ≤ 7 := by rw [← hn]; exact (goodN_at (bothN_at hq1).1).2.1
  cases q2
  · obtain rfl : q = false := hq.symm
    clear hn hm hq1 hq2 hq3
    go_enter Try.func46, Try.ntmps46
    go_wp2_with fail
    refine (isNestingOf_any _ _ _ _ _ _ bs plan lo hi lo' hi' _ HN.out hlen hs hB HM.out hm2 hp hBp _ HQ.out).mono ?_
    rintro e w1 ⟨rfl, hb1⟩
    go_wp2_with fail
    refine (isBoxNumber_any _ n c k _ _ HQ2.out).mono ?_
    rintro e w2 ⟨rfl, rfl⟩
    go_wp2
    go_ret2
    exact ⟨none, 0, 0, rfl, rfl, Own.nil_, hb1⟩
  cases q3
  · obtain rfl : q = false := hq.symm
    have HPL := Lib.hid (place_none hq3)
    clear hn hm hq1 hq2 hq3
    go_enter Try.func46, Try.ntmps46
    go_wp2_with fail
    refine (isNestingOf_any _ _ _ _ _ _ bs plan lo hi lo' hi' _ HN.out hlen hs hB HM.out hm2 hp hBp _ HQ.out).mono ?_
    rintro e w1 ⟨rfl, hb1⟩
    go_wp2_with fail
    refine (isBoxNumber_any _ n c k _ _ HQ2.out).mono ?_
    rintro e w2 ⟨rfl, rfl⟩
    go_wp2_with fail
    refine (slicesIndex_any _ m d plan k lo' hi' _ HM.out hm2 (hp.below hb1 hBp)).mono ?_
    rw [HPL.out]
    rintro e w2 ⟨rfl, rfl⟩
    go_wp2
    go_ret2
    exact ⟨none, 0, 0, rfl, rfl, Own.nil_, hb1⟩
  obtain rfl : q = true := hq.symm
  obtain ⟨hpl, hpi⟩ := place_yes hq3
  have hmpos : 0 < m := by rw [← hm]; omega
  have HEQ : Hid (takeN plan k = plan.set (plan.idxOf k) (-1)) := rfl
  obtain ⟨p, hpp⟩ : ∃ p, plan.idxOf k = p := ⟨_, rfl⟩
  rw [hpp] at hpl hpi HEQ
  rw [hm] at hpi
  have HPL := Lib.hid hpl
  obtain ⟨bo, oo, uu, rfl, _, _, _, _⟩ := hp.at_ (k := 0) (by rw [hm]; exact hmpos)
  clear hn hm hq1 hq2 hq3 hpp hpl hq
  go_enter Try.func46, Try.ntmps46
  go_wp2_with fail
  refine (isNestingOf_any _ _ _ _ _ _ bs plan lo hi lo' hi' _ HN.out hlen hs hB HM.out hm2 hp hBp _ HQ.out).mono ?_
  rintro e w1 ⟨rfl, hb1⟩
  have hz1 := hb1.size
  go_wp2_with fail
  refine (isBoxNumber_any _ n c k _ _ HQ2.out).mono ?_
  rintro e w2 ⟨rfl, rfl⟩
  go_wp2_with fail
  refine (slicesIndex_any _ m d plan k lo' hi' _ HM.out hm2 (hp.below hb1 hBp)).mono ?_
  rw [HPL.out]
  rintro e w2 ⟨rfl, rfl⟩
  have hpn : decide ((p : Int) < 0) = false := by rw [decide_eq_false_iff_not]; omega
  go_wp2_with fail
  refine (cloneI_any _ m d plan lo' hi' _ HM.out hm2 (hp.below hb1 hBp) (by omega)).mono ?_
  rintro e w2 ⟨v2, rfl, hown2, hb2⟩
  obtain ⟨A2, c2, rfl⟩ := ownsRow_form hown2
  have hz2 := hb2.size
  obtain ⟨g, cap, hgv, hg0, hg1, hgc, hgf⟩ := ownsRow_head hown2 hmpos
  obtain ⟨rfl, rfl⟩ : A2 = some ⟨g, 0, none⟩ ∧ c2 = cap := by injection hgv with a b d; exact ⟨a, d⟩
  have HO2 := Lib.hid (ownsRow_set hown2 p (-1))
  have hx : ∃ u, plan[p]? = some u := ⟨_, List.getElem?_eq_getElem (by rw [HM.out]; exact hpi)⟩
  obtain ⟨u, hu⟩ := hx
  have hcl := hgc p u hu
  have hfz := hgf p
  have HB2 := Lib.hid hb2
  clear hown2 hgc hgf hu hgv hb2
  go_wp2
  go_ret2
  have hfin : Below w.heap.size w (w2.setCell ⟨g, p, none⟩ (.int .i64 (-1))) := (hb1.trans (HB2.out.mono hz1)).setCell (by show w.heap.size ≤ g; omega) _
  have hl : (plan.set p (-1)).length = m := by rw [List.length_set]; exact HM.out
  refine ⟨_, m, _, rfl, ?_, ?_, hfin⟩
  · show (takeN plan k).length = m
    rw [HEQ.out]; exact hl
  · show Own _ _ _ _ (takeN plan k)
    rw [HEQ.out]
    exact (ownsRow_own (ys := plan.set p (-1)) (by rw [hl]; exact HO2.out)).2.more (by omega) (Nat.le_refl _)
end Go.Proofs.Ytkconbcmbpmghaa

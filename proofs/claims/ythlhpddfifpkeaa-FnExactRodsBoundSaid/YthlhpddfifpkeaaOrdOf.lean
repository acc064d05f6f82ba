/-
  The written program's test for a rod, lengths and orders.
  Conditions: the lists have at most 1048576 numbers.
-/
import Derived.Test.YthlhpddfifpkeaaOrdS
namespace Go.Proofs.Ythlhpddfifpkeaa
set_option linter.unusedVariables false
open Go.RowKit

/-- The first k of some numbers, the rest of others. -/
def mixTo (cs ms : List Int) (k : Nat) : List Int := [if 0 < k then cs.getD 0 0 else ms.getD 0 0, if 1 < k then cs.getD 1 0 else ms.getD 1 0, if 2 < k then cs.getD 2 0 else ms.getD 2 0, if 3 < k then cs.getD 3 0 else ms.getD 3 0]

theorem mixTo_zero (cs : List Int) (m0 m1 m2 m3 : Int) : mixTo cs [m0, m1, m2, m3] 0 = [m0, m1, m2, m3] := rfl
theorem mixTo_len (cs ms : List Int) (k : Nat) : (mixTo cs ms k).length = 4 := rfl

theorem mixTo_step {cs ms : List Int} {k : Nat} {u : Int} (h : cs[k]? = some u) (h4 : k < 4) : (mixTo cs ms k).set k u = mixTo cs ms (k + 1) := by
  have e : cs.getD k 0 = u := by simp [List.getD, h]
  have : k = 0 ∨ k = 1 ∨ k = 2 ∨ k = 3 := by omega
  rcases this with rfl | rfl | rfl | rfl <;> (subst e; rfl)

theorem mixTo_all {cs ys : List Int} {n : Nat} (h1 : cs.length = n) (h2 : ys.length = n) (h4 : n ≤ 4) : mixTo cs (pad4 ys) n = pad4 cs := by
  have hg : ∀ i, i < 4 → (if i < n then cs.getD i 0 else (pad4 ys).getD i 0) = cs.getD i 0 := fun i hi => by
    split
    · rfl
    · rw [List.getD, pad4_get _ hi]
      simp [List.getD, List.getElem?_eq_none (show ys.length ≤ i by omega), List.getElem?_eq_none (show cs.length ≤ i by omega)]
  simp only [mixTo, hg 0 (by omega), hg 1 (by omega), hg 2 (by omega), hg 3 (by omega)]
  rfl

/-- What is ordered of a rod, and a bool. -/
def RetOrd (q : Bool) (rod : Int) (A : Option Addr) (n c : Nat) (cs : List Int) (w : World) (e : Ending) (w' : World) : Prop :=
  ∃ (r : Int) (A' : Option Addr) (n' c' : Nat) (m0 m1 m2 m3 : Int), (q = true → r = rod ∧ A' = A ∧ n' = n ∧ c' = c ∧ pad4 cs = [m0, m1, m2, m3]) ∧
    e = .returned (.tuple #[.agg #[.int .i64 r, .slice A' n' c', .int .i64 m0, .int .i64 m1, .int .i64 m2, .int .i64 m3], .bool q]) ∧ Below w.heap.size w w'

section
variable (rod : Int) (A D : Option Addr) (n c m d : Nat) (zs cs : List Int) (lo hi lo' hi' : Nat) (w : World) (hn : zs.length = n) (hlen : n ≤ 1048576) (hm : cs.length = m) (hm2 : m ≤ 1048576) (hs : Seg w lo hi A zs) (ho : Seg w lo' hi' D cs)
    (hB : hi ≤ w.heap.size) (hB' : hi' ≤ w.heap.size)
include hn hlen hm hm2 hs ho hB hB'

set_option maxRecDepth 100000 in
set_option maxHeartbeats 2000000 in
theorem orderedOf_any (q : Bool) (hq : ordersB rod zs cs = q) :
    Calls Try.prog 63 #[.int .i64 rod, .slice A n c, .slice D m d] w (RetOrd q rod A n c cs w) := by
  have HN := Lib.hid hn
  have HM := Lib.hid hm
  by_cases h1 : rodB rod zs = true
  case neg =>
    have h1' : rodB rod zs = false := by simpa using h1
    obtain rfl : q = false := by rw [← hq, ordersB, h1', Bool.false_and]
    have H1 := Lib.hid h1'
    clear hn hm hq h1 h1'
    go_enter Try.func63, Try.ntmps63
    go_wp2_with fail
    have hb0 : Below w.heap.size w (w.alloc (.cells #[.int .i64 0, .slice none 0 0, .int .i64 0, .int .i64 0, .int .i64 0, .int .i64 0] 48)) := (Below.refl _ _).alloc (Nat.le_refl _) _
    have hr1 : (w.alloc (.cells #[.int .i64 0, .slice none 0 0, .int .i64 0, .int .i64 0, .int .i64 0, .int .i64 0] 48)).heap[w.heap.size]? = some (.cells #[.int .i64 0, .slice none 0 0, .int .i64 0, .int .i64 0, .int .i64 0, .int .i64 0] 48 (0, 0)) := new_at _ _ rfl
    refine (cuttingOf_no rod A n c zs lo hi _ HN.out hlen (hs.below hb0 hB) (Nat.le_trans hB hb0.size) H1.out).mono ?_
    rintro e w1 ⟨rfl, hb1⟩
    have hB1 := hb0.trans (hb1.mono hb0.size)
    have hB2 := hB1.alloc hB1.size (.cells #[.int .i64 0, .slice none 0 0, .int .i64 0, .int .i64 0, .int .i64 0, .int .i64 0] 48)
    have hr1a := (hb1.block _ (heap_lt hr1)).trans hr1
    have hr1' := (alloc_old w1 (heap_lt hr1a) (.cells #[.int .i64 0, .slice none 0 0, .int .i64 0, .int .i64 0, .int .i64 0, .int .i64 0] 48)).trans hr1a
    obtain ⟨q0, q1, q2, q3, q4, q5⟩ := Cut6.of hr1'
    obtain ⟨f0, f1, f2, f3, f4, f5⟩ := frozen_each6 hr1'
    have HB2 := Lib.hid hB2
    clear hb0 hb1 hB1 hB2 hr1 hr1a hr1' hs ho
    go_wp2
    refine bodyPost_ret (v := .tuple #[.agg #[.int .i64 0, .slice none 0 0, .int .i64 0, .int .i64 0, .int .i64 0, .int .i64 0], .bool false]) (by simp [results, Try.results63, go_sem, q0, q1, q2, q3, q4, q5]) rfl ⟨0, none, 0, 0, 0, 0, 0, 0, (fun h => by cases h), rfl, ?_⟩
    exact below_set6 HB2.out (Nat.le_refl _) _ _ _ _ _ _
  have H1 := Lib.hid h1
  by_cases h2 : someB 4 6 cs = true
  case neg =>
    have h2' : someB 4 6 cs = false := by simpa using h2
    obtain rfl : q = false := by rw [← hq, ordersB, h2', Bool.false_and, Bool.and_false]
    have H2 := Lib.hid h2'
    clear hn hm hq h1 h2 h2'
    go_enter Try.func63, Try.ntmps63
    go_wp2_with fail
    have hb0 : Below w.heap.size w (w.alloc (.cells #[.int .i64 0, .slice none 0 0, .int .i64 0, .int .i64 0, .int .i64 0, .int .i64 0] 48)) := (Below.refl _ _).alloc (Nat.le_refl _) _
    have hr1 : (w.alloc (.cells #[.int .i64 0, .slice none 0 0, .int .i64 0, .int .i64 0, .int .i64 0, .int .i64 0] 48)).heap[w.heap.size]? = some (.cells #[.int .i64 0, .slice none 0 0, .int .i64 0, .int .i64 0, .int .i64 0, .int .i64 0] 48 (0, 0)) := new_at _ _ rfl
    refine (cuttingOf_yes rod A n c zs lo hi _ HN.out hlen (hs.below hb0 hB) (Nat.le_trans hB hb0.size) H1.out).mono ?_
    rintro e w1 ⟨m0, m1, m2, m3, hms, rfl, hb1⟩
    have hB1 := hb0.trans (hb1.mono hb0.size)
    have hB2 := hB1.alloc hB1.size (.cells #[.int .i64 rod, .slice A n c, .int .i64 m0, .int .i64 m1, .int .i64 m2, .int .i64 m3] 48)
    have hr1a := (hb1.block _ (heap_lt hr1)).trans hr1
    have hr1' := (alloc_old w1 (heap_lt hr1a) (.cells #[.int .i64 rod, .slice A n c, .int .i64 m0, .int .i64 m1, .int .i64 m2, .int .i64 m3] 48)).trans hr1a
    have hct := CutAt.of (new_at w1 (.cells #[.int .i64 rod, .slice A n c, .int .i64 m0, .int .i64 m1, .int .i64 m2, .int .i64 m3] 48) rfl)
    have ho2 := ho.below hB2 hB'
    have hs2 := hs.below hB2 hB
    have HG := Lib.hid (heap_lt hr1a)
    clear hb0 hb1 hB1 hr1 hr1a
    obtain ⟨q0, q1, q2, q3, q4, q5⟩ := Cut6.of hr1'
    obtain ⟨f0, f1, f2, f3, f4, f5⟩ := frozen_each6 hr1'
    have HB2 := Lib.hid hB2
    clear hB2 hr1' hct hms
    go_wp2_with (go_at_call 60; refine (areCounts_any _ _ _ cs lo' hi' _ HM.out hm2 ho2 _ H2.out).mono ?_; rintro e w' ⟨rfl, rfl⟩)
    refine bodyPost_ret (v := .tuple #[.agg #[.int .i64 0, .slice none 0 0, .int .i64 0, .int .i64 0, .int .i64 0, .int .i64 0], .bool false]) (by simp [results, Try.results63, go_sem, q0, q1, q2, q3, q4, q5]) rfl ⟨0, none, 0, 0, 0, 0, 0, 0, (fun h => by cases h), rfl, ?_⟩
    exact below_set6 HB2.out (Nat.le_refl _) _ _ _ _ _ _
  have H2 := Lib.hid h2
  by_cases h3 : m = n
  case neg =>
    obtain rfl : q = false := by rw [← hq, ordersB, hm, hn, decide_eq_false h3, Bool.false_and, Bool.and_false, Bool.and_false]
    have hne : ((m : Int) == (n : Int)) = false := by rw [beq_eq_false_iff_ne]; omega
    clear hn hm hq h1 h2
    go_enter Try.func63, Try.ntmps63
    go_wp2_with fail
    have hb0 : Below w.heap.size w (w.alloc (.cells #[.int .i64 0, .slice none 0 0, .int .i64 0, .int .i64 0, .int .i64 0, .int .i64 0] 48)) := (Below.refl _ _).alloc (Nat.le_refl _) _
    have hr1 : (w.alloc (.cells #[.int .i64 0, .slice none 0 0, .int .i64 0, .int .i64 0, .int .i64 0, .int .i64 0] 48)).heap[w.heap.size]? = some (.cells #[.int .i64 0, .slice none 0 0, .int .i64 0, .int .i64 0, .int .i64 0, .int .i64 0] 48 (0, 0)) := new_at _ _ rfl
    refine (cuttingOf_yes rod A n c zs lo hi _ HN.out hlen (hs.below hb0 hB) (Nat.le_trans hB hb0.size) H1.out).mono ?_
    rintro e w1 ⟨m0, m1, m2, m3, hms, rfl, hb1⟩
    have hB1 := hb0.trans (hb1.mono hb0.size)
    have hB2 := hB1.alloc hB1.size (.cells #[.int .i64 rod, .slice A n c, .int .i64 m0, .int .i64 m1, .int .i64 m2, .int .i64 m3] 48)
    have hr1a := (hb1.block _ (heap_lt hr1)).trans hr1
    have hr1' := (alloc_old w1 (heap_lt hr1a) (.cells #[.int .i64 rod, .slice A n c, .int .i64 m0, .int .i64 m1, .int .i64 m2, .int .i64 m3] 48)).trans hr1a
    have hct := CutAt.of (new_at w1 (.cells #[.int .i64 rod, .slice A n c, .int .i64 m0, .int .i64 m1, .int .i64 m2, .int .i64 m3] 48) rfl)
    have ho2 := ho.below hB2 hB'
    have hs2 := hs.below hB2 hB
    have HG := Lib.hid (heap_lt hr1a)
    clear hb0 hb1 hB1 hr1 hr1a
    obtain ⟨q0, q1, q2, q3, q4, q5⟩ := Cut6.of hr1'
    obtain ⟨f0, f1, f2, f3, f4, f5⟩ := frozen_each6 hr1'
    have HB2 := Lib.hid hB2
    clear hB2 hr1' hct hms
    go_wp2_with (go_at_call 60; refine (areCounts_any _ _ _ cs lo' hi' _ HM.out hm2 ho2 _ H2.out).mono ?_; rintro e w' ⟨rfl, rfl⟩)
    refine bodyPost_ret (v := .tuple #[.agg #[.int .i64 0, .slice none 0 0, .int .i64 0, .int .i64 0, .int .i64 0, .int .i64 0], .bool false]) (by simp [results, Try.results63, go_sem, q0, q1, q2, q3, q4, q5]) rfl ⟨0, none, 0, 0, 0, 0, 0, 0, (fun h => by cases h), rfl, ?_⟩
    exact below_set6 HB2.out (Nat.le_refl _) _ _ _ _ _ _
  subst h3
  obtain ⟨s, hs'⟩ : ∃ s, cs.sum = s := ⟨_, rfl⟩
  have HS := Lib.hid hs'
  by_cases h4 : s ≤ 9
  case neg =>
    obtain rfl : q = false := by rw [← hq, ordersB, hs', decide_eq_false h4, Bool.false_and, Bool.and_false, Bool.and_false, Bool.and_false]
    have hd : decide (9 < s) = true := by rw [decide_eq_true_iff]; omega
    clear hn hm hq h1 h2 hs'
    go_enter Try.func63, Try.ntmps63
    go_wp2_with fail
    have hb0 : Below w.heap.size w (w.alloc (.cells #[.int .i64 0, .slice none 0 0, .int .i64 0, .int .i64 0, .int .i64 0, .int .i64 0] 48)) := (Below.refl _ _).alloc (Nat.le_refl _) _
    have hr1 : (w.alloc (.cells #[.int .i64 0, .slice none 0 0, .int .i64 0, .int .i64 0, .int .i64 0, .int .i64 0] 48)).heap[w.heap.size]? = some (.cells #[.int .i64 0, .slice none 0 0, .int .i64 0, .int .i64 0, .int .i64 0, .int .i64 0] 48 (0, 0)) := new_at _ _ rfl
    refine (cuttingOf_yes rod A m c zs lo hi _ HN.out hlen (hs.below hb0 hB) (Nat.le_trans hB hb0.size) H1.out).mono ?_
    rintro e w1 ⟨m0, m1, m2, m3, hms, rfl, hb1⟩
    have hB1 := hb0.trans (hb1.mono hb0.size)
    have hB2 := hB1.alloc hB1.size (.cells #[.int .i64 rod, .slice A m c, .int .i64 m0, .int .i64 m1, .int .i64 m2, .int .i64 m3] 48)
    have hr1a := (hb1.block _ (heap_lt hr1)).trans hr1
    have hr1' := (alloc_old w1 (heap_lt hr1a) (.cells #[.int .i64 rod, .slice A m c, .int .i64 m0, .int .i64 m1, .int .i64 m2, .int .i64 m3] 48)).trans hr1a
    have hct := CutAt.of (new_at w1 (.cells #[.int .i64 rod, .slice A m c, .int .i64 m0, .int .i64 m1, .int .i64 m2, .int .i64 m3] 48) rfl)
    have ho2 := ho.below hB2 hB'
    have hs2 := hs.below hB2 hB
    have HG := Lib.hid (heap_lt hr1a)
    clear hb0 hb1 hB1 hr1 hr1a
    obtain ⟨q0, q1, q2, q3, q4, q5⟩ := Cut6.of hr1'
    obtain ⟨f0, f1, f2, f3, f4, f5⟩ := frozen_each6 hr1'
    have HB2 := Lib.hid hB2
    clear hB2 hr1' hct hms
    go_wp2_with (first | (go_at_call 60; refine (areCounts_any _ _ _ cs lo' hi' _ HM.out hm2 ho2 _ H2.out).mono ?_; rintro e w' ⟨rfl, rfl⟩) | (go_at_call 61; refine (sumOfC_any _ _ _ cs lo' hi' _ HM.out ho2 H2.out _ HS.out).mono ?_; rintro e w' ⟨rfl, rfl⟩))
    refine bodyPost_ret (v := .tuple #[.agg #[.int .i64 0, .slice none 0 0, .int .i64 0, .int .i64 0, .int .i64 0, .int .i64 0], .bool false]) (by simp [results, Try.results63, go_sem, q0, q1, q2, q3, q4, q5]) rfl ⟨0, none, 0, 0, 0, 0, 0, 0, (fun h => by cases h), rfl, ?_⟩
    exact below_set6 HB2.out (Nat.le_refl _) _ _ _ _ _ _
  have hd : decide (9 < s) = false := by rw [decide_eq_false_iff_not]; omega
  have HL := Lib.hid (show longB rod zs cs = q by rw [← hq, ordersB, h1, h2, hm, hn, hs', decide_eq_true rfl, decide_eq_true h4, Bool.true_and, Bool.true_and, Bool.true_and, Bool.true_and])
  have hn4 := (lensB_at (rodB_true.1 h1).2).2.1
  rw [hn] at hn4
  have HMLL := Lib.hid (show (mostL rod zs).length = m by rw [mostL, List.length_map, hn])
  clear hn hm hq h1 h2 hs'
  go_enter Try.func63, Try.ntmps63
  go_wp2_with fail
  have hb0 : Below w.heap.size w (w.alloc (.cells #[.int .i64 0, .slice none 0 0, .int .i64 0, .int .i64 0, .int .i64 0, .int .i64 0] 48)) := (Below.refl _ _).alloc (Nat.le_refl _) _
  have hr1 : (w.alloc (.cells #[.int .i64 0, .slice none 0 0, .int .i64 0, .int .i64 0, .int .i64 0, .int .i64 0] 48)).heap[w.heap.size]? = some (.cells #[.int .i64 0, .slice none 0 0, .int .i64 0, .int .i64 0, .int .i64 0, .int .i64 0] 48 (0, 0)) := new_at _ _ rfl
  refine (cuttingOf_yes rod A m c zs lo hi _ HN.out hlen (hs.below hb0 hB) (Nat.le_trans hB hb0.size) H1.out).mono ?_
  rintro e w1 ⟨m0, m1, m2, m3, hms, rfl, hb1⟩
  have hB1 := hb0.trans (hb1.mono hb0.size)
  have hB2 := hB1.alloc hB1.size (.cells #[.int .i64 rod, .slice A m c, .int .i64 m0, .int .i64 m1, .int .i64 m2, .int .i64 m3] 48)
  have hr1a := (hb1.block _ (heap_lt hr1)).trans hr1
  have hr1' := (alloc_old w1 (heap_lt hr1a) (.cells #[.int .i64 rod, .slice A m c, .int .i64 m0, .int .i64 m1, .int .i64 m2, .int .i64 m3] 48)).trans hr1a
  have hct := CutAt.of (new_at w1 (.cells #[.int .i64 rod, .slice A m c, .int .i64 m0, .int .i64 m1, .int .i64 m2, .int .i64 m3] 48) rfl)
  have ho2 := ho.below hB2 hB'
  have hs2 := hs.below hB2 hB
  have HG := Lib.hid (heap_lt hr1a)
  clear hb0 hb1 hB1 hr1 hr1a
  obtain ⟨W2, hW2⟩ : ∃ W2, w1.alloc (.cells #[.int .i64 rod, .slice A m c, .int .i64 m0, .int .i64 m1, .int .i64 m2, .int .i64 m3] 48) = W2 := ⟨_, rfl⟩
  rw [hW2] at hct hr1' hB2 ho2 hs2
  obtain ⟨c0, c1, c2, c3, c4, c5⟩ := id hct.six
  go_wp2_with fail
  try rw [hW2]
  clear hW2
  refine (areCounts_any _ _ _ cs lo' hi' _ HM.out hm2 ho2 _ H2.out).mono ?_
  rintro e w' ⟨rfl, rfl⟩
  go_wp2_with (go_at_call 61; refine (sumOfC_any _ _ _ cs lo' hi' _ HM.out ho2 H2.out _ HS.out).mono ?_; rintro e w' ⟨rfl, rfl⟩)
  go_loopw [40] (fun i wr => ∃ k : Nat, k ≤ m ∧ i = .int .i64 k ∧ CutAt wr w1.heap.size 48 rod A m c (mixTo cs [m0, m1, m2, m3] k) ∧
    wr.heap[w.heap.size]? = some (.cells #[.int .i64 0, .slice none 0 0, .int .i64 0, .int .i64 0, .int .i64 0, .int .i64 0] 48 (0, 0)) ∧ Below w.heap.size w wr ∧ ∀ (j : Nat) u z, j < k → cs[j]? = some u → zs[j]? = some z → u ≤ 0 ∨ z ≤ rod) (fun i _ => m - (intOf i).toNat)
  case atStart => exact ⟨0, Nat.zero_le _, rfl, hct, hr1', hB2, fun j u z hj => by omega⟩
  case round =>
    obtain ⟨k, hk, rfl, hck, hrk, hbk, hall⟩ := hrel
    have HA := Lib.hid hall
    clear hall hct hr1' hB2 ho2 hs2 c0 c1 c2 c3 c4 c5
    by_cases hlt : k < m
    · obtain ⟨b, off, u, rfl, _, _, hx, hc⟩ := (ho.below hbk hB').at_ (k := k) (by rw [HM.out]; exact hlt)
      obtain ⟨b', off', z, rfl, _, _, hx2, hc2⟩ := (hs.below hbk hB).at_ (k := k) (by rw [HN.out]; exact hlt)
      have HX := Lib.hid hx
      have HX2 := Lib.hid hx2
      clear hx hx2
      have hnew : ∀ hnew : u ≤ 0 ∨ z ≤ rod, ∀ (j : Nat) v y, j < k + 1 → cs[j]? = some v → zs[j]? = some y → v ≤ 0 ∨ y ≤ rod := fun hnew j v y hj hv hy => by
        by_cases e : j = k
        · subst e; rw [HX.out] at hv; injection hv with hv; subst hv; rw [HX2.out] at hy; injection hy with hy; subst hy; exact hnew
        · exact HA.out j v y (by omega) hv hy
      have HR := Lib.hid hnew
      clear hnew
      have hk4 : k < 4 := by omega
      obtain ⟨x0, hx0⟩ : ∃ x0, (mixTo cs [m0, m1, m2, m3] k)[k]? = some x0 := ⟨_, List.getElem?_eq_getElem (by rw [mixTo_len]; exact hk4)⟩
      have hcx0 := hck.most hx0
      have hfr := hck.frozen (2 + k)
      have hset := hck.set k u
      rw [mixTo_step HX.out hk4] at hset
      have HSET := Lib.hid hset
      have HRT := Lib.hid ((set_far wr (by show w.heap.size ≠ w1.heap.size; have := HG.out; omega) (.int .i64 u)).trans hrk : (wr.setCell ⟨w1.heap.size, 2 + k, none⟩ (.int .i64 u)).heap[w.heap.size]? = _)
      have HBT := Lib.hid (hbk.setCell (p := ⟨w1.heap.size, 2 + k, none⟩) (by show w.heap.size ≤ w1.heap.size; have := HG.out; omega) (.int .i64 u))
      obtain ⟨q0, q1, q2, q3, q4, q5⟩ := Cut6.of hrk
      obtain ⟨f0, f1, f2, f3, f4, f5⟩ := frozen_each6 hrk
      have HBK := Lib.hid hbk
      clear hset hx0 hrk hbk hck
      by_cases hu : 0 < u
      · have hd1 : decide (0 < u) = true := by simpa using hu
        by_cases hz : rod < z
        · have hd2 : decide (rod < z) = true := by simpa using hz
          obtain rfl : q = false := by rw [← HL.out, longB_not (by rw [HM.out, HN.out]; exact Nat.le_refl _) HX.out HX2.out hu hz]
          go_wp2
          refine bodyPost_ret (v := .tuple #[.agg #[.int .i64 0, .slice none 0 0, .int .i64 0, .int .i64 0, .int .i64 0, .int .i64 0], .bool false]) (by simp [results, Try.results63, go_sem, q0, q1, q2, q3, q4, q5]) rfl ⟨0, none, 0, 0, 0, 0, 0, 0, (fun h => by cases h), rfl, ?_⟩
          exact below_set6 HBK.out (Nat.le_refl _) _ _ _ _ _ _
        · have hd2 : decide (rod < z) = false := by simpa using hz
          go_wp2
          go_roundw
          case rel => exact ⟨k + 1, by omega, by go_num, HSET.out, HRT.out, HBT.out, HR.out (.inr (by omega))⟩
          case measure => simp [intOf]; omega
      · have hd1 : decide (0 < u) = false := by simpa using hu
        go_wp2
        go_roundw
        case rel => exact ⟨k + 1, by omega, by go_num, HSET.out, HRT.out, HBT.out, HR.out (.inl (by omega))⟩
        case measure => simp [intOf]; omega
    · obtain rfl : k = m := by omega
      obtain rfl : q = true := by
        rw [← HL.out, longB_true (by rw [HM.out, HN.out]; exact Nat.le_refl _)]
        exact fun j u z hu hz => HA.out j u z (by rw [← HM.out]; exact (List.getElem?_eq_some_iff.1 hu).1) hu hz
      rw [← hms, mixTo_all HM.out HMLL.out hn4] at hck
      obtain ⟨x0, x1, x2, x3, hxs⟩ := ints_4 (show (pad4 cs).length = 4 from rfl)
      rw [hxs] at hck
      obtain ⟨c0, c1, c2, c3, c4, c5⟩ := hck.six
      obtain ⟨f0, f1, f2, f3, f4, f5⟩ := frozen_each6 hrk
      obtain ⟨q0, q1, q2, q3, q4, q5⟩ := Cut6.of hrk
      have HXS := Lib.hid hxs
      have HBK := Lib.hid hbk
      clear hxs hck hrk hbk
      go_wp2
      refine bodyPost_ret (v := .tuple #[.agg #[.int .i64 rod, .slice A k c, .int .i64 x0, .int .i64 x1, .int .i64 x2, .int .i64 x3], .bool true]) (by simp [results, Try.results63, go_sem, q0, q1, q2, q3, q4, q5]) rfl ⟨rod, A, k, c, x0, x1, x2, x3, fun _ => ⟨rfl, rfl, rfl, rfl, HXS.out⟩, rfl, ?_⟩
      exact below_set6 HBK.out (Nat.le_refl _) _ _ _ _ _ _
end
end Go.Proofs.Ythlhpddfifpkeaa

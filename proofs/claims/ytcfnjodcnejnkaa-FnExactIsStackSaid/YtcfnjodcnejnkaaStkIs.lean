/-
  Both programs tell whether numbers are a stack.
  Conditions: the lists have at most 1048576 things and numbers.
-/
import Derived.Test.YtcfnjodcnejnkaaPileOf
namespace Go.Proofs.Ytcfnjodcnejnkaa
set_option linter.unusedVariables false
open Go.RowKit

set_option maxRecDepth 100000 in
set_option maxHeartbeats 1000000 in
theorem spec_IsStack (A A2 : Option Addr) (n c m c2 : Nat) (ts : List (Int × Int × Int)) (ks : List Int) (lo hi lo2 hi2 : Nat) (w : World) (hn : ts.length = n) (hlen : n ≤ 1048576) (hm : ks.length = m) (hlen2 : m ≤ 1048576) (hc2 : m ≤ c2)
    (hs : Seg w lo hi A (flat3 ts)) (hB : hi ≤ w.heap.size) (hs2 : Seg w lo2 hi2 A2 ks) (hB2 : hi2 ≤ w.heap.size) (q : Bool) (hq : bothT ts ks = q) (r : Bool) (hr : goodT ts = r) :
    Calls Try.prog 20 #[.slice A n c, .slice A2 m c2] w (RetBB q r w) := by
  have HN := Lib.hid hn
  have HM := Lib.hid hm
  have HQ := Lib.hid hq
  have HG := Lib.hid hr
  cases r
  · obtain rfl : q = false := by rw [← hq]; simp [bothT, hr]
    clear hn hm hq hr
    go_enter Try.func20, Try.ntmps20
    go_wp2_with fail
    refine (scGood_any _ _ _ ts lo hi _ HN.out hlen hs hB _ HG.out).mono ?_
    rintro e w1 ⟨rfl, hb1⟩
    go_wp2
    go_ret2
    exact ⟨rfl, hb1⟩
  · clear hn hm hq hr
    go_enter Try.func20, Try.ntmps20
    go_wp2_with fail
    refine (scGood_any _ _ _ ts lo hi _ HN.out hlen hs hB _ HG.out).mono ?_
    rintro e w1 ⟨rfl, hb1⟩
    go_wp2_with fail
    refine (scStack_any A A2 n c m c2 ts ks lo hi lo2 hi2 _ HN.out hlen HM.out hlen2 hc2 (hs.below hb1 hB) (by have := hb1.size; omega) (hs2.below hb1 hB2) (by have := hb1.size; omega) _ HQ.out).mono ?_
    rintro e w2 ⟨rfl, hbw2⟩
    go_wp2
    go_ret2
    exact ⟨rfl, hb1.trans (hbw2.mono hb1.size)⟩

set_option maxRecDepth 100000 in
set_option maxHeartbeats 1000000 in
theorem impl_IsStack (A A2 : Option Addr) (n c m c2 : Nat) (ts : List (Int × Int × Int)) (ks : List Int) (lo hi lo2 hi2 : Nat) (w : World) (hn : ts.length = n) (hlen : n ≤ 1048576) (hm : ks.length = m) (hlen2 : m ≤ 1048576) (hc2 : m ≤ c2)
    (hs : Seg w lo hi A (flat3 ts)) (hB : hi ≤ w.heap.size) (hs2 : Seg w lo2 hi2 A2 ks) (hB2 : hi2 ≤ w.heap.size) (q : Bool) (hq : bothT ts ks = q) (r : Bool) (hr : goodT ts = r) :
    Calls Try.prog 22 #[.slice A n c, .slice A2 m c2] w (RetBB q r w) := by
  have HN := Lib.hid hn
  have HM := Lib.hid hm
  have HQ := Lib.hid hq
  have HG := Lib.hid hr
  cases r
  · obtain rfl : q = false := by rw [← hq]; simp [bothT, hr]
    clear hn hm hq hr
    go_enter Try.func22, Try.ntmps22
    go_wp2_with fail
    refine (areStackable_any _ _ _ ts lo hi _ HN.out hlen hs hB _ HG.out).mono ?_
    rintro e w1 ⟨rfl, hb1⟩
    go_wp2
    go_ret2
    exact ⟨rfl, hb1⟩
  · clear hn hm hq hr
    go_enter Try.func22, Try.ntmps22
    go_wp2_with fail
    refine (areStackable_any _ _ _ ts lo hi _ HN.out hlen hs hB _ HG.out).mono ?_
    rintro e w1 ⟨rfl, hb1⟩
    go_wp2_with fail
    refine (pileOf_any A A2 n c m c2 ts ks lo hi lo2 hi2 _ HN.out hlen HM.out hlen2 (hs.below hb1 hB) (by have := hb1.size; omega) (hs2.below hb1 hB2) (by have := hb1.size; omega) _ HQ.out).mono ?_
    rintro e w2 ⟨A3, n3, c3, B3, m3, d3, rfl, _, hb2⟩
    go_wp2
    go_ret2
    exact ⟨rfl, (hb1.trans (hb2.mono hb1.size)).alloc (by have := hb1.size; have := hb2.size; omega) _⟩
end Go.Proofs.Ytcfnjodcnejnkaa

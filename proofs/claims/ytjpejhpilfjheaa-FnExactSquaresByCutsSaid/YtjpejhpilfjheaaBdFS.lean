/-
  The given program's first cut, as it is told.
  Conditions: none.
-/
import Derived.Test.YtjpejhpilfjheaaBdKC
namespace Go.Proofs.Ytjpejhpilfjheaa
set_option linter.unusedVariables false
open Go.RowKit

/-- What is told of the first cut. -/
def fcR (ps : List (Int × Int × Int)) (tu : Bool) (x y : Int) : Bool × Int × Bool := if askP x y ps = true then cutR (fcP ps tu x.toNat y.toNat) x.toNat else (false, 0, false)
theorem fcR_no {ps : List (Int × Int × Int)} {tu : Bool} {x y : Int} (h : askP x y ps = false) : fcR ps tu x y = (false, 0, false) := by rw [fcR, h]; rfl
theorem fcR_yes {ps : List (Int × Int × Int)} {tu : Bool} {a b : Nat} (h : askP (a : Int) (b : Int) ps = true) : fcR ps tu (a : Int) (b : Int) = cutR (fcP ps tu a b) a := by rw [fcR, if_pos h]; rfl

set_option maxRecDepth 100000 in
set_option maxHeartbeats 1000000 in
theorem spec_FirstCut (x y : Int) (C0 : Option Addr) (np cp0 : Nat) (ps : List (Int × Int × Int)) (lo hi : Nat) (tu : Bool) (w : World) (hn : ps.length = np) (hlen : np ≤ 1048576) (hs : Seg w lo hi C0 (flat3 ps)) (hB : hi ≤ w.heap.size) (q : Bool) (hq : askP x y ps = q) (r : Bool × Int × Bool) (hr : fcR ps tu x y = r) :
    Calls Try.prog 26 #[.int .i64 x, .int .i64 y, .slice C0 np cp0, .bool tu] w (RetBIB r w) := by
  have HA := Lib.hid (bdAsked_any x y C0 np cp0 ps lo hi w hn hlen hs hB q hq)
  cases q
  · obtain rfl : (false, 0, false) = r := by rw [← hr]; exact (fcR_no hq).symm
    clear hr hn hs hq
    go_enter Try.func26, Try.ntmps26
    go_wp2_with fail
    refine HA.out.mono ?_
    rintro e w1 ⟨rfl, hb1⟩
    go_wp2
    go_ret3
    exact ⟨rfl, hb1⟩
  · obtain ⟨h1, h2⟩ := askP_true.1 hq
    obtain ⟨a, b, rfl, rfl, ⟨a1, a2⟩, b1, b2⟩ := bdB_nat h1
    have hra : cutR (fcP ps tu a b) a = r := by rw [← hr]; exact (fcR_yes hq).symm
    have hn4 := (goodPc_at h2).2.1
    have HN := Lib.hid hn
    have HS := Lib.hid hs
    have HG := Lib.hid h2
    have HR := Lib.hid hra
    clear hq hr hra hn hs h1 h2
    go_enter Try.func26, Try.ntmps26
    go_wp2_with fail
    refine HA.out.mono ?_
    rintro e w1 ⟨rfl, hb1⟩
    have HB1 := Lib.hid hb1
    have hz1 := hb1.size
    clear hb1
    go_wp2_with fail
    refine (bdValues_any a b C0 np cp0 ps lo hi tu _ a1 a2 b1 b2 HN.out (by rw [← HN.out]; exact hn4) (Lib.hid (goodPc_vals HG.out)) (Lib.hid (HS.out.below HB1.out hB)) (by omega)).mono ?_
    rintro e w2 ⟨F, rfl, ht, hb⟩
    have HB2 := Lib.hid (HB1.out.trans (hb.mono hz1))
    have HT := Lib.hid ht
    have hz2 := HB2.out.size
    clear ht hb
    go_wp2_with fail
    refine (bdCut_any a b a b F C0 np cp0 ps lo hi tu w2 HN.out hlen (HS.out.below HB2.out hB) (by omega) HG.out a2 b2 a1 (Nat.le_refl _) b1 (Nat.le_refl _) _ HT.out r HR.out).mono ?_
    rintro e w3 ⟨rfl, hb3⟩
    have HB3 := Lib.hid (HB2.out.trans (hb3.mono hz2))
    clear hb3
    go_wp2
    go_ret3
    exact ⟨rfl, HB3.out⟩
end Go.Proofs.Ytjpejhpilfjheaa

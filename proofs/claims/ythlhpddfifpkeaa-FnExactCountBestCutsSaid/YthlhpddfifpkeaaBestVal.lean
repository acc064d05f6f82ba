/-
  Both programs' BestRodValue and CountBestCuts.
  Conditions: the list has at most 1048576 numbers.
-/
import Derived.Test.YthlhpddfifpkeaaCutsB
namespace Go.Proofs.Ythlhpddfifpkeaa
set_option linter.unusedVariables false
open Go.RowKit

def numC (q : Bool) (v : Int) : Int := if q = true then v else 0

section
variable (A : Option Addr) (n c : Nat) (ps : List Int) (rod : Int) (lo hi : Nat) (w : World) (hn : ps.length = n) (hlen : n ≤ 1048576) (hs : Seg w lo hi A ps) (hB : hi ≤ w.heap.size) (q : Bool) (hq : cutB ps rod = q) (v : Int)
include hn hlen hs hB hq

set_option maxHeartbeats 400000 in
theorem spec_BestRodValue (hv : (fromE ps 1 rod.toNat).worth = v) :
    Calls Try.prog 43 #[.slice A n c, .int .i64 rod] w (RetI (numC q v) q w) := by
  have HN := Lib.hid hn
  have HQ := Lib.hid hq
  cases q
  · clear hn hq hv
    go_enter Try.func43, Try.ntmps43
    go_wp2_with (go_at_call 72; refine (rdPrices_any _ _ _ ps _ lo hi _ HN.out hlen hs _ HQ.out).mono ?_; rintro e w' ⟨rfl, rfl⟩)
    go_ret2
    exact ⟨rfl, Below.refl _ _⟩
  · obtain ⟨r, rfl, h60, hr0, hr, hp⟩ := cutB_at hn hq
    have HV := Lib.hid hv
    have HP := Lib.hid hp
    clear hn hq hv hp
    go_enter Try.func43, Try.ntmps43
    go_wp2_with fail
    refine (rdPrices_any _ _ _ ps _ lo hi _ HN.out hlen hs _ HQ.out).mono ?_
    rintro e w' ⟨rfl, rfl⟩
    go_wp2_with fail
    refine (rdWorth_one A n c ps r lo hi _ HN.out h60 hs hB HP.out hr).mono ?_
    rintro e w1 ⟨g1, g2, rfl, h1, h2, hb⟩
    have hc := h1.cell (worthR_get (Nat.le_refl r))
    rw [Int.toNat_natCast] at HV
    rw [HV.out] at hc
    clear h1 h2
    go_wp2
    go_ret2
    exact ⟨rfl, hb⟩

set_option maxHeartbeats 400000 in
theorem spec_CountBestCuts (hv : (fromE ps 1 rod.toNat).count = v) :
    Calls Try.prog 45 #[.slice A n c, .int .i64 rod] w (RetI (numC q v) q w) := by
  have HN := Lib.hid hn
  have HQ := Lib.hid hq
  cases q
  · clear hn hq hv
    go_enter Try.func45, Try.ntmps45
    go_wp2_with (go_at_call 72; refine (rdPrices_any _ _ _ ps _ lo hi _ HN.out hlen hs _ HQ.out).mono ?_; rintro e w' ⟨rfl, rfl⟩)
    go_ret2
    exact ⟨rfl, Below.refl _ _⟩
  · obtain ⟨r, rfl, h60, hr0, hr, hp⟩ := cutB_at hn hq
    have HV := Lib.hid hv
    have HP := Lib.hid hp
    clear hn hq hv hp
    go_enter Try.func45, Try.ntmps45
    go_wp2_with fail
    refine (rdPrices_any _ _ _ ps _ lo hi _ HN.out hlen hs _ HQ.out).mono ?_
    rintro e w' ⟨rfl, rfl⟩
    go_wp2_with fail
    refine (rdWorth_one A n c ps r lo hi _ HN.out h60 hs hB HP.out hr).mono ?_
    rintro e w1 ⟨g1, g2, rfl, h1, h2, hb⟩
    have hc := h2.cell (countR_get (Nat.le_refl r))
    rw [Int.toNat_natCast] at HV
    rw [HV.out] at hc
    clear h1 h2
    go_wp2
    go_ret2
    exact ⟨rfl, hb⟩

set_option maxHeartbeats 400000 in
theorem impl_BestRodValue (hv : (fromE ps 1 rod.toNat).worth = v) :
    Calls Try.prog 44 #[.slice A n c, .int .i64 rod] w (RetI (numC q v) q w) := by
  have HN := Lib.hid hn
  rcases cutB_parts (ps := ps) (rod := rod) hq with ⟨rfl, h1, h2⟩ | ⟨rfl, h1⟩ | ⟨rfl, h1, h2⟩
  · obtain ⟨r, rfl, h60, hr0, hr, hp⟩ := cutB_at hn hq
    have hn1 := some_one hn h1
    have HV := Lib.hid hv
    have HP := Lib.hid hp
    have H1 := Lib.hid h1
    have H2 := Lib.hid h2
    clear hn hq hv hp h1 h2
    go_enter Try.func44, Try.ntmps44
    go_wp2_with fail
    refine (arePrices_any _ _ _ ps lo hi _ HN.out hlen hs _ H1.out).mono ?_
    rintro e w' ⟨rfl, rfl⟩
    go_wp2_with fail
    refine (isRod_any _ _ _ H2.out).mono ?_
    rintro e w' ⟨rfl, rfl⟩
    go_wp2_with fail
    refine (bestCutsOf_any A n c ps r lo hi _ HN.out hn1 h60 hs hB HP.out hr).mono ?_
    rintro e w1 ⟨A1, c1, rfl, h1, hb⟩
    rw [Int.toNat_natCast] at HV
    rw [HV.out]
    clear h1
    have hfd := field_worth v A1 (fromE ps 1 r).first.length c1 (fromE ps 1 r).count
    go_wp2
    go_ret2
    exact ⟨rfl, hb⟩
  · have H1 := Lib.hid h1
    clear hn hq hv h1
    go_enter Try.func44, Try.ntmps44
    go_wp2_with (go_at_call 73; refine (arePrices_any _ _ _ ps lo hi _ HN.out hlen hs _ H1.out).mono ?_; rintro e w' ⟨rfl, rfl⟩)
    go_ret2
    exact ⟨rfl, Below.refl _ _⟩
  · have H1 := Lib.hid h1
    have H2 := Lib.hid h2
    clear hn hq hv h1 h2
    go_enter Try.func44, Try.ntmps44
    go_wp2_with (first
      | (go_at_call 73; refine (arePrices_any _ _ _ ps lo hi _ HN.out hlen hs _ H1.out).mono ?_; rintro e w' ⟨rfl, rfl⟩)
      | (go_at_call 75; refine (isRod_any _ _ _ H2.out).mono ?_; rintro e w' ⟨rfl, rfl⟩))
    go_ret2
    exact ⟨rfl, Below.refl _ _⟩

set_option maxHeartbeats 400000 in
theorem impl_CountBestCuts (hv : (fromE ps 1 rod.toNat).count = v) :
    Calls Try.prog 46 #[.slice A n c, .int .i64 rod] w (RetI (numC q v) q w) := by
  have HN := Lib.hid hn
  rcases cutB_parts (ps := ps) (rod := rod) hq with ⟨rfl, h1, h2⟩ | ⟨rfl, h1⟩ | ⟨rfl, h1, h2⟩
  · obtain ⟨r, rfl, h60, hr0, hr, hp⟩ := cutB_at hn hq
    have hn1 := some_one hn h1
    have HV := Lib.hid hv
    have HP := Lib.hid hp
    have H1 := Lib.hid h1
    have H2 := Lib.hid h2
    clear hn hq hv hp h1 h2
    go_enter Try.func46, Try.ntmps46
    go_wp2_with fail
    refine (arePrices_any _ _ _ ps lo hi _ HN.out hlen hs _ H1.out).mono ?_
    rintro e w' ⟨rfl, rfl⟩
    go_wp2_with fail
    refine (isRod_any _ _ _ H2.out).mono ?_
    rintro e w' ⟨rfl, rfl⟩
    go_wp2_with fail
    refine (bestCutsOf_any A n c ps r lo hi _ HN.out hn1 h60 hs hB HP.out hr).mono ?_
    rintro e w1 ⟨A1, c1, rfl, h1, hb⟩
    rw [Int.toNat_natCast] at HV
    rw [HV.out]
    clear h1
    have hfd := field_count (fromE ps 1 r).worth A1 (fromE ps 1 r).first.length c1 v
    go_wp2
    go_ret2
    exact ⟨rfl, hb⟩
  · have H1 := Lib.hid h1
    clear hn hq hv h1
    go_enter Try.func46, Try.ntmps46
    go_wp2_with (go_at_call 73; refine (arePrices_any _ _ _ ps lo hi _ HN.out hlen hs _ H1.out).mono ?_; rintro e w' ⟨rfl, rfl⟩)
    go_ret2
    exact ⟨rfl, Below.refl _ _⟩
  · have H1 := Lib.hid h1
    have H2 := Lib.hid h2
    clear hn hq hv h1 h2
    go_enter Try.func46, Try.ntmps46
    go_wp2_with (first
      | (go_at_call 73; refine (arePrices_any _ _ _ ps lo hi _ HN.out hlen hs _ H1.out).mono ?_; rintro e w' ⟨rfl, rfl⟩)
      | (go_at_call 75; refine (isRod_any _ _ _ H2.out).mono ?_; rintro e w' ⟨rfl, rfl⟩))
    go_ret2
    exact ⟨rfl, Below.refl _ _⟩
end
end Go.Proofs.Ythlhpddfifpkeaa

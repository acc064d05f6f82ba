/-
  Both programs' WorthOfCut.
  Conditions: the lists have at most 1048576 numbers.
-/
import Derived.Test.YthlhpddfifpkeaaPrices
import Derived.Test.YthlhpddfifpkeaaMem
namespace Go.Proofs.Ythlhpddfifpkeaa
set_option linter.unusedVariables false
open Go.RowKit

def numW (q : Bool) (v : Int) : Int := if q = true then v else 0

/-- The prices of the first k pieces. -/
def worthTo (ps zs : List Int) : Nat → Int
  | 0 => 0
  | k + 1 => worthTo ps zs k + ps.getD (zs.getD k 0 - 1).toNat 0

theorem worthTo_step {ps zs : List Int} {k j : Nat} {p : Int} (hu : zs[k]? = some ((j + 1 : Nat) : Int)) (hp : ps[j]? = some p) : worthTo ps zs (k + 1) = worthTo ps zs k + p := by
  have e : (((j + 1 : Nat) : Int) - 1).toNat = j := by omega
  simp only [worthTo, List.getD, hu, Option.getD_some, e, hp]

theorem worthTo_bd {ps zs : List Int} (hp : ∀ (k : Nat) u, ps[k]? = some u → 0 ≤ u ∧ u ≤ 1000) (k : Nat) : 0 ≤ worthTo ps zs k ∧ worthTo ps zs k ≤ 1000 * (k : Int) := by
  have gp : ∀ j, 0 ≤ ps.getD j 0 ∧ ps.getD j 0 ≤ 1000 := fun j => by
    rcases hh : ps[j]? with _ | u
    · simp [List.getD, hh]
    · have := hp j u hh; simp [List.getD, hh]; omega
  induction k with
  | zero => simp [worthTo]
  | succ k ih =>
    have := gp (zs.getD k 0 - 1).toNat
    simp only [worthTo]
    omega

def worthB (ps zs : List Int) : Bool := someB 60 1000 ps && decide ((zs.length : Int) ≤ 60) && allB zs 1 (ps.length : Int)

theorem worthB_1 {ps zs : List Int} (h : someB 60 1000 ps = false) : worthB ps zs = false := by rw [worthB, h, Bool.false_and, Bool.false_and]
theorem worthB_2 {ps zs : List Int} {m : Nat} (hm : zs.length = m) (h : 60 < m) : worthB ps zs = false := by
  rw [worthB, hm, decide_eq_false (by omega), Bool.and_false, Bool.false_and]
theorem worthB_3 {ps zs : List Int} {m : Nat} (hm : zs.length = m) (h1 : someB 60 1000 ps = true) (h2 : m ≤ 60) : worthB ps zs = allB zs 1 (ps.length : Int) := by
  rw [worthB, h1, hm, decide_eq_true (by omega), Bool.true_and, Bool.true_and]

theorem piece_at {n : Nat} {u : Int} (h : inB u 1 (n : Int) = true) : ∃ j : Nat, u = ((j + 1 : Nat) : Int) ∧ j < n := by
  rw [inB_true] at h
  exact ⟨(u - 1).toNat, by omega, by omega⟩

section
variable (A D : Option Addr) (n c m d : Nat) (ps zs : List Int) (lo hi lo' hi' : Nat) (w : World) (hn : ps.length = n) (hlen : n ≤ 1048576) (hm : zs.length = m) (hm2 : m ≤ 1048576) (hs : Seg w lo hi A ps) (ho : Seg w lo' hi' D zs) (q : Bool) (hq : worthB ps zs = q)
include hn hlen hm hm2 hs ho hq

set_option maxHeartbeats 1000000 in
theorem spec_WorthOfCut :
    Calls Try.prog 41 #[.slice A n c, .slice D m d] w (RetI (numW q (worthTo ps zs m)) q w) := by
  have HN := Lib.hid hn
  have HM := Lib.hid hm
  by_cases h1 : someB 60 1000 ps = true
  case neg =>
    have h1' : someB 60 1000 ps = false := by simpa using h1
    obtain rfl : q = false := by rw [← hq, worthB_1 h1']
    have H1 : Hid (cutB ps 1 = false) := by rw [cutB, h1']; exact rfl
    clear hn hm hq h1 h1'
    go_enter Try.func41, Try.ntmps41
    go_wp2_with (go_at_call 72; refine (rdPrices_any _ _ _ ps _ lo hi _ HN.out hlen hs _ H1.out).mono ?_; rintro e w' ⟨rfl, rfl⟩)
    go_ret2
    exact ⟨rfl, Below.refl _ _⟩
  have H1 : Hid (cutB ps 1 = true) := by rw [cutB, h1]; exact rfl
  have H2 := Lib.hid (someB_at h1)
  by_cases h2 : 60 < m
  · obtain rfl : q = false := by rw [← hq, worthB_2 hm h2]
    have hd : decide (60 < (m : Int)) = true := by rw [decide_eq_true_iff]; omega
    clear hn hm hq h1
    go_enter Try.func41, Try.ntmps41
    go_wp2_with (go_at_call 72; refine (rdPrices_any _ _ _ ps _ lo hi _ HN.out hlen hs _ H1.out).mono ?_; rintro e w' ⟨rfl, rfl⟩)
    go_ret2
    exact ⟨rfl, Below.refl _ _⟩
  have hd : decide (60 < (m : Int)) = false := by rw [decide_eq_false_iff_not]; omega
  have H3 : Hid (allB zs 1 (n : Int) = q) := by rw [← hq, worthB_3 hm h1 (by omega), hn]; exact rfl
  clear hn hm hq h1
  cases q
  · go_enter Try.func41, Try.ntmps41
    go_wp2_with (first
      | (go_at_call 72; refine (rdPrices_any _ _ _ ps _ lo hi _ HN.out hlen hs _ H1.out).mono ?_; rintro e w' ⟨rfl, rfl⟩)
      | (go_at_call 69; refine (l1All_any _ _ _ zs _ _ lo' hi' _ HM.out hm2 ho _ H3.out).mono ?_; rintro e w' ⟨rfl, rfl⟩))
    go_ret2
    exact ⟨rfl, Below.refl _ _⟩
  · go_enter Try.func41, Try.ntmps41
    go_wp2_with (first
      | (go_at_call 72; refine (rdPrices_any _ _ _ ps _ lo hi _ HN.out hlen hs _ H1.out).mono ?_; rintro e w' ⟨rfl, rfl⟩)
      | (go_at_call 69; refine (l1All_any _ _ _ zs _ _ lo' hi' _ HM.out hm2 ho _ H3.out).mono ?_; rintro e w' ⟨rfl, rfl⟩))
    go_loop [6, 26] (fun s i => ∃ k : Nat, k ≤ m ∧ i = .int .i64 k ∧ s = .int .i64 (worthTo ps zs k)) (fun _ i => m - (intOf i).toNat)
    case atStart => exact ⟨0, Nat.zero_le _, rfl, rfl⟩
    case round =>
      obtain ⟨k, hk, rfl, rfl⟩ := hrel
      by_cases hlt : k < m
      · obtain ⟨b, off, u, rfl, _, _, hx, hc⟩ := ho.at_ (k := k) (by rw [HM.out]; exact hlt)
        have hin : inB u 1 (n : Int) = true := by
          by_cases e : inB u 1 (n : Int) = true
          · exact e
          · have := H3.out; rw [allB_not hx (by simpa using e)] at this; cases this
        obtain ⟨j, rfl, hj⟩ := piece_at hin
        obtain ⟨b', off', p, rfl, _, _, hx2, hc2⟩ := hs.at_ (k := j) (by rw [HN.out]; exact hj)
        have HS := Lib.hid (worthTo_step hx hx2)
        obtain ⟨hb1, hb2⟩ := worthTo_bd (zs := zs) H2.out k
        obtain ⟨hp1, hp2⟩ := H2.out j p hx2
        clear hx hx2 hin
        obtain ⟨s, hs'⟩ : ∃ s, worthTo ps zs k = s := ⟨_, rfl⟩
        rw [hs'] at HS hb1 hb2
        rw [hs']
        clear hs'
        go_wp2
        go_round
        case rel => exact ⟨k + 1, by omega, by go_num, by rw [HS.out]⟩
        case measure => simp [intOf]; omega
      · obtain rfl : k = m := by omega
        go_wp2
        go_ret2
        exact ⟨rfl, Below.refl _ _⟩

set_option maxHeartbeats 1000000 in
theorem impl_WorthOfCut :
    Calls Try.prog 42 #[.slice A n c, .slice D m d] w (RetI (numW q (worthTo ps zs m)) q w) := by
  have HN := Lib.hid hn
  have HM := Lib.hid hm
  by_cases h1 : someB 60 1000 ps = true
  case neg =>
    have h1' : someB 60 1000 ps = false := by simpa using h1
    obtain rfl : q = false := by rw [← hq, worthB_1 h1']
    have H1 := Lib.hid h1'
    clear hn hm hq h1 h1'
    go_enter Try.func42, Try.ntmps42
    go_wp2_with (go_at_call 73; refine (arePrices_any _ _ _ ps lo hi _ HN.out hlen hs _ H1.out).mono ?_; rintro e w' ⟨rfl, rfl⟩)
    go_ret2
    exact ⟨rfl, Below.refl _ _⟩
  have H1 := Lib.hid h1
  have H2 := Lib.hid (someB_at h1)
  by_cases h2 : 60 < m
  · obtain rfl : q = false := by rw [← hq, worthB_2 hm h2]
    have hd : decide (60 < (m : Int)) = true := by rw [decide_eq_true_iff]; omega
    clear hn hm hq h1
    go_enter Try.func42, Try.ntmps42
    go_wp2_with (go_at_call 73; refine (arePrices_any _ _ _ ps lo hi _ HN.out hlen hs _ H1.out).mono ?_; rintro e w' ⟨rfl, rfl⟩)
    go_ret2
    exact ⟨rfl, Below.refl _ _⟩
  have hd : decide (60 < (m : Int)) = false := by rw [decide_eq_false_iff_not]; omega
  have H3 : Hid (allB zs 1 (n : Int) = q) := by rw [← hq, worthB_3 hm h1 (by omega), hn]; exact rfl
  clear hn hm hq h1
  go_enter Try.func42, Try.ntmps42
  go_wp2_with (go_at_call 73; refine (arePrices_any _ _ _ ps lo hi _ HN.out hlen hs _ H1.out).mono ?_; rintro e w' ⟨rfl, rfl⟩)
  go_loop [6, 19] (fun s i => ∃ k : Nat, k ≤ m ∧ i = .int .i64 k ∧ s = .int .i64 (worthTo ps zs k) ∧ ∀ (j : Nat) u, j < k → zs[j]? = some u → inB u 1 (n : Int) = true) (fun _ i => m - (intOf i).toNat)
  case atStart => exact ⟨0, Nat.zero_le _, rfl, rfl, fun j u hj => by omega⟩
  case round =>
    obtain ⟨k, hk, rfl, rfl, hall⟩ := hrel
    have HA := Lib.hid hall
    clear hall
    by_cases hlt : k < m
    · obtain ⟨b, off, u, rfl, _, _, hx, hc⟩ := ho.at_ (k := k) (by rw [HM.out]; exact hlt)
      by_cases hin : inB u 1 (n : Int) = true
      · have HI := Lib.hid hin
        obtain ⟨j, rfl, hj⟩ := piece_at hin
        obtain ⟨b', off', p, rfl, _, _, hx2, hc2⟩ := hs.at_ (k := j) (by rw [HN.out]; exact hj)
        have HX := Lib.hid hx
        have HS := Lib.hid (worthTo_step hx hx2)
        obtain ⟨hb1, hb2⟩ := worthTo_bd (zs := zs) H2.out k
        obtain ⟨hp1, hp2⟩ := H2.out j p hx2
        have hd1 : decide (((j + 1 : Nat) : Int) < 1) = false := by rw [decide_eq_false_iff_not]; omega
        have hd2 : decide ((n : Int) < ((j + 1 : Nat) : Int)) = false := by rw [decide_eq_false_iff_not]; omega
        clear hx hx2 hin
        obtain ⟨s, hs'⟩ : ∃ s, worthTo ps zs k = s := ⟨_, rfl⟩
        rw [hs'] at HS hb1 hb2
        rw [hs']
        clear hs'
        go_wp2
        go_round
        case rel =>
          refine ⟨k + 1, by omega, by go_num, by rw [HS.out], fun i v hi hv => ?_⟩
          by_cases e : i = k
          · subst e; rw [HX.out] at hv; injection hv with hv; subst hv; exact HI.out
          · exact HA.out i v (by omega) hv
        case measure => simp [intOf]; omega
      · have hin' : inB u 1 (n : Int) = false := by simpa using hin
        obtain rfl : q = false := by rw [← H3.out, allB_not hx hin']
        rw [inB_false] at hin'
        clear hx hin
        by_cases hu1 : u < 1
        · have hd1 : decide (u < 1) = true := by simpa using hu1
          go_wp2
          go_ret2
          exact ⟨rfl, Below.refl _ _⟩
        · have hd1 : decide (u < 1) = false := by simpa using hu1
          have hd2 : decide ((n : Int) < u) = true := by rw [decide_eq_true_iff]; omega
          go_wp2
          go_ret2
          exact ⟨rfl, Below.refl _ _⟩
    · obtain rfl : k = m := by omega
      obtain rfl : q = true := by rw [← H3.out, allB_of fun j u hj => HA.out j u (by rw [← HM.out]; exact (List.getElem?_eq_some_iff.1 hj).1) hj]
      go_wp2
      go_ret2
      exact ⟨rfl, Below.refl _ _⟩
end
end Go.Proofs.Ythlhpddfifpkeaa

/-
  Both programs' tests for a rod, lengths and orders, and RodsBound.
  Conditions: the lists have at most 1048576 numbers.
-/
import Derived.Test.YthlhpddfifpkeaaCutBy
import Derived.Test.YthlhpddfifpkeaaOrders
namespace Go.Proofs.Ythlhpddfifpkeaa
set_option linter.unusedVariables false
open Go.RowKit

/-- No piece is ordered that is longer than the rod. -/
def longB (rod : Int) (zs cs : List Int) : Bool := (List.range cs.length).all fun k => decide (cs.getD k 0 ≤ 0 ∨ zs.getD k 0 ≤ rod)

theorem longB_true {rod : Int} {zs cs : List Int} (hl : cs.length ≤ zs.length) : longB rod zs cs = true ↔ ∀ (k : Nat) u z, cs[k]? = some u → zs[k]? = some z → u ≤ 0 ∨ z ≤ rod := by
  simp only [longB, List.all_eq_true, List.mem_range, decide_eq_true_iff]
  constructor
  · intro h k u z hu hz
    have h1 := h k (List.getElem?_eq_some_iff.1 hu).1
    simpa [List.getD, hu, hz] using h1
  · intro h k hk
    have h1 := h k _ _ (List.getElem?_eq_getElem hk) (List.getElem?_eq_getElem (by omega))
    simpa [List.getD, hk, show k < zs.length by omega] using h1

theorem longB_not {rod : Int} {zs cs : List Int} (hl : cs.length ≤ zs.length) {k : Nat} {u z : Int} (hu : cs[k]? = some u) (hz : zs[k]? = some z) (h1 : 0 < u) (h2 : rod < z) : longB rod zs cs = false := by
  by_cases h : longB rod zs cs = true
  · have := (longB_true hl).1 h k u z hu hz
    omega
  · simpa using h

def ordersB (rod : Int) (zs cs : List Int) : Bool := rodB rod zs && (someB 4 6 cs && (decide (cs.length = zs.length) && (decide (cs.sum ≤ 9) && longB rod zs cs)))

section
variable (rod : Int) (A D : Option Addr) (n c m d : Nat) (zs cs : List Int) (lo hi lo' hi' : Nat) (w : World) (hn : zs.length = n) (hlen : n ≤ 1048576) (hm : cs.length = m) (hm2 : m ≤ 1048576) (hs : Seg w lo hi A zs) (ho : Seg w lo' hi' D cs) (q : Bool) (hq : ordersB rod zs cs = q)
include hn hlen hm hm2 hs ho hq

set_option maxHeartbeats 1000000 in
theorem rdOrders_any :
    Calls Try.prog 62 #[.int .i64 rod, .slice A n c, .slice D m d] w fun e w' => e = .returned (.bool q) ∧ w = w' := by
  have HN := Lib.hid hn
  have HM := Lib.hid hm
  by_cases h1 : rodB rod zs = true
  case neg =>
    have h1' : rodB rod zs = false := by simpa using h1
    obtain rfl : q = false := by rw [← hq, ordersB, h1', Bool.false_and]
    have H1 := Lib.hid h1'
    clear hn hm hq h1 h1'
    go_enter Try.func62, Try.ntmps62
    go_wp2_with (go_at_call 48; refine (rdAsked_any _ _ _ _ zs lo hi _ HN.out hlen hs _ H1.out).mono ?_; rintro e w' ⟨rfl, rfl⟩)
    go_ret
    exact ⟨rfl, rfl⟩
  have H1 := Lib.hid h1
  by_cases h2 : someB 4 6 cs = true
  case neg =>
    have h2' : someB 4 6 cs = false := by simpa using h2
    obtain rfl : q = false := by rw [← hq, ordersB, h2', Bool.false_and, Bool.and_false]
    have H2 := Lib.hid h2'
    clear hn hm hq h1 h2 h2'
    go_enter Try.func62, Try.ntmps62
    go_wp2_with (first | (go_at_call 48; refine (rdAsked_any _ _ _ _ zs lo hi _ HN.out hlen hs _ H1.out).mono ?_; rintro e w' ⟨rfl, rfl⟩) | (go_at_call 58; refine (rdCounts_any _ _ _ cs lo' hi' _ HM.out hm2 ho _ H2.out).mono ?_; rintro e w' ⟨rfl, rfl⟩))
    go_ret
    exact ⟨rfl, rfl⟩
  have H2 := Lib.hid h2
  by_cases h3 : m = n
  case neg =>
    obtain rfl : q = false := by rw [← hq, ordersB, hm, hn, decide_eq_false h3, Bool.false_and, Bool.and_false, Bool.and_false]
    have hne : ((m : Int) == (n : Int)) = false := by rw [beq_eq_false_iff_ne]; omega
    clear hn hm hq h1 h2
    go_enter Try.func62, Try.ntmps62
    go_wp2_with (first | (go_at_call 48; refine (rdAsked_any _ _ _ _ zs lo hi _ HN.out hlen hs _ H1.out).mono ?_; rintro e w' ⟨rfl, rfl⟩) | (go_at_call 58; refine (rdCounts_any _ _ _ cs lo' hi' _ HM.out hm2 ho _ H2.out).mono ?_; rintro e w' ⟨rfl, rfl⟩))
    go_ret
    exact ⟨rfl, rfl⟩
  subst h3
  obtain ⟨s, hs'⟩ : ∃ s, cs.sum = s := ⟨_, rfl⟩
  have HS := Lib.hid hs'
  by_cases h4 : s ≤ 9
  case neg =>
    obtain rfl : q = false := by rw [← hq, ordersB, hs', decide_eq_false h4, Bool.false_and, Bool.and_false, Bool.and_false, Bool.and_false]
    have hd : decide (9 < s) = true := by rw [decide_eq_true_iff]; omega
    clear hn hm hq h1 h2 hs'
    go_enter Try.func62, Try.ntmps62
    go_wp2_with (first | (go_at_call 48; refine (rdAsked_any _ _ _ _ zs lo hi _ HN.out hlen hs _ H1.out).mono ?_; rintro e w' ⟨rfl, rfl⟩) | (go_at_call 58; refine (rdCounts_any _ _ _ cs lo' hi' _ HM.out hm2 ho _ H2.out).mono ?_; rintro e w' ⟨rfl, rfl⟩) | (go_at_call 59; refine (bxSumC_any _ _ _ cs lo' hi' _ HM.out ho H2.out _ HS.out).mono ?_; rintro e w' ⟨rfl, rfl⟩))
    go_ret
    exact ⟨rfl, rfl⟩
  have hd : decide (9 < s) = false := by rw [decide_eq_false_iff_not]; omega
  have HL := Lib.hid (show longB rod zs cs = q by rw [← hq, ordersB, h1, h2, hm, hn, hs', decide_eq_true rfl, decide_eq_true h4, Bool.true_and, Bool.true_and, Bool.true_and, Bool.true_and])
  clear hn hm hq h1 h2 hs'
  go_enter Try.func62, Try.ntmps62
  go_wp2_with (first | (go_at_call 48; refine (rdAsked_any _ _ _ _ zs lo hi _ HN.out hlen hs _ H1.out).mono ?_; rintro e w' ⟨rfl, rfl⟩) | (go_at_call 58; refine (rdCounts_any _ _ _ cs lo' hi' _ HM.out hm2 ho _ H2.out).mono ?_; rintro e w' ⟨rfl, rfl⟩) | (go_at_call 59; refine (bxSumC_any _ _ _ cs lo' hi' _ HM.out ho H2.out _ HS.out).mono ?_; rintro e w' ⟨rfl, rfl⟩))
  go_loop [32] (fun i => ∃ k : Nat, k ≤ m ∧ i = .int .i64 k ∧ ∀ (j : Nat) u z, j < k → cs[j]? = some u → zs[j]? = some z → u ≤ 0 ∨ z ≤ rod) (fun i => m - (intOf i).toNat)
  case atStart => exact ⟨0, Nat.zero_le _, rfl, fun j u z hj => by omega⟩
  case round =>
    obtain ⟨k, hk, rfl, hall⟩ := hrel
    have HA := Lib.hid hall
    clear hall
    by_cases hlt : k < m
    · obtain ⟨b, off, u, rfl, _, _, hx, hc⟩ := ho.at_ (k := k) (by rw [HM.out]; exact hlt)
      obtain ⟨b', off', z, rfl, _, _, hx2, hc2⟩ := hs.at_ (k := k) (by rw [HN.out]; exact hlt)
      have HX := Lib.hid hx
      have HX2 := Lib.hid hx2
      clear hx hx2
      have hrel : ∀ hnew : u ≤ 0 ∨ z ≤ rod, ∀ (j : Nat) v y, j < k + 1 → cs[j]? = some v → zs[j]? = some y → v ≤ 0 ∨ y ≤ rod := fun hnew j v y hj hv hy => by
        by_cases e : j = k
        · subst e; rw [HX.out] at hv; injection hv with hv; subst hv; rw [HX2.out] at hy; injection hy with hy; subst hy; exact hnew
        · exact HA.out j v y (by omega) hv hy
      have HR := Lib.hid hrel
      clear hrel
      by_cases hu : 0 < u
      · have hd1 : decide (0 < u) = true := by simpa using hu
        by_cases hz : rod < z
        · have hd2 : decide (rod < z) = true := by simpa using hz
          obtain rfl : q = false := by rw [← HL.out, longB_not (by rw [HM.out, HN.out]; exact Nat.le_refl _) HX.out HX2.out hu hz]
          go_wp2
          go_ret
          exact ⟨rfl, rfl⟩
        · have hd2 : decide (rod < z) = false := by simpa using hz
          go_wp2
          go_round
          case rel => exact ⟨k + 1, by omega, by go_num, HR.out (.inr (by omega))⟩
          case measure => simp [intOf]; omega
      · have hd1 : decide (0 < u) = false := by simpa using hu
        go_wp2
        go_round
        case rel => exact ⟨k + 1, by omega, by go_num, HR.out (.inl (by omega))⟩
        case measure => simp [intOf]; omega
    · obtain rfl : k = m := by omega
      obtain rfl : q = true := by
        rw [← HL.out, longB_true (by rw [HM.out, HN.out]; exact Nat.le_refl _)]
        exact fun j u z hu hz => HA.out j u z (by rw [← HM.out]; exact (List.getElem?_eq_some_iff.1 hu).1) hu hz
      go_wp2
      go_ret
      exact ⟨rfl, rfl⟩
end
end Go.Proofs.Ythlhpddfifpkeaa

/-
  The given program's tests for a rod, lengths and a pattern, and how long pieces are together.
  Conditions: the lists have at most 1048576 numbers.
-/
import Derived.Test.YtoheoojpmndhoabLens
import Derived.Test.YtoheoojpmndhoabMem
import Derived.Deep.QuietTactic
namespace Go.Proofs.Ytoheoojpmndhoab
set_option linter.unusedVariables false
open Go.RowKit

theorem Seg.drewN {w : World} {lo hi : Nat} {A : Option Addr} {xs : List Int} (h : Seg w lo hi A xs) (k : Nat) : Seg (w.drewN k) lo hi A xs := h.keep fun _ _ _ => rfl

def numQ (q : Bool) (v : Int) : Int := if q = true then v else 0

set_option maxHeartbeats 400000 in
theorem rdAsked_any (rod : Int) (A : Option Addr) (n c : Nat) (zs : List Int) (lo hi : Nat) (w : World) (hn : zs.length = n) (hlen : n ≤ 1048576) (hs : Seg w lo hi A zs) (b : Bool) (hb : rodB rod zs = b) :
    Calls Try.prog 27 #[.int .i64 rod, .slice A n c] w fun e w' => e = .returned (.bool b) ∧ w = w' := by
  by_cases h1 : inB rod 1 60 = true
  · have h2 : lensB zs = b := by rw [← hb, rodB, h1, Bool.true_and]
    have HN := Lib.hid hn
    have H2 := Lib.hid h2
    clear hb hn h2
    cases b
    all_goals
      go_enter Try.func27, Try.ntmps27
      go_wp2_with (first
        | (go_at_call 48; refine (l1In_any _ _ _ true h1 _).mono ?_; rintro e w' ⟨rfl, rfl⟩)
        | (go_at_call 49; refine (rdLengths_any _ _ _ zs lo hi _ HN.out hlen hs _ H2.out).mono ?_; rintro e w' ⟨rfl, rfl⟩))
      go_ret
      exact ⟨rfl, rfl⟩
  · have h1' : inB rod 1 60 = false := by simpa using h1
    obtain rfl : b = false := by rw [← hb, rodB, h1', Bool.false_and]
    clear hb h1 hn
    go_enter Try.func27, Try.ntmps27
    go_wp2_with (go_at_call 48; refine (l1In_any _ _ _ false h1' _).mono ?_; rintro e w' ⟨rfl, rfl⟩)
    go_ret
    exact ⟨rfl, rfl⟩

set_option maxHeartbeats 1000000 in
theorem rdUsed_any (A D : Option Addr) (n c m d : Nat) (zs ps : List Int) (lo hi lo' hi' : Nat) (w : World) (hn : zs.length = n) (hm : ps.length = m) (hmn : m ≤ n) (h4 : n ≤ 4) (hs : Seg w lo hi A zs) (ho : Seg w lo' hi' D ps)
    (hz : ∀ (k : Nat) u, zs[k]? = some u → 1 ≤ u ∧ u ≤ 60) (hp : ∀ (k : Nat) u, ps[k]? = some u → 0 ≤ u ∧ u ≤ 60) (v : Int) (hv : usedTo zs ps m = v) :
    Calls Try.prog 19 #[.slice A n c, .slice D m d] w fun e w' => e = .returned (.int .i64 v) ∧ w = w' := by
  have HN := Lib.hid hn
  have HM := Lib.hid hm
  have HV := Lib.hid hv
  have HZ := Lib.hid hz
  have HP := Lib.hid hp
  clear hn hm hv hz hp
  go_enter Try.func19, Try.ntmps19
  go_wp2
  go_loop [5, 10] (fun s i => ∃ k : Nat, k ≤ m ∧ i = .int .i64 k ∧ s = .int .i64 (usedTo zs ps k)) (fun _ i => m - (intOf i).toNat)
  case atStart => exact ⟨0, Nat.zero_le _, rfl, rfl⟩
  case round =>
    obtain ⟨k, hk, rfl, rfl⟩ := hrel
    by_cases hlt : k < m
    · obtain ⟨b, off, u, rfl, _, _, hx, hc⟩ := ho.at_ (k := k) (by rw [HM.out]; exact hlt)
      obtain ⟨b', off', z, rfl, _, _, hx2, hc2⟩ := hs.at_ (k := k) (by rw [HN.out]; omega)
      have HS := Lib.hid (usedTo_step hx hx2)
      obtain ⟨hb1, hb2⟩ := usedTo_bd HZ.out HP.out k
      obtain ⟨hu1, hu2⟩ := HP.out k u hx
      obtain ⟨hz1, hz2⟩ := HZ.out k z hx2
      obtain ⟨hm1, hm2⟩ := mul_bd hu1 hu2 (by omega : 0 ≤ z) hz2
      clear hx hx2
      obtain ⟨s, hs'⟩ : ∃ s, usedTo zs ps k = s := ⟨_, rfl⟩
      rw [hs'] at HS hb1 hb2
      rw [hs']
      clear hs'
      obtain ⟨t, ht⟩ : ∃ t, u * z = t := ⟨_, rfl⟩
      rw [ht] at HS hm1 hm2
      go_wp2
      go_round
      case rel => exact ⟨k + 1, by omega, by go_num, by rw [HS.out]⟩
      case measure => simp [intOf]; omega
    · obtain rfl : k = m := by omega
      go_wp2
      go_ret
      exact ⟨by rw [HV.out]; rfl, rfl⟩

/-- What is known of lengths and a pattern of them. -/
theorem both_rod {rod : Int} {n m : Nat} {zs ps : List Int} (hn : zs.length = n) (hm : ps.length = m) (h : bothR rod zs ps = true) (v : Int) (hv : usedTo zs ps m = v) : m = n ∧ n ≤ 4 ∧ 1 ≤ n ∧ (1 ≤ rod ∧ rod ≤ 60) ∧ (∀ (k : Nat) u, zs[k]? = some u → 1 ≤ u ∧ u ≤ 60) ∧ (∀ (k : Nat) u, ps[k]? = some u → 0 ≤ u ∧ u ≤ 60) ∧ 0 ≤ v ∧ v ≤ rod ∧ lensB zs = true := by
  simp only [bothR, Bool.and_eq_true] at h
  obtain ⟨h1, h2⟩ := h
  obtain ⟨h3, h4⟩ := rodB_true.1 h1
  obtain ⟨⟨h5, h6⟩, h7⟩ := patB_true.1 h2
  obtain ⟨h8, h9, h10⟩ := lensB_at h4
  have h11 := usedTo_bd h10 (fun k u hu => allB_at h6 k u hu) m
  rw [hv] at h11
  have e : m = n := by omega
  rw [← h5, hm, hv] at h7
  exact ⟨e, by omega, by omega, h3, h10, fun k u hu => allB_at h6 k u hu, h11.1, h7, h4⟩

section
variable (rod : Int) (A D : Option Addr) (n c m d : Nat) (zs ps : List Int) (lo hi lo' hi' : Nat) (w : World) (hn : zs.length = n) (hlen : n ≤ 1048576) (hm : ps.length = m) (hm2 : m ≤ 1048576) (hs : Seg w lo hi A zs) (ho : Seg w lo' hi' D ps)
include hn hlen hm hm2 hs ho

end
end Go.Proofs.Ytoheoojpmndhoab

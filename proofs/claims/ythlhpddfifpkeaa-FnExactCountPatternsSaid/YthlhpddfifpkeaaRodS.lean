/-
  The given program's tests for a rod, lengths and a pattern, and how long pieces are together.
  Conditions: the lists have at most 1048576 numbers.
-/
import Derived.Test.YthlhpddfifpkeaaLens
import Derived.Test.YthlhpddfifpkeaaMem
import Derived.Deep.QuietTactic
namespace Go.Proofs.Ythlhpddfifpkeaa
set_option linter.unusedVariables false
open Go.RowKit

theorem Seg.drewN {w : World} {lo hi : Nat} {A : Option Addr} {xs : List Int} (h : Seg w lo hi A xs) (k : Nat) : Seg (w.drewN k) lo hi A xs := h.keep fun _ _ _ => rfl

def numQ (q : Bool) (v : Int) : Int := if q = true then v else 0

set_option maxHeartbeats 400000 in
theorem rdAsked_any (rod : Int) (A : Option Addr) (n c : Nat) (zs : List Int) (lo hi : Nat) (w : World) (hn : zs.length = n) (hlen : n ≤ 1048576) (hs : Seg w lo hi A zs) (b : Bool) (hb : rodB rod zs = b) :
    Calls Try.prog 48 #[.int .i64 rod, .slice A n c] w fun e w' => e = .returned (.bool b) ∧ w = w' := by
  by_cases h1 : inB rod 1 60 = true
  · have h2 : lensB zs = b := by rw [← hb, rodB, h1, Bool.true_and]
    have HN := Lib.hid hn
    have H2 := Lib.hid h2
    clear hb hn h2
    cases b
    all_goals
      go_enter Try.func48, Try.ntmps48
      go_wp2_with (first
        | (go_at_call 77; refine (l1In_any _ _ _ true h1 _).mono ?_; rintro e w' ⟨rfl, rfl⟩)
        | (go_at_call 47; refine (rdLengths_any _ _ _ zs lo hi _ HN.out hlen hs _ H2.out).mono ?_; rintro e w' ⟨rfl, rfl⟩))
      go_ret
      exact ⟨rfl, rfl⟩
  · have h1' : inB rod 1 60 = false := by simpa using h1
    obtain rfl : b = false := by rw [← hb, rodB, h1', Bool.false_and]
    clear hb h1 hn
    go_enter Try.func48, Try.ntmps48
    go_wp2_with (go_at_call 77; refine (l1In_any _ _ _ false h1' _).mono ?_; rintro e w' ⟨rfl, rfl⟩)
    go_ret
    exact ⟨rfl, rfl⟩

set_option maxHeartbeats 1000000 in
theorem rdUsed_any (A D : Option Addr) (n c m d : Nat) (zs ps : List Int) (lo hi lo' hi' : Nat) (w : World) (hn : zs.length = n) (hm : ps.length = m) (hmn : m ≤ n) (h4 : n ≤ 4) (hs : Seg w lo hi A zs) (ho : Seg w lo' hi' D ps)
    (hz : ∀ (k : Nat) u, zs[k]? = some u → 1 ≤ u ∧ u ≤ 60) (hp : ∀ (k : Nat) u, ps[k]? = some u → 0 ≤ u ∧ u ≤ 60) (v : Int) (hv : usedTo zs ps m = v) :
    Calls Try.prog 53 #[.slice A n c, .slice D m d] w fun e w' => e = .returned (.int .i64 v) ∧ w = w' := by
  have HN := Lib.hid hn
  have HM := Lib.hid hm
  have HV := Lib.hid hv
  have HZ := Lib.hid hz
  have HP := Lib.hid hp
  clear hn hm hv hz hp
  go_enter Try.func53, Try.ntmps53
  go_wp2
  go_loop [5, 10] (fun s i => ∃ k : Nat, k ≤ m ∧ i = .int .i64 k ∧ s = .int .i64 (usedTo zs ps k)) (fun _ i => m - (intOf i).toNat)
  case atStart => exact ⟨0, Nat.zero_le _, rfl, rfl⟩
  case round =>
    obtain ⟨k, hk, rfl, rfl⟩ := hrel
    by_cases hlt : k < m
    · obtain ⟨b, off, u, rfl, _, _, hx, hc⟩ := ho.at_ (k := k) (by rw [HM.out]; exact hlt)
      obtain ⟨b', off', z, rfl, _, _, hx2, hc2⟩ := hs.at_ (k := k) (by rw [HN.out]; omega)
      have HS := Lib.hid (usedTo_step hx hx2)
      obtain ⟨hb1, hb2⟩ := usedTo_bd HZ.out HP.out k
      obtain ⟨hu1, hu2⟩ := HP.out k u hx
      obtain ⟨hz1, hz2⟩ := HZ.out k z hx2
      obtain ⟨hm1, hm2⟩ := mul_bd hu1 hu2 (by omega : 0 ≤ z) hz2
      clear hx hx2
      obtain ⟨s, hs'⟩ : ∃ s, usedTo zs ps k = s := ⟨_, rfl⟩
      rw [hs'] at HS hb1 hb2
      rw [hs']
      clear hs'
      obtain ⟨t, ht⟩ : ∃ t, u * z = t := ⟨_, rfl⟩
      rw [ht] at HS hm1 hm2
      go_wp2
      go_round
      case rel => exact ⟨k + 1, by omega, by go_num, by rw [HS.out]⟩
      case measure => simp [intOf]; omega
    · obtain rfl : k = m := by omega
      go_wp2
      go_ret
      exact ⟨by rw [HV.out]; rfl, rfl⟩

set_option maxHeartbeats 1000000 in
theorem rdIs_any (rod : Int) (A D : Option Addr) (n c m d : Nat) (zs ps : List Int) (lo hi lo' hi' : Nat) (w : World) (hn : zs.length = n) (hm : ps.length = m) (hm2 : m ≤ 1048576) (hs : Seg w lo hi A zs) (ho : Seg w lo' hi' D ps)
    (hl : lensB zs = true) (b : Bool) (hb : patB rod zs ps = b) :
    Calls Try.prog 49 #[.int .i64 rod, .slice A n c, .slice D m d] w fun e w' => e = .returned (.bool b) ∧ w = w' := by
  obtain ⟨_, h4, hz⟩ := lensB_at hl
  rw [hn] at h4
  by_cases h1 : m = n
  · subst h1
    have HN := Lib.hid hn
    have HM := Lib.hid hm
    by_cases h2 : allB ps 0 60 = true
    · have h3 : decide (usedTo zs ps m ≤ rod) = b := by rw [← hb, patB, hm, hn, h2, decide_eq_true rfl, Bool.true_and, Bool.true_and]
      obtain ⟨v, hv⟩ : ∃ v, usedTo zs ps m = v := ⟨_, rfl⟩
      rw [hv] at h3
      have H2 := Lib.hid h2
      have HV := Lib.hid hv
      clear hb hn hm hv h2
      go_enter Try.func49, Try.ntmps49
      cases b
      all_goals
        go_wp2_with (first
          | (go_at_call 69; refine (l1All_any _ _ _ ps _ _ lo' hi' _ HM.out hm2 ho _ H2.out).mono ?_; rintro e w' ⟨rfl, rfl⟩)
          | (go_at_call 53; refine (rdUsed_any _ _ _ _ _ _ zs ps lo hi lo' hi' _ HN.out HM.out (Nat.le_refl _) h4 hs ho hz (allB_at H2.out) _ HV.out).mono ?_; rintro e w' ⟨rfl, rfl⟩))
        go_ret
        exact ⟨rfl, rfl⟩
    · have h2' : allB ps 0 60 = false := by simpa using h2
      obtain rfl : b = false := by rw [← hb, patB, h2', Bool.and_false, Bool.false_and]
      have H2 := Lib.hid h2'
      clear hb hn hm h2 h2'
      go_enter Try.func49, Try.ntmps49
      go_wp2_with (go_at_call 69; refine (l1All_any _ _ _ ps _ _ lo' hi' _ HM.out hm2 ho _ H2.out).mono ?_; rintro e w' ⟨rfl, rfl⟩)
      go_ret
      exact ⟨rfl, rfl⟩
  · obtain rfl : b = false := by rw [← hb, patB, hm, hn, decide_eq_false h1, Bool.false_and, Bool.false_and]
    have hne : ((m : Int) == (n : Int)) = false := by rw [beq_eq_false_iff_ne]; omega
    clear hb hn hm
    go_enter Try.func49, Try.ntmps49
    go_wp2
    go_ret
    exact ⟨rfl, rfl⟩

/-- What is known of lengths and a pattern of them. -/
theorem both_rod {rod : Int} {n m : Nat} {zs ps : List Int} (hn : zs.length = n) (hm : ps.length = m) (h : bothR rod zs ps = true) (v : Int) (hv : usedTo zs ps m = v) : m = n ∧ n ≤ 4 ∧ 1 ≤ n ∧ (1 ≤ rod ∧ rod ≤ 60) ∧ (∀ (k : Nat) u, zs[k]? = some u → 1 ≤ u ∧ u ≤ 60) ∧ (∀ (k : Nat) u, ps[k]? = some u → 0 ≤ u ∧ u ≤ 60) ∧ 0 ≤ v ∧ v ≤ rod ∧ lensB zs = true := by
  simp only [bothR, Bool.and_eq_true] at h
  obtain ⟨h1, h2⟩ := h
  obtain ⟨h3, h4⟩ := rodB_true.1 h1
  obtain ⟨⟨h5, h6⟩, h7⟩ := patB_true.1 h2
  obtain ⟨h8, h9, h10⟩ := lensB_at h4
  have h11 := usedTo_bd h10 (fun k u hu => allB_at h6 k u hu) m
  rw [hv] at h11
  have e : m = n := by omega
  rw [← h5, hm, hv] at h7
  exact ⟨e, by omega, by omega, h3, h10, fun k u hu => allB_at h6 k u hu, h11.1, h7, h4⟩

section
variable (rod : Int) (A D : Option Addr) (n c m d : Nat) (zs ps : List Int) (lo hi lo' hi' : Nat) (w : World) (hn : zs.length = n) (hlen : n ≤ 1048576) (hm : ps.length = m) (hm2 : m ≤ 1048576) (hs : Seg w lo hi A zs) (ho : Seg w lo' hi' D ps)
include hn hlen hm hm2 hs ho

set_option maxHeartbeats 400000 in
theorem rdBoth_any (b : Bool) (hb : bothR rod zs ps = b) :
    Calls Try.prog 52 #[.int .i64 rod, .slice A n c, .slice D m d] w fun e w' => e = .returned (.bool b) ∧ w = w' := by
  have HN := Lib.hid hn
  have HM := Lib.hid hm
  by_cases h1 : rodB rod zs = true
  · have h2 : patB rod zs ps = b := by rw [← hb, bothR, h1, Bool.true_and]
    have H1 := Lib.hid h1
    have H2 := Lib.hid h2
    clear hb hn hm h1 h2
    go_enter Try.func52, Try.ntmps52
    cases b
    all_goals
      go_wp2_with (first
        | (go_at_call 48; refine (rdAsked_any _ _ _ _ zs lo hi _ HN.out hlen hs _ H1.out).mono ?_; rintro e w' ⟨rfl, rfl⟩)
        | (go_at_call 49; refine (rdIs_any _ _ _ _ _ _ _ zs ps lo hi lo' hi' _ HN.out HM.out hm2 hs ho (rodB_true.1 H1.out).2 _ H2.out).mono ?_; rintro e w' ⟨rfl, rfl⟩))
      go_ret
      exact ⟨rfl, rfl⟩
  · have h1' : rodB rod zs = false := by simpa using h1
    obtain rfl : b = false := by rw [← hb, bothR, h1', Bool.false_and]
    have H1 := Lib.hid h1'
    clear hb hn hm h1 h1'
    go_enter Try.func52, Try.ntmps52
    go_wp2_with (go_at_call 48; refine (rdAsked_any _ _ _ _ zs lo hi _ HN.out hlen hs _ H1.out).mono ?_; rintro e w' ⟨rfl, rfl⟩)
    go_ret
    exact ⟨rfl, rfl⟩

set_option maxHeartbeats 400000 in
theorem spec_IsRodPattern (q : Bool) (hq : rodB rod zs = q) (p : Bool) (hp : bothR rod zs ps = p) :
    Calls Try.prog 19 #[.int .i64 rod, .slice A n c, .slice D m d] w (RetBB p q w) := by
  have HN := Lib.hid hn
  have HM := Lib.hid hm
  have HQ := Lib.hid hq
  cases q
  · obtain rfl : p = false := by rw [← hp, bothR, hq, Bool.false_and]
    clear hn hm hq hp
    go_enter Try.func19, Try.ntmps19
    go_wp2_with (go_at_call 48; refine (rdAsked_any _ _ _ _ zs lo hi _ HN.out hlen hs _ HQ.out).mono ?_; rintro e w' ⟨rfl, rfl⟩)
    go_ret2
    exact ⟨rfl, Below.refl _ _⟩
  · have HP : Hid (patB rod zs ps = p) := by rw [← hp, bothR, hq, Bool.true_and]; exact rfl
    clear hn hm hq hp
    go_enter Try.func19, Try.ntmps19
    go_wp2_with (first
      | (go_at_call 48; refine (rdAsked_any _ _ _ _ zs lo hi _ HN.out hlen hs _ HQ.out).mono ?_; rintro e w' ⟨rfl, rfl⟩)
      | (go_at_call 49; refine (rdIs_any _ _ _ _ _ _ _ zs ps lo hi lo' hi' _ HN.out HM.out hm2 hs ho (rodB_true.1 HQ.out).2 _ HP.out).mono ?_; rintro e w' ⟨rfl, rfl⟩))
    go_ret2
    exact ⟨rfl, Below.refl _ _⟩

set_option maxHeartbeats 400000 in
theorem spec_UsedOf (q : Bool) (hq : bothR rod zs ps = q) (v : Int) (hv : usedTo zs ps m = v) :
    Calls Try.prog 21 #[.int .i64 rod, .slice A n c, .slice D m d] w (RetI (numQ q v) q w) := by
  have HN := Lib.hid hn
  have HM := Lib.hid hm
  have HQ := Lib.hid hq
  cases q
  · clear hn hm hq hv
    go_enter Try.func21, Try.ntmps21
    go_wp2_with (go_at_call 52; refine (rdBoth_any _ _ _ _ _ _ _ zs ps lo hi lo' hi' _ HN.out hlen HM.out hm2 hs ho _ HQ.out).mono ?_; rintro e w' ⟨rfl, rfl⟩)
    go_ret2
    exact ⟨rfl, Below.refl _ _⟩
  · obtain ⟨e, h4, h1, hr, hz, hp, hv0, hv1, hl⟩ := both_rod hn hm hq v hv
    have HE := Lib.hid (Nat.le_of_eq e)
    have HV := Lib.hid hv
    clear hn hm hq hv e
    go_enter Try.func21, Try.ntmps21
    go_wp2_with (first
      | (go_at_call 52; refine (rdBoth_any _ _ _ _ _ _ _ zs ps lo hi lo' hi' _ HN.out hlen HM.out hm2 hs ho _ HQ.out).mono ?_; rintro e w' ⟨rfl, rfl⟩)
      | (go_at_call 53; refine (rdUsed_any _ _ _ _ _ _ zs ps lo hi lo' hi' _ HN.out HM.out HE.out h4 hs ho hz hp _ HV.out).mono ?_; rintro e w' ⟨rfl, rfl⟩))
    go_ret2
    exact ⟨rfl, Below.refl _ _⟩

set_option maxHeartbeats 400000 in
theorem spec_WasteOfPattern (q : Bool) (hq : bothR rod zs ps = q) (v : Int) (hv : usedTo zs ps m = v) :
    Calls Try.prog 23 #[.int .i64 rod, .slice A n c, .slice D m d] w (RetI (numQ q (rod - v)) q w) := by
  have HN := Lib.hid hn
  have HM := Lib.hid hm
  have HQ := Lib.hid hq
  cases q
  · clear hn hm hq hv
    go_enter Try.func23, Try.ntmps23
    go_wp2_with (go_at_call 52; refine (rdBoth_any _ _ _ _ _ _ _ zs ps lo hi lo' hi' _ HN.out hlen HM.out hm2 hs ho _ HQ.out).mono ?_; rintro e w' ⟨rfl, rfl⟩)
    go_ret2
    exact ⟨rfl, Below.refl _ _⟩
  · obtain ⟨e, h4, h1, hr, hz, hp, hv0, hv1, hl⟩ := both_rod hn hm hq v hv
    have HE := Lib.hid (Nat.le_of_eq e)
    have HV := Lib.hid hv
    clear hn hm hq hv e
    go_enter Try.func23, Try.ntmps23
    go_wp2_with (first
      | (go_at_call 52; refine (rdBoth_any _ _ _ _ _ _ _ zs ps lo hi lo' hi' _ HN.out hlen HM.out hm2 hs ho _ HQ.out).mono ?_; rintro e w' ⟨rfl, rfl⟩)
      | (go_at_call 53; refine (rdUsed_any _ _ _ _ _ _ zs ps lo hi lo' hi' _ HN.out HM.out HE.out h4 hs ho hz hp _ HV.out).mono ?_; rintro e w' ⟨rfl, rfl⟩))
    go_ret2
    exact ⟨rfl, Below.refl _ _⟩

set_option maxHeartbeats 400000 in
theorem spec_IsFullPattern (q : Bool) (hq : bothR rod zs ps = q) (v : Int) (hv : usedTo zs ps m = v) (p : Bool) (hp : (q && decide (rod - v < zs.getD 0 0)) = p) :
    Calls Try.prog 25 #[.int .i64 rod, .slice A n c, .slice D m d] w (RetBB p q w) := by
  have HN := Lib.hid hn
  have HM := Lib.hid hm
  have HQ := Lib.hid hq
  cases q
  · obtain rfl : p = false := by rw [← hp]; rfl
    clear hn hm hq hv hp
    go_enter Try.func25, Try.ntmps25
    go_wp2_with (go_at_call 52; refine (rdBoth_any _ _ _ _ _ _ _ zs ps lo hi lo' hi' _ HN.out hlen HM.out hm2 hs ho _ HQ.out).mono ?_; rintro e w' ⟨rfl, rfl⟩)
    go_ret2
    exact ⟨rfl, Below.refl _ _⟩
  · obtain ⟨e, h4, h1, hr, hz, hp', hv0, hv1, hl⟩ := both_rod hn hm hq v hv
    obtain ⟨b0, off0, z0, rfl, _, _, hx0, hc0⟩ := hs.at_ (k := 0) (by omega)
    have hc0' : w.cell? ⟨b0, off0, none⟩ = some (.int .i64 z0) := hc0
    clear hc0
    have hd : decide (rod - v < z0) = p := by rw [← hp, Bool.true_and]; simp [List.getD, hx0]
    have HE := Lib.hid (Nat.le_of_eq e)
    have HV := Lib.hid hv
    clear hn hm hq hv e hp hx0
    go_enter Try.func25, Try.ntmps25
    cases p
    all_goals
      go_wp2_with (go_at_call 52; refine (rdBoth_any _ _ _ _ _ _ _ zs ps lo hi lo' hi' _ HN.out hlen HM.out hm2 hs ho _ HQ.out).mono ?_; rintro e w' ⟨rfl, rfl⟩)
      go_quiet (first | (go_at_call 53; exact Calls.quiet_of_same ((rdUsed_any _ _ _ _ _ _ zs ps lo hi lo' hi' _ HN.out HM.out HE.out h4 (hs.drewN _) (ho.drewN _) hz hp' _ HV.out).mono fun _ _ ⟨h1, h2⟩ => ⟨h1, h2.symm⟩)))
      go_wp2
      go_ret2
      exact ⟨rfl, below_drewN (Below.refl _ _) _⟩
end
end Go.Proofs.Ythlhpddfifpkeaa

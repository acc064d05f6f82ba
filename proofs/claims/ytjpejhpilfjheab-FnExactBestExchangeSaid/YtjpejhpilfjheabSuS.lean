/-
  The given program's sums of items, its lists that rise, whether they fit.
  Conditions: at most ten items, and lists of at most 1048576 numbers.
-/
import Derived.Test.YtjpejhpilfjheabItmGood
import Derived.Test.YtjpejhpilfjheabEq
namespace Go.Proofs.Ytjpejhpilfjheab
set_option linter.unusedVariables false
open Go.RowKit

set_option maxRecDepth 100000 in
set_option maxHeartbeats 1000000 in
theorem l1Rising_any (A : Option Addr) (n c : Nat) (N : Nat) (xs : List Int) (lo hi : Nat) (w : World) (hn : xs.length = n) (hlen : n ≤ 1048576) (hN : N ≤ 10) (hN1 : 1 ≤ N) (hs : Seg w lo hi A xs) (q : Bool) (hq : incI N xs = q) :
    Calls Try.prog 106 #[.slice A n c, .int .i64 0, .int .i64 ((N : Int) - 1)] w fun e w' => e = .returned (.bool q) ∧ w = w' := by
  have HN := Lib.hid hn
  have HQ := Lib.hid hq
  clear hn hq
  go_enter Try.func106, Try.ntmps106
  go_wp2
  go_loop [8, 11] (fun _ i => ∃ k : Nat, k ≤ n ∧ i = .int .i64 k ∧ ∀ (j : Nat) u, j < k → xs[j]? = some u → (0 ≤ u ∧ u < (N : Int)) ∧ befI xs j < u) (fun _ i => n - (intOf i).toNat)
  case atStart => exact ⟨0, Nat.zero_le _, rfl, fun j u hj => by omega⟩
  case round =>
    obtain ⟨k, hk, rfl, hall⟩ := hrel
    have HA := Lib.hid hall
    clear hall
    by_cases hlt : k < n
    · obtain ⟨b, off, u, rfl, _, _, hx, hc⟩ := hs.at_ (k := k) (by rw [HN.out]; exact hlt)
      have HX := Lib.hid hx
      clear hx
      by_cases hu : inB u 0 ((N : Int) - 1) = true
      · rw [inB_true] at hu
        by_cases hk0 : k = 0
        · subst hk0
          have hd : decide ((0 : Int) < 0) = false := rfl
          have hc' : w.cell? ⟨b, off, none⟩ = some (.int .i64 u) := hc
          clear hc
          go_wp2_with (go_at_call 74; refine (l1In_any _ _ _ true (inB_true.2 hu) _).mono ?_; rintro e w' ⟨rfl, rfl⟩)
          go_round
          case rel =>
            refine ⟨1, by omega, by go_num, fun j v hj hv => ?_⟩
            obtain rfl : j = 0 := by omega
            rw [HX.out] at hv; injection hv with hv; subst hv
            exact ⟨by omega, by rw [befI_zero]; omega⟩
          case measure => simp [intOf]; omega
        · obtain ⟨m, rfl⟩ : ∃ m, k = m + 1 := ⟨k - 1, by omega⟩
          obtain ⟨b', off', v, hA, _, _, hx2, hc2⟩ := hs.at_ (k := m) (by rw [HN.out]; omega)
          obtain ⟨rfl, rfl⟩ : b = b' ∧ off = off' := by injection hA with hA; injection hA with h1 h2; exact ⟨h1, h2⟩
          have HP := Lib.hid (befI_succ hx2)
          have hpos : decide ((0 : Int) < ((m + 1 : Nat) : Int)) = true := by rw [decide_eq_true_iff]; omega
          clear hx2 hA
          by_cases hv : v < u
          · have hd : decide (u ≤ v) = false := by rw [decide_eq_false_iff_not]; omega
            go_wp2_with (go_at_call 74; refine (l1In_any _ _ _ true (inB_true.2 hu) _).mono ?_; rintro e w' ⟨rfl, rfl⟩)
            go_round
            case rel =>
              refine ⟨m + 1 + 1, by omega, by go_num, fun j x hj hx => ?_⟩
              by_cases e : j = m + 1
              · subst e; rw [HX.out] at hx; injection hx with hx; subst hx; exact ⟨by omega, by rw [HP.out]; exact hv⟩
              · exact HA.out j x (by omega) hx
            case measure => simp [intOf]; omega
          · have hd : decide (u ≤ v) = true := by rw [decide_eq_true_iff]; omega
            go_wp2_with (go_at_call 74; refine (l1In_any _ _ _ true (inB_true.2 hu) _).mono ?_; rintro e w' ⟨rfl, rfl⟩)
            go_ret
            exact ⟨by rw [← HQ.out, incI_not HX.out (by rw [HP.out]; omega)]; rfl, rfl⟩
      · have hu' : inB u 0 ((N : Int) - 1) = false := by simpa using hu
        rw [inB_true] at hu
        go_wp2_with (go_at_call 74; refine (l1In_any _ _ _ false hu' _).mono ?_; rintro e w' ⟨rfl, rfl⟩)
        go_ret
        exact ⟨by rw [← HQ.out, incI_not HX.out (by omega)]; rfl, rfl⟩
    · obtain rfl : k = n := by omega
      go_wp2
      go_ret
      refine ⟨?_, rfl⟩
      rw [← HQ.out, incI_true.2 fun j u hj => HA.out j u (by rw [← HN.out]; exact (List.getElem?_eq_some_iff.1 hj).1) hj]
      rfl

set_option maxHeartbeats 1000000 in
theorem suList_any (A A2 : Option Addr) (N c n c2 : Nat) (xs : List Int) (lo2 hi2 : Nat) (w : World) (hN : N ≤ 10) (hN1 : 1 ≤ N) (hn : xs.length = n) (hlen : n ≤ 1048576) (hs2 : Seg w lo2 hi2 A2 xs) (q : Bool) (hq : incI N xs = q) :
    Calls Try.prog 77 #[.slice A N c, .slice A2 n c2] w fun e w' => e = .returned (.bool q) ∧ w = w' := by
  have HN := Lib.hid hn
  have HQ := Lib.hid hq
  by_cases hz : n = 0
  · subst hz
    have hx : xs = [] := List.eq_nil_of_length_eq_zero hn
    obtain rfl : q = true := by rw [← hq, hx]; rfl
    clear hn hq
    go_enter Try.func77, Try.ntmps77
    go_wp2
    go_ret
    exact ⟨rfl, rfl⟩
  · have hnz : ((n : Int) == 0) = false := by rw [beq_eq_false_iff_ne]; omega
    have hw : IntKind.i64.wrap ((N : Int) - 1) = (N : Int) - 1 := by rw [IntKind.wrap_i64]; omega
    clear hn hq
    go_enter Try.func77, Try.ntmps77
    go_wp2_with fail
    refine (l1Rising_any A2 n c2 N xs lo2 hi2 _ HN.out hlen hN hN1 hs2 _ HQ.out).mono ?_
    rintro e w' ⟨rfl, rfl⟩
    go_wp2
    go_ret
    exact ⟨rfl, rfl⟩

set_option maxRecDepth 100000 in
set_option maxHeartbeats 1000000 in
theorem suTotals_any (A A2 : Option Addr) (n c m c2 : Nat) (ts : List (Int × Int × Int)) (ks : List Int) (lo hi lo2 hi2 : Nat) (w : World) (hn : ts.length = n) (hg : OkI ts) (hm : ks.length = m) (hst : incI ts.length ks = true)
    (hs : Seg w lo hi A (flat3 ts)) (hs2 : Seg w lo2 hi2 A2 ks) :
    Calls Try.prog 44 #[.slice A n c, .slice A2 m c2] w fun e w' => e = .returned (.tuple #[.int .i64 (sumF (wI ts) ks), .int .i64 (sumF (bI ts) ks), .int .i64 (sumF (vI ts) ks)]) ∧ w = w' := by
  have HN := Lib.hid hn
  have HM := Lib.hid hm
  have HG := Lib.hid hg
  have HST := Lib.hid hst
  have hm10 : m ≤ 10 := by have := incI_len hst; have := hg.len; omega
  clear hn hm hg hst
  go_enter Try.func44, Try.ntmps44
  go_wp2
  go_loop [7, 8, 9, 11, 14] (fun a b d _ i => ∃ k : Nat, k ≤ m ∧ i = .int .i64 k ∧ a = .int .i64 (sumF (wI ts) (ks.take k)) ∧ b = .int .i64 (sumF (bI ts) (ks.take k)) ∧ d = .int .i64 (sumF (vI ts) (ks.take k))) (fun _ _ _ _ i => m - (intOf i).toNat)
  case atStart => exact ⟨0, Nat.zero_le _, rfl, rfl, rfl, rfl⟩
  case round =>
    obtain ⟨k, hk, rfl, rfl, rfl, rfl⟩ := hrel
    by_cases hlt : k < m
    · obtain ⟨b, off, u, rfl, _, _, hx, hc⟩ := hs2.at_ (k := k) (by rw [HM.out]; exact hlt)
      obtain ⟨j, rfl, hj⟩ := inc_item HST.out hx
      obtain ⟨g, og, x, y, z, rfl, _, _, hxx, hc0, hc1, hc2⟩ := hs.tri (k := j) hj
      obtain ⟨hxb, hyb, hzb⟩ := item_bd HG.out hxx
      obtain ⟨e1, e2, e3⟩ := itm_w hxx
      have hsa := sumF_next (wI ts) hx
      have hsb := sumF_next (bI ts) hx
      have hsc := sumF_next (vI ts) hx
      have hba := sumF_bd (wI_f HG.out) (ks.take k)
      have hbb := sumF_bd (bI_f HG.out) (ks.take k)
      have hbc := sumF_bd (vI_f HG.out) (ks.take k)
      rw [e1] at hsa
      rw [e2] at hsb
      rw [e3] at hsc
      obtain ⟨s0, hs0⟩ : ∃ s0, sumF (wI ts) (ks.take k) = s0 := ⟨_, rfl⟩
      obtain ⟨s1, hs1⟩ : ∃ s1, sumF (bI ts) (ks.take k) = s1 := ⟨_, rfl⟩
      obtain ⟨s2, hs2'⟩ : ∃ s2, sumF (vI ts) (ks.take k) = s2 := ⟨_, rfl⟩
      rw [hs0] at hsa hba ⊢
      rw [hs1] at hsb hbb ⊢
      rw [hs2'] at hsc hbc ⊢
      have HSA := Lib.hid hsa
      have HSB := Lib.hid hsb
      have HSC := Lib.hid hsc
      have hl10 : ((ks.take k).length : Int) ≤ 10 := by rw [List.length_take]; omega
      have ha0 := hba.1
      have hb0 := hbb.1
      have hd0 := hbc.1
      have ha1 : s0 ≤ 2000 := by omega
      have hb1 : s1 ≤ 2000 := by omega
      have hd1 : s2 ≤ 2000 := by omega
      have hjn : j < n := by rw [← HN.out]; exact hj
      clear hx hxx e1 e2 e3 hsa hsb hsc hba hbb hbc hs0 hs1 hs2' hl10
      go_wp2
      go_round
      case rel => exact ⟨k + 1, by omega, by go_num, by rw [HSA.out], by rw [HSB.out], by rw [HSC.out]⟩
      case measure => simp [intOf]; omega
    · obtain rfl : k = m := by omega
      have HE := Lib.hid (show ks.take k = ks by rw [← HM.out, List.take_length])
      go_wp2
      go_ret3
      exact ⟨by rw [HE.out]; rfl, rfl⟩

set_option maxHeartbeats 1000000 in
theorem suFits_any (A A2 : Option Addr) (n c m c2 : Nat) (W B : Int) (ts : List (Int × Int × Int)) (ks : List Int) (lo hi lo2 hi2 : Nat) (w : World) (hn : ts.length = n) (hg : OkI ts) (hm : ks.length = m) (hst : incI ts.length ks = true)
    (hs : Seg w lo hi A (flat3 ts)) (hB : hi ≤ w.heap.size) (hs2 : Seg w lo2 hi2 A2 ks) (hB2 : hi2 ≤ w.heap.size) (q : Bool) (hq : fitI ts W B ks = q) :
    Calls Try.prog 47 #[.slice A n c, .agg #[.int .i64 W, .int .i64 B], .slice A2 m c2] w fun e w' => e = .returned (.bool q) ∧ Below w.heap.size w w' := by
  have HN := Lib.hid hn
  have HM := Lib.hid hm
  have HG := Lib.hid hg
  have HST := Lib.hid hst
  have hb0 := (Below.refl w.heap.size w).alloc (Nat.le_refl _) (.cells #[.int .i64 W, .int .i64 B] 41)
  have HS := Lib.hid (hs.below hb0 hB)
  have HS2 := Lib.hid (hs2.below hb0 hB2)
  obtain ⟨s0, hs0⟩ : ∃ s0, sumF (wI ts) ks = s0 := ⟨_, rfl⟩
  obtain ⟨s1, hs1⟩ : ∃ s1, sumF (bI ts) ks = s1 := ⟨_, rfl⟩
  have HT := Lib.hid (suTotals_any A A2 n c m c2 ts ks lo hi lo2 hi2 _ hn hg hm hst HS.out HS2.out)
  rw [hs0, hs1] at HT
  have hq' : (decide (s0 ≤ W) && decide (s1 ≤ B)) = q := by rw [← hq]; unfold fitI; rw [hs0, hs1]
  clear hn hm hg hst hs0 hs1 hq hs hs2
  by_cases h1 : s0 ≤ W
  · by_cases h2 : s1 ≤ B
    · obtain rfl : q = true := by rw [← hq']; simp [h1, h2]
      clear hq'
      go_enter Try.func47, Try.ntmps47
      go_wp2_with fail
      refine HT.out.mono ?_
      rintro e w' ⟨rfl, rfl⟩
      go_wp2
      go_ret
      exact ⟨rfl, hb0⟩
    · obtain rfl : q = false := by rw [← hq']; simp [h2]
      have h3 : decide (s1 ≤ B) = false := decide_eq_false h2
      clear hq'
      go_enter Try.func47, Try.ntmps47
      go_wp2_with fail
      refine HT.out.mono ?_
      rintro e w' ⟨rfl, rfl⟩
      go_wp2
      go_ret
      exact ⟨rfl, hb0⟩
  · obtain rfl : q = false := by rw [← hq']; simp [h1]
    have h3 : decide (s0 ≤ W) = false := decide_eq_false h1
    clear hq'
    go_enter Try.func47, Try.ntmps47
    go_wp2_with fail
    refine HT.out.mono ?_
    rintro e w' ⟨rfl, rfl⟩
    go_wp2
    go_ret
    exact ⟨rfl, hb0⟩

theorem ask_false {ts : List (Int × Int × Int)} {W B : Int} (h : goodI ts = false ∨ inB W 0 200 = false ∨ inB B 0 200 = false) : askI ts W B = false := by
  rcases h with h | h | h <;> simp [askI, h]

set_option maxHeartbeats 1000000 in
theorem suAsked_any (A : Option Addr) (n c : Nat) (W B : Int) (ts : List (Int × Int × Int)) (lo hi : Nat) (w : World) (hn : ts.length = n) (hlen : n ≤ 1048576) (hs : Seg w lo hi A (flat3 ts)) (hB : hi ≤ w.heap.size) (q : Bool) (hq : askI ts W B = q) :
    Calls Try.prog 42 #[.slice A n c, .agg #[.int .i64 W, .int .i64 B]] w fun e w' => e = .returned (.bool q) ∧ Below w.heap.size w w' := by
  have HN := Lib.hid hn
  have HB0 := Lib.hid ((Below.refl w.heap.size w).alloc (Nat.le_refl _) (.cells #[.int .i64 W, .int .i64 B] 41))
  have HS := Lib.hid (hs.below HB0.out hB)
  have HC := Lib.hid (new_at w (.cells #[.int .i64 W, .int .i64 B] 41) rfl)
  cases hg : goodI ts
  · obtain rfl : q = false := by rw [← hq]; exact ask_false (.inl hg)
    have HG := Lib.hid hg
    clear hn hq hg
    go_enter Try.func42, Try.ntmps42
    go_wp2_with fail
    refine (suGood_any _ _ _ ts lo hi _ HN.out hlen HS.out (by simp; omega) _ HG.out).mono ?_
    rintro e w1 ⟨rfl, hb1⟩
    go_wp2
    go_ret
    exact ⟨rfl, HB0.out.trans (hb1.mono (by simp))⟩
  · have HG := Lib.hid hg
    cases hW : inB W 0 200
    · obtain rfl : q = false := by rw [← hq]; exact ask_false (.inr (.inl hW))
      clear hn hq hg
      go_enter Try.func42, Try.ntmps42
      go_wp2_with fail
      refine (suGood_any _ _ _ ts lo hi _ HN.out hlen HS.out (by simp; omega) _ HG.out).mono ?_
      rintro e w1 ⟨rfl, hb1⟩
      have c0 := (hb1.cell (by simp)).trans (cell_of HC.out 0)
      have c1 := (hb1.cell (by simp)).trans (cell_of HC.out 1)
      have HB1 := Lib.hid (HB0.out.trans (hb1.mono (by simp)))
      clear hb1
      go_wp2_with fail
      refine (inL_any _ _ false hW).mono ?_
      rintro e w' ⟨rfl, rfl⟩
      go_wp2
      go_ret
      exact ⟨rfl, HB1.out⟩
    · cases hBB : inB B 0 200
      · obtain rfl : q = false := by rw [← hq]; exact ask_false (.inr (.inr hBB))
        clear hn hq hg
        go_enter Try.func42, Try.ntmps42
        go_wp2_with fail
        refine (suGood_any _ _ _ ts lo hi _ HN.out hlen HS.out (by simp; omega) _ HG.out).mono ?_
        rintro e w1 ⟨rfl, hb1⟩
        have c0 := (hb1.cell (by simp)).trans (cell_of HC.out 0)
        have c1 := (hb1.cell (by simp)).trans (cell_of HC.out 1)
        have HB1 := Lib.hid (HB0.out.trans (hb1.mono (by simp)))
        clear hb1
        go_wp2_with fail
        refine (inL_any _ _ true hW).mono ?_
        rintro e w' ⟨rfl, rfl⟩
        go_wp2_with fail
        refine (inL_any _ _ false hBB).mono ?_
        rintro e w' ⟨rfl, rfl⟩
        go_wp2
        go_ret
        exact ⟨rfl, HB1.out⟩
      · obtain rfl : q = true := by rw [← hq]; simp [askI, hg, hW, hBB]
        clear hn hq hg
        go_enter Try.func42, Try.ntmps42
        go_wp2_with fail
        refine (suGood_any _ _ _ ts lo hi _ HN.out hlen HS.out (by simp; omega) _ HG.out).mono ?_
        rintro e w1 ⟨rfl, hb1⟩
        have c0 := (hb1.cell (by simp)).trans (cell_of HC.out 0)
        have c1 := (hb1.cell (by simp)).trans (cell_of HC.out 1)
        have HB1 := Lib.hid (HB0.out.trans (hb1.mono (by simp)))
        clear hb1
        go_wp2_with fail
        refine (inL_any _ _ true hW).mono ?_
        rintro e w' ⟨rfl, rfl⟩
        go_wp2_with fail
        refine (inL_any _ _ true hBB).mono ?_
        rintro e w' ⟨rfl, rfl⟩
        go_wp2
        go_ret
        exact ⟨rfl, HB1.out⟩
end Go.Proofs.Ytjpejhpilfjheab

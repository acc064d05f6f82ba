/-
  Items and a suitcase as the written program keeps them; whether a list is a choice, of both programs.
  Conditions: lists of at most 1048576 items and numbers.
-/
import Derived.Test.YtjpejhpilfjheabSuI
import Derived.Test.YtjpejhpilfjheabSuS
import Derived.Lib.MinMax
namespace Go.Proofs.Ytjpejhpilfjheab
set_option linter.unusedVariables false
open Go.RowKit

theorem ask_parts {ts : List (Int × Int × Int)} {W B : Int} {q : Bool} (h : askI ts W B = q) : (goodI ts = false ∧ q = false) ∨ (goodI ts = true ∧ caseB W B = false ∧ q = false) ∨ (goodI ts = true ∧ caseB W B = true ∧ q = true) := by
  have e : askI ts W B = (goodI ts && caseB W B) := by simp [askI, caseB, Bool.and_assoc]
  rw [e] at h
  cases hg : goodI ts
  · rw [hg] at h; exact .inl ⟨rfl, h.symm⟩
  · cases hc : caseB W B
    · rw [hg, hc] at h; exact .inr (.inl ⟨rfl, rfl, h.symm⟩)
    · rw [hg, hc] at h; exact .inr (.inr ⟨rfl, rfl, h.symm⟩)

set_option maxRecDepth 100000 in
set_option maxHeartbeats 1000000 in
theorem luggage_no (A : Option Addr) (n c : Nat) (W B : Int) (ts : List (Int × Int × Int)) (lo hi : Nat) (w : World) (hn : ts.length = n) (hlen : n ≤ 1048576) (hs : Seg w lo hi A (flat3 ts)) (hB : hi ≤ w.heap.size) (hq : askI ts W B = false) :
    Calls Try.prog 56 #[.slice A n c, .agg #[.int .i64 W, .int .i64 B]] w fun e w' => e = .returned (.tuple #[.agg #[.slice none 0 0, .int .i64 0, .int .i64 0], .bool false]) ∧ Below w.heap.size w w' := by
  have HN := Lib.hid hn
  have HB0 := Lib.hid (((Below.refl w.heap.size w).alloc (Nat.le_refl _) (.cells #[.int .i64 W, .int .i64 B] 41)).alloc (by simp) (.cells #[.slice none 0 0, .int .i64 0, .int .i64 0] 67))
  have HC0 := Lib.hid ((alloc_old (w.alloc (.cells #[.int .i64 W, .int .i64 B] 41)) (g := w.heap.size) (by simp) (.cells #[.slice none 0 0, .int .i64 0, .int .i64 0] 67)).trans (new_at w (.cells #[.int .i64 W, .int .i64 B] 41) rfl))
  have HR0 := Lib.hid (new_at (w.alloc (.cells #[.int .i64 W, .int .i64 B] 41)) (.cells #[.slice none 0 0, .int .i64 0, .int .i64 0] 67) (g := w.heap.size + 1) (by simp))
  clear hn
  rcases ask_parts hq with ⟨hg, _⟩ | ⟨hg, hc, _⟩ | ⟨_, _, h⟩
  · have HG := Lib.hid hg
    clear hq hg
    go_enter Try.func56, Try.ntmps56
    go_wp2_with fail
    refine (areItems_any A n c ts lo hi _ HN.out hlen (hs.below HB0.out hB) (by simp; omega) _ HG.out).mono ?_
    rintro e w1 ⟨rfl, hb1⟩
    have hz1 := hb1.size
    have HB1 := Lib.hid (HB0.out.trans (hb1.mono (by simp; omega)))
    have hcc := (hb1.block w.heap.size (by simp; omega)).trans HC0.out
    have HC1 := Lib.hid hcc
    have HR1 := Lib.hid ((hb1.block (w.heap.size + 1) (by simp)).trans HR0.out)
    have HZ1 := Lib.hid (show w.heap.size + 1 < w1.heap.size by simp at hz1; omega)
    have k0 := cell_of hcc 0
    have k1 := cell_of hcc 1
    clear hb1 hz1 hcc
    have r0 := cell_of HR1.out 0
    have r1 := cell_of HR1.out 1
    have r2 := cell_of HR1.out 2
    have q0 := frozen_of HR1.out 0
    have q1 := frozen_of HR1.out 1
    have q2 := frozen_of HR1.out 2
    go_wp2
    clear r0 r1 r2 q0 q1 q2
    have HF := Lib.hid (set_self (set_self (set_self HR1.out 0 (.slice none 0 0)) 1 (.int .i64 0)) 2 (.int .i64 0))
    have r0 := cell_of HF.out 0
    have r1 := cell_of HF.out 1
    have r2 := cell_of HF.out 2
    refine bodyPost_ret (v := .tuple #[.agg #[.slice none 0 0, .int .i64 0, .int .i64 0], .bool false]) (by simp [results, Try.results56, go_sem, r0, r1, r2]) rfl ⟨rfl, ?_⟩
    exact ((HB1.out.setCell (Nat.le_succ _) _).setCell (Nat.le_succ _) _).setCell (Nat.le_succ _) _
  · have HG := Lib.hid hg
    clear hq hg
    go_enter Try.func56, Try.ntmps56
    go_wp2_with fail
    refine (areItems_any A n c ts lo hi _ HN.out hlen (hs.below HB0.out hB) (by simp; omega) _ HG.out).mono ?_
    rintro e w1 ⟨rfl, hb1⟩
    have hz1 := hb1.size
    have HB1 := Lib.hid (HB0.out.trans (hb1.mono (by simp; omega)))
    have hcc := (hb1.block w.heap.size (by simp; omega)).trans HC0.out
    have HC1 := Lib.hid hcc
    have HR1 := Lib.hid ((hb1.block (w.heap.size + 1) (by simp)).trans HR0.out)
    have HZ1 := Lib.hid (show w.heap.size + 1 < w1.heap.size by simp at hz1; omega)
    have k0 := cell_of hcc 0
    have k1 := cell_of hcc 1
    clear hb1 hz1 hcc
    go_wp2_with fail
    refine (isCase_any W B _ false hc).mono ?_
    rintro e w2 ⟨rfl, hb2⟩
    have HB2 := Lib.hid (HB1.out.trans (hb2.mono HB1.out.size))
    have hcc := (hb2.block w.heap.size (by have := HZ1.out; omega)).trans HC1.out
    have HC2 := Lib.hid hcc
    have HR2 := Lib.hid ((hb2.block _ HZ1.out).trans HR1.out)
    clear k0 k1
    have k0 := cell_of hcc 0
    have k1 := cell_of hcc 1
    clear hb2 hcc
    have r0 := cell_of HR2.out 0
    have r1 := cell_of HR2.out 1
    have r2 := cell_of HR2.out 2
    have q0 := frozen_of HR2.out 0
    have q1 := frozen_of HR2.out 1
    have q2 := frozen_of HR2.out 2
    go_wp2
    clear r0 r1 r2 q0 q1 q2
    have HF := Lib.hid (set_self (set_self (set_self HR2.out 0 (.slice none 0 0)) 1 (.int .i64 0)) 2 (.int .i64 0))
    have r0 := cell_of HF.out 0
    have r1 := cell_of HF.out 1
    have r2 := cell_of HF.out 2
    refine bodyPost_ret (v := .tuple #[.agg #[.slice none 0 0, .int .i64 0, .int .i64 0], .bool false]) (by simp [results, Try.results56, go_sem, r0, r1, r2]) rfl ⟨rfl, ?_⟩
    exact ((HB2.out.setCell (Nat.le_succ _) _).setCell (Nat.le_succ _) _).setCell (Nat.le_succ _) _
  · cases h

set_option maxRecDepth 100000 in
set_option maxHeartbeats 1000000 in
theorem luggage_yes (A : Option Addr) (n c : Nat) (W B : Int) (ts : List (Int × Int × Int)) (lo hi : Nat) (w : World) (hn : ts.length = n) (hlen : n ≤ 1048576) (hs : Seg w lo hi A (flat3 ts)) (hB : hi ≤ w.heap.size) (hq : askI ts W B = true) :
    Calls Try.prog 56 #[.slice A n c, .agg #[.int .i64 W, .int .i64 B]] w fun e w' => e = .returned (.tuple #[.agg #[.slice A n c, .int .i64 W, .int .i64 B], .bool true]) ∧ Below w.heap.size w w' := by
  have HN := Lib.hid hn
  have HB0 := Lib.hid (((Below.refl w.heap.size w).alloc (Nat.le_refl _) (.cells #[.int .i64 W, .int .i64 B] 41)).alloc (by simp) (.cells #[.slice none 0 0, .int .i64 0, .int .i64 0] 67))
  have HC0 := Lib.hid ((alloc_old (w.alloc (.cells #[.int .i64 W, .int .i64 B] 41)) (g := w.heap.size) (by simp) (.cells #[.slice none 0 0, .int .i64 0, .int .i64 0] 67)).trans (new_at w (.cells #[.int .i64 W, .int .i64 B] 41) rfl))
  have HR0 := Lib.hid (new_at (w.alloc (.cells #[.int .i64 W, .int .i64 B] 41)) (.cells #[.slice none 0 0, .int .i64 0, .int .i64 0] 67) (g := w.heap.size + 1) (by simp))
  clear hn
  rcases ask_parts hq with ⟨_, h⟩ | ⟨_, _, h⟩ | ⟨hg, hc, _⟩
  · cases h
  · cases h
  · have HG := Lib.hid hg
    clear hq hg
    go_enter Try.func56, Try.ntmps56
    go_wp2_with fail
    refine (areItems_any A n c ts lo hi _ HN.out hlen (hs.below HB0.out hB) (by simp; omega) _ HG.out).mono ?_
    rintro e w1 ⟨rfl, hb1⟩
    have hz1 := hb1.size
    have HB1 := Lib.hid (HB0.out.trans (hb1.mono (by simp; omega)))
    have hcc := (hb1.block w.heap.size (by simp; omega)).trans HC0.out
    have HC1 := Lib.hid hcc
    have HR1 := Lib.hid ((hb1.block (w.heap.size + 1) (by simp)).trans HR0.out)
    have HZ1 := Lib.hid (show w.heap.size + 1 < w1.heap.size by simp at hz1; omega)
    have k0 := cell_of hcc 0
    have k1 := cell_of hcc 1
    clear hb1 hz1 hcc
    go_wp2_with fail
    refine (isCase_any W B _ true hc).mono ?_
    rintro e w2 ⟨rfl, hb2⟩
    have HB2 := Lib.hid (HB1.out.trans (hb2.mono HB1.out.size))
    have hcc := (hb2.block w.heap.size (by have := HZ1.out; omega)).trans HC1.out
    have HC2 := Lib.hid hcc
    have HR2 := Lib.hid ((hb2.block _ HZ1.out).trans HR1.out)
    clear k0 k1
    have k0 := cell_of hcc 0
    have k1 := cell_of hcc 1
    clear hb2 hcc
    have r0 := cell_of HR2.out 0
    have r1 := cell_of HR2.out 1
    have r2 := cell_of HR2.out 2
    have q0 := frozen_of HR2.out 0
    have q1 := frozen_of HR2.out 1
    have q2 := frozen_of HR2.out 2
    go_wp2
    clear r0 r1 r2 q0 q1 q2
    have HF := Lib.hid (set_self (set_self (set_self HR2.out 0 (.slice A n c)) 1 (.int .i64 W)) 2 (.int .i64 B))
    have r0 := cell_of HF.out 0
    have r1 := cell_of HF.out 1
    have r2 := cell_of HF.out 2
    refine bodyPost_ret (v := .tuple #[.agg #[.slice A n c, .int .i64 W, .int .i64 B], .bool true]) (by simp [results, Try.results56, go_sem, r0, r1, r2]) rfl ⟨rfl, ?_⟩
    exact ((HB2.out.setCell (Nat.le_succ _) _).setCell (Nat.le_succ _) _).setCell (Nat.le_succ _) _

set_option maxRecDepth 100000 in
set_option maxHeartbeats 1000000 in
theorem isChoice_any (A A2 : Option Addr) (n c m c2 : Nat) (W B : Int) (ts : List (Int × Int × Int)) (ks : List Int) (lo hi lo2 hi2 : Nat) (w : World) (hn : ts.length = n) (hg : OkI ts) (hm : ks.length = m) (hlen2 : m ≤ 1048576)
    (hW : 0 ≤ W ∧ W ≤ 4000) (hBd : 0 ≤ B ∧ B ≤ 4000) (hs : Seg w lo hi A (flat3 ts)) (hB : hi ≤ w.heap.size) (hs2 : Seg w lo2 hi2 A2 ks) (hB2 : hi2 ≤ w.heap.size) (q : Bool) (hq : chI ts W B ks = q) :
    Calls Try.prog 78 #[.agg #[.slice A n c, .int .i64 W, .int .i64 B], .slice A2 m c2] w fun e w' => e = .returned (.bool q) ∧ Below w.heap.size w w' := by
  have HN := Lib.hid hn
  have HM := Lib.hid hm
  have HG := Lib.hid hg
  have hn10 : n ≤ 10 := by rw [← hn]; exact hg.len
  have HB0 := Lib.hid ((Below.refl w.heap.size w).alloc (Nat.le_refl _) (.cells #[.slice A n c, .int .i64 W, .int .i64 B] 67))
  have HS := Lib.hid (hs.below HB0.out hB)
  have HS2 := Lib.hid (hs2.below HB0.out hB2)
  cases hi : incI ts.length ks
  · obtain rfl : q = false := by rw [← hq, chI, hi, Bool.false_and]
    have HI := Lib.hid (show incI n ks = false by rw [← hn]; exact hi)
    clear hn hm hg hq hi hs hs2
    go_enter Try.func78, Try.ntmps78
    go_wp2_with fail
    refine (areIncreasing_any A2 m c2 n ks _ _ _ HM.out hlen2 hn10 HS2.out _ HI.out).mono ?_
    rintro e w' ⟨rfl, rfl⟩
    go_wp2
    go_ret
    exact ⟨rfl, HB0.out⟩
  · have HI := Lib.hid (show incI n ks = true by rw [← hn]; exact hi)
    have HST := Lib.hid hi
    have hm10 : m ≤ 10 := by have := incI_len hi; have := hg.len; omega
    have h1 := sumF_bd (wI_f hg) ks
    have h2 := sumF_bd (bI_f hg) ks
    rw [hm] at h1 h2
    have hqq : (decide (sumF (wI ts) ks ≤ W) && decide (sumF (bI ts) ks ≤ B)) = q := by rw [← hq, chI, hi, Bool.true_and]; rfl
    have HRB := Lib.hid (roomBeside_any A A2 n c m c2 W B ts ks _ _ _ _ _ hn hg hm hi hW hBd HS.out (by simp; omega) HS2.out (by simp; omega))
    obtain ⟨s0, hs0⟩ : ∃ s0, sumF (wI ts) ks = s0 := ⟨_, rfl⟩
    obtain ⟨s1, hs1⟩ : ∃ s1, sumF (bI ts) ks = s1 := ⟨_, rfl⟩
    rw [hs0, hs1] at hqq HRB
    rw [hs0] at h1
    rw [hs1] at h2
    have hd : decide (0 ≤ min (W - s0) (B - s1)) = q := by rw [← hqq, Bool.eq_iff_iff]; simp only [decide_eq_true_eq, Bool.and_eq_true]; omega
    clear hn hm hg hq hi hs hs2 hs0 hs1
    go_enter Try.func78, Try.ntmps78
    go_wp2_with fail
    refine (areIncreasing_any A2 m c2 n ks _ _ _ HM.out hlen2 hn10 HS2.out _ HI.out).mono ?_
    rintro e w' ⟨rfl, rfl⟩
    go_wp2_with fail
    refine HRB.out.mono ?_
    rintro e w1 ⟨rfl, hb1⟩
    have HB1 := Lib.hid (HB0.out.trans (hb1.mono (by simp)))
    clear hb1
    cases q
    all_goals
      go_wp2
      go_ret
      exact ⟨rfl, HB1.out.alloc HB1.out.size _⟩

set_option maxHeartbeats 1000000 in
theorem suIs_any (A A2 : Option Addr) (n c m c2 : Nat) (W B : Int) (ts : List (Int × Int × Int)) (ks : List Int) (lo hi lo2 hi2 : Nat) (w : World) (hn : ts.length = n) (hg : OkI ts) (h1 : 1 ≤ ts.length) (hm : ks.length = m) (hlen2 : m ≤ 1048576)
    (hs : Seg w lo hi A (flat3 ts)) (hB : hi ≤ w.heap.size) (hs2 : Seg w lo2 hi2 A2 ks) (hB2 : hi2 ≤ w.heap.size) (q : Bool) (hq : chI ts W B ks = q) :
    Calls Try.prog 43 #[.slice A n c, .agg #[.int .i64 W, .int .i64 B], .slice A2 m c2] w fun e w' => e = .returned (.bool q) ∧ Below w.heap.size w w' := by
  have HN := Lib.hid hn
  have HM := Lib.hid hm
  have HG := Lib.hid hg
  have hn10 : n ≤ 10 := by rw [← hn]; exact hg.len
  have hn1 : 1 ≤ n := by rw [← hn]; exact h1
  have HB0 := Lib.hid ((Below.refl w.heap.size w).alloc (Nat.le_refl _) (.cells #[.int .i64 W, .int .i64 B] 41))
  have HS := Lib.hid (hs.below HB0.out hB)
  have HS2 := Lib.hid (hs2.below HB0.out hB2)
  cases hi : incI ts.length ks
  · obtain rfl : q = false := by rw [← hq, chI, hi, Bool.false_and]
    have HI := Lib.hid (show incI n ks = false by rw [← hn]; exact hi)
    clear hn hm hg hq hi hs hs2 h1
    go_enter Try.func43, Try.ntmps43
    go_wp2_with fail
    refine (suList_any A A2 n c m c2 ks _ _ _ hn10 hn1 HM.out hlen2 HS2.out _ HI.out).mono ?_
    rintro e w' ⟨rfl, rfl⟩
    go_wp2
    go_ret
    exact ⟨rfl, HB0.out⟩
  · have HI := Lib.hid (show incI n ks = true by rw [← hn]; exact hi)
    have HST := Lib.hid hi
    have HF := Lib.hid (show fitI ts W B ks = q by rw [← hq, chI, hi, Bool.true_and])
    clear hn hm hg hq hi hs hs2 h1
    go_enter Try.func43, Try.ntmps43
    go_wp2_with fail
    refine (suList_any A A2 n c m c2 ks _ _ _ hn10 hn1 HM.out hlen2 HS2.out _ HI.out).mono ?_
    rintro e w' ⟨rfl, rfl⟩
    go_wp2_with fail
    refine (suFits_any A A2 n c m c2 W B ts ks _ _ _ _ _ HN.out HG.out HM.out HST.out HS.out (by simp; omega) HS2.out (by simp; omega) _ HF.out).mono ?_
    rintro e w1 ⟨rfl, hb1⟩
    go_wp2
    go_ret
    exact ⟨rfl, HB0.out.trans (hb1.mono (by simp))⟩
end Go.Proofs.Ytjpejhpilfjheab

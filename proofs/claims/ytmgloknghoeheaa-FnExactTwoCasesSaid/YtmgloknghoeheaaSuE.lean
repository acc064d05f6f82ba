/-
  What both programs answer of the best choices, of all and of the most items, and whether a list is a choice.
  Conditions: lists of at most 1048576 items and numbers.
-/
import Derived.Test.YtmgloknghoeheaaSuT
import Derived.Test.YtmgloknghoeheaaSuA
import Derived.Test.YtmgloknghoeheaaSomeN
namespace Go.Proofs.Ytmgloknghoeheaa
set_option linter.unusedVariables false
open Go.RowKit

theorem field_worth (v : Int) (A : Option Addr) (n c : Nat) (cnt : Int) (W : World) : (Instr.field 70 (.agg #[.int .i64 v, .slice A n c, .int .i64 cnt]) 0).run Try.prog W = .ok (.int .i64 v) W := by kernel_rfl
theorem field_first (v : Int) (A : Option Addr) (n c : Nat) (cnt : Int) (W : World) : (Instr.field 70 (.agg #[.int .i64 v, .slice A n c, .int .i64 cnt]) 1).run Try.prog W = .ok (.slice A n c) W := by kernel_rfl
theorem field_count (v : Int) (A : Option Addr) (n c : Nat) (cnt : Int) (W : World) : (Instr.field 70 (.agg #[.int .i64 v, .slice A n c, .int .i64 cnt]) 2).run Try.prog W = .ok (.int .i64 cnt) W := by kernel_rfl

set_option maxRecDepth 100000 in
set_option maxHeartbeats 2000000 in
theorem spec_BestPacked (A : Option Addr) (n c : Nat) (W B : Int) (ts : List (Int × Int × Int)) (lo hi : Nat) (w : World) (hn : ts.length = n) (hlen : n ≤ 1048576) (hs : Seg w lo hi A (flat3 ts)) (hB : hi ≤ w.heap.size) (q : Bool) (hq : askI ts W B = q) :
    Calls Try.prog 25 #[.slice A n c, .agg #[.int .i64 W, .int .i64 B]] w (RetI (if q = true then (topI ts W B).1 else 0) q w) := by
  have HN := Lib.hid hn
  have HB0 := Lib.hid ((Below.refl w.heap.size w).alloc (Nat.le_refl _) (.cells #[.int .i64 W, .int .i64 B] 34))
  have HC0 := Lib.hid (new_at w (.cells #[.int .i64 W, .int .i64 B] 34) rfl)
  have HS0 := Lib.hid (hs.below HB0.out hB)
  have HQ := Lib.hid hq
  cases q
  · clear hn hq hs
    go_enter Try.func25, Try.ntmps25
    go_wp2_with fail
    refine (suAsked_any A n c W B ts lo hi _ HN.out hlen HS0.out (by simp; omega) _ HQ.out).mono ?_
    rintro e w1 ⟨rfl, hb1⟩
    have HB1 := Lib.hid (HB0.out.trans (hb1.mono (by simp)))
    go_wp2
    go_ret2
    exact ⟨rfl, HB1.out⟩
  · obtain ⟨hg, hW, hBB⟩ := askI_true.1 hq
    have HG := Lib.hid (goodI_ok hg)
    clear hn hq hs hg
    go_enter Try.func25, Try.ntmps25
    go_wp2_with fail
    refine (suAsked_any A n c W B ts lo hi _ HN.out hlen HS0.out (by simp; omega) _ HQ.out).mono ?_
    rintro e w1 ⟨rfl, hb1⟩
    have HB1 := Lib.hid (HB0.out.trans (hb1.mono (by simp)))
    have hcc := (hb1.block w.heap.size (by simp)).trans HC0.out
    have HC1 := Lib.hid hcc
    have k0 := cell_of hcc 0
    have k1 := cell_of hcc 1
    have HS1 := Lib.hid (HS0.out.below hb1 (by simp; omega))
    have hz1 := hb1.size
    have hz1' : w.heap.size < w1.heap.size := by simp at hz1; omega
    clear hb1 hcc hz1
    go_wp2_with fail
    refine (suBest_any A n c W B ts lo hi _ HN.out HG.out hW.1 hBB.1 HS1.out (by omega)).mono ?_
    rintro e w2 ⟨A2, n2, c2, vs, rfl, hl, hr, hb2⟩
    have HB2 := Lib.hid (HB1.out.trans (hb2.mono (by omega)))
    have HL := Lib.hid hl
    have HR := Lib.hid hr
    have HT := Lib.hid (topI_same ts W B)
    clear hb2 hl hr k0 k1
    go_wp2
    go_ret2
    exact ⟨by have h9 := HT.out.2.1; rw [← h9]; rfl, HB2.out⟩

set_option maxRecDepth 100000 in
set_option maxHeartbeats 2000000 in
theorem impl_BestPacked (A : Option Addr) (n c : Nat) (W B : Int) (ts : List (Int × Int × Int)) (lo hi : Nat) (w : World) (hn : ts.length = n) (hlen : n ≤ 1048576) (hs : Seg w lo hi A (flat3 ts)) (hB : hi ≤ w.heap.size) (q : Bool) (hq : askI ts W B = q) :
    Calls Try.prog 26 #[.slice A n c, .agg #[.int .i64 W, .int .i64 B]] w (RetI (if q = true then (topI ts W B).1 else 0) q w) := by
  have HN := Lib.hid hn
  have HB0 := Lib.hid ((Below.refl w.heap.size w).alloc (Nat.le_refl _) (.cells #[.int .i64 W, .int .i64 B] 34))
  have HC0 := Lib.hid (new_at w (.cells #[.int .i64 W, .int .i64 B] 34) rfl)
  have HS0 := Lib.hid (hs.below HB0.out hB)
  have HQ := Lib.hid hq
  cases q
  · clear hn hq hs
    go_enter Try.func26, Try.ntmps26
    go_wp2_with fail
    refine (luggage_no A n c W B ts lo hi _ HN.out hlen HS0.out (by simp; omega) HQ.out).mono ?_
    rintro e w1 ⟨rfl, hb1⟩
    have HB1 := Lib.hid (HB0.out.trans (hb1.mono (by simp)))
    go_wp2
    go_ret2
    exact ⟨rfl, HB1.out.alloc HB1.out.size _⟩
  · obtain ⟨hg, hW, hBB⟩ := askI_true.1 hq
    have HG := Lib.hid (goodI_ok hg)
    have hW4 : 0 ≤ W ∧ W ≤ 4000 := by omega
    have hB4 : 0 ≤ B ∧ B ≤ 4000 := by omega
    clear hn hq hs hg
    go_enter Try.func26, Try.ntmps26
    go_wp2_with fail
    refine (luggage_yes A n c W B ts lo hi _ HN.out hlen HS0.out (by simp; omega) HQ.out).mono ?_
    rintro e w1 ⟨rfl, hb1⟩
    have hz1' : w.heap.size < w1.heap.size := by have := hb1.size; simp at this; omega
    have HB1 := Lib.hid (HB0.out.trans (hb1.mono (by simp)))
    have hb1b := (Below.refl w1.heap.size w1).alloc (Nat.le_refl _) (.cells #[.slice A n c, .int .i64 W, .int .i64 B] 62)
    have HB2 := Lib.hid (HB1.out.trans (hb1b.mono HB1.out.size))
    have HS1 := Lib.hid (HS0.out.below hb1 (by simp; omega))
    have HS2 := Lib.hid (HS1.out.below hb1b (by omega))
    have HL2 := Lib.hid (new_at w1 (.cells #[.slice A n c, .int .i64 W, .int .i64 B] 62) rfl)
    clear hb1 hb1b
    go_wp2_with fail
    refine (best_any A n c W B ts lo hi _ HN.out HG.out hW4 hB4 HS2.out (by simp; omega)).mono ?_
    rintro e w3 ⟨Af, nf, cf, rfl, hnf, hown, hb3⟩
    have HB3 := Lib.hid (HB2.out.trans (hb3.mono HB2.out.size))
    have HNF := Lib.hid hnf
    have HOWN := Lib.hid (hown.more (lo' := w.heap.size) (by simp; omega) (Nat.le_refl _))
    have hfw := field_worth (topI ts W B).1 Af nf cf ((topI ts W B).2.2 : Nat)
    have hff := field_first (topI ts W B).1 Af nf cf ((topI ts W B).2.2 : Nat)
    have hfc := field_count (topI ts W B).1 Af nf cf ((topI ts W B).2.2 : Nat)
    clear hb3 hnf hown
    go_wp2
    go_ret2
    exact ⟨rfl, HB3.out⟩

set_option maxRecDepth 100000 in
set_option maxHeartbeats 2000000 in
theorem spec_CountPacked (A : Option Addr) (n c : Nat) (W B : Int) (ts : List (Int × Int × Int)) (lo hi : Nat) (w : World) (hn : ts.length = n) (hlen : n ≤ 1048576) (hs : Seg w lo hi A (flat3 ts)) (hB : hi ≤ w.heap.size) (q : Bool) (hq : askI ts W B = q) :
    Calls Try.prog 32 #[.slice A n c, .agg #[.int .i64 W, .int .i64 B]] w (RetI (if q = true then ((topI ts W B).2.2 : Nat) else 0) q w) := by
  have HN := Lib.hid hn
  have HB0 := Lib.hid ((Below.refl w.heap.size w).alloc (Nat.le_refl _) (.cells #[.int .i64 W, .int .i64 B] 34))
  have HC0 := Lib.hid (new_at w (.cells #[.int .i64 W, .int .i64 B] 34) rfl)
  have HS0 := Lib.hid (hs.below HB0.out hB)
  have HQ := Lib.hid hq
  cases q
  · clear hn hq hs
    go_enter Try.func32, Try.ntmps32
    go_wp2_with fail
    refine (suAsked_any A n c W B ts lo hi _ HN.out hlen HS0.out (by simp; omega) _ HQ.out).mono ?_
    rintro e w1 ⟨rfl, hb1⟩
    have HB1 := Lib.hid (HB0.out.trans (hb1.mono (by simp)))
    go_wp2
    go_ret2
    exact ⟨rfl, HB1.out⟩
  · obtain ⟨hg, hW, hBB⟩ := askI_true.1 hq
    have HG := Lib.hid (goodI_ok hg)
    clear hn hq hs hg
    go_enter Try.func32, Try.ntmps32
    go_wp2_with fail
    refine (suAsked_any A n c W B ts lo hi _ HN.out hlen HS0.out (by simp; omega) _ HQ.out).mono ?_
    rintro e w1 ⟨rfl, hb1⟩
    have HB1 := Lib.hid (HB0.out.trans (hb1.mono (by simp)))
    have hcc := (hb1.block w.heap.size (by simp)).trans HC0.out
    have HC1 := Lib.hid hcc
    have k0 := cell_of hcc 0
    have k1 := cell_of hcc 1
    have HS1 := Lib.hid (HS0.out.below hb1 (by simp; omega))
    have hz1 := hb1.size
    have hz1' : w.heap.size < w1.heap.size := by simp at hz1; omega
    clear hb1 hcc hz1
    go_wp2_with fail
    refine (suBest_any A n c W B ts lo hi _ HN.out HG.out hW.1 hBB.1 HS1.out (by omega)).mono ?_
    rintro e w2 ⟨A2, n2, c2, vs, rfl, hl, hr, hb2⟩
    have HB2 := Lib.hid (HB1.out.trans (hb2.mono (by omega)))
    have HL := Lib.hid hl
    have HR := Lib.hid hr
    have HT := Lib.hid (topI_same ts W B)
    clear hb2 hl hr k0 k1
    obtain rfl : n2 = (topI ts W B).2.2 := HL.out.symm.trans HT.out.2.2.1.symm
    go_wp2
    go_ret2
    exact ⟨rfl, HB2.out⟩

set_option maxRecDepth 100000 in
set_option maxHeartbeats 2000000 in
theorem impl_CountPacked (A : Option Addr) (n c : Nat) (W B : Int) (ts : List (Int × Int × Int)) (lo hi : Nat) (w : World) (hn : ts.length = n) (hlen : n ≤ 1048576) (hs : Seg w lo hi A (flat3 ts)) (hB : hi ≤ w.heap.size) (q : Bool) (hq : askI ts W B = q) :
    Calls Try.prog 33 #[.slice A n c, .agg #[.int .i64 W, .int .i64 B]] w (RetI (if q = true then ((topI ts W B).2.2 : Nat) else 0) q w) := by
  have HN := Lib.hid hn
  have HB0 := Lib.hid ((Below.refl w.heap.size w).alloc (Nat.le_refl _) (.cells #[.int .i64 W, .int .i64 B] 34))
  have HC0 := Lib.hid (new_at w (.cells #[.int .i64 W, .int .i64 B] 34) rfl)
  have HS0 := Lib.hid (hs.below HB0.out hB)
  have HQ := Lib.hid hq
  cases q
  · clear hn hq hs
    go_enter Try.func33, Try.ntmps33
    go_wp2_with fail
    refine (luggage_no A n c W B ts lo hi _ HN.out hlen HS0.out (by simp; omega) HQ.out).mono ?_
    rintro e w1 ⟨rfl, hb1⟩
    have HB1 := Lib.hid (HB0.out.trans (hb1.mono (by simp)))
    go_wp2
    go_ret2
    exact ⟨rfl, HB1.out.alloc HB1.out.size _⟩
  · obtain ⟨hg, hW, hBB⟩ := askI_true.1 hq
    have HG := Lib.hid (goodI_ok hg)
    have hW4 : 0 ≤ W ∧ W ≤ 4000 := by omega
    have hB4 : 0 ≤ B ∧ B ≤ 4000 := by omega
    clear hn hq hs hg
    go_enter Try.func33, Try.ntmps33
    go_wp2_with fail
    refine (luggage_yes A n c W B ts lo hi _ HN.out hlen HS0.out (by simp; omega) HQ.out).mono ?_
    rintro e w1 ⟨rfl, hb1⟩
    have hz1' : w.heap.size < w1.heap.size := by have := hb1.size; simp at this; omega
    have HB1 := Lib.hid (HB0.out.trans (hb1.mono (by simp)))
    have hb1b := (Below.refl w1.heap.size w1).alloc (Nat.le_refl _) (.cells #[.slice A n c, .int .i64 W, .int .i64 B] 62)
    have HB2 := Lib.hid (HB1.out.trans (hb1b.mono HB1.out.size))
    have HS1 := Lib.hid (HS0.out.below hb1 (by simp; omega))
    have HS2 := Lib.hid (HS1.out.below hb1b (by omega))
    have HL2 := Lib.hid (new_at w1 (.cells #[.slice A n c, .int .i64 W, .int .i64 B] 62) rfl)
    clear hb1 hb1b
    go_wp2_with fail
    refine (best_any A n c W B ts lo hi _ HN.out HG.out hW4 hB4 HS2.out (by simp; omega)).mono ?_
    rintro e w3 ⟨Af, nf, cf, rfl, hnf, hown, hb3⟩
    have HB3 := Lib.hid (HB2.out.trans (hb3.mono HB2.out.size))
    have HNF := Lib.hid hnf
    have HOWN := Lib.hid (hown.more (lo' := w.heap.size) (by simp; omega) (Nat.le_refl _))
    have hfw := field_worth (topI ts W B).1 Af nf cf ((topI ts W B).2.2 : Nat)
    have hff := field_first (topI ts W B).1 Af nf cf ((topI ts W B).2.2 : Nat)
    have hfc := field_count (topI ts W B).1 Af nf cf ((topI ts W B).2.2 : Nat)
    clear hb3 hnf hown
    go_wp2
    go_ret2
    exact ⟨rfl, HB3.out⟩

set_option maxRecDepth 100000 in
set_option maxHeartbeats 2000000 in
theorem spec_FirstPacked (A : Option Addr) (n c : Nat) (W B : Int) (ts : List (Int × Int × Int)) (lo hi : Nat) (w : World) (hn : ts.length = n) (hlen : n ≤ 1048576) (hs : Seg w lo hi A (flat3 ts)) (hB : hi ≤ w.heap.size) (q : Bool) (hq : askI ts W B = q) :
    Calls Try.prog 27 #[.slice A n c, .agg #[.int .i64 W, .int .i64 B]] w (RetL q (someN q (topI ts W B).2.1) w) := by
  have HN := Lib.hid hn
  have HB0 := Lib.hid ((Below.refl w.heap.size w).alloc (Nat.le_refl _) (.cells #[.int .i64 W, .int .i64 B] 34))
  have HC0 := Lib.hid (new_at w (.cells #[.int .i64 W, .int .i64 B] 34) rfl)
  have HS0 := Lib.hid (hs.below HB0.out hB)
  have HQ := Lib.hid hq
  cases q
  · clear hn hq hs
    go_enter Try.func27, Try.ntmps27
    go_wp2_with fail
    refine (suAsked_any A n c W B ts lo hi _ HN.out hlen HS0.out (by simp; omega) _ HQ.out).mono ?_
    rintro e w1 ⟨rfl, hb1⟩
    have HB1 := Lib.hid (HB0.out.trans (hb1.mono (by simp)))
    go_wp2
    go_ret2
    exact ⟨none, 0, 0, rfl, rfl, Own.nil_, HB1.out⟩
  · obtain ⟨hg, hW, hBB⟩ := askI_true.1 hq
    have HG := Lib.hid (goodI_ok hg)
    clear hn hq hs hg
    go_enter Try.func27, Try.ntmps27
    go_wp2_with fail
    refine (suAsked_any A n c W B ts lo hi _ HN.out hlen HS0.out (by simp; omega) _ HQ.out).mono ?_
    rintro e w1 ⟨rfl, hb1⟩
    have HB1 := Lib.hid (HB0.out.trans (hb1.mono (by simp)))
    have hcc := (hb1.block w.heap.size (by simp)).trans HC0.out
    have HC1 := Lib.hid hcc
    have k0 := cell_of hcc 0
    have k1 := cell_of hcc 1
    have HS1 := Lib.hid (HS0.out.below hb1 (by simp; omega))
    have hz1 := hb1.size
    have hz1' : w.heap.size < w1.heap.size := by simp at hz1; omega
    clear hb1 hcc hz1
    go_wp2_with fail
    refine (suBest_any A n c W B ts lo hi _ HN.out HG.out hW.1 hBB.1 HS1.out (by omega)).mono ?_
    rintro e w2 ⟨A2, n2, c2, vs, rfl, hl, hr, hb2⟩
    have HB2 := Lib.hid (HB1.out.trans (hb2.mono (by omega)))
    have HL := Lib.hid hl
    have HR := Lib.hid hr
    have HT := Lib.hid (topI_same ts W B)
    clear hb2 hl hr k0 k1
    obtain ⟨g, Bx, dx, rfl, hg1, hg2, hgc, hgo⟩ := HR.out.at_ HT.out.2.2.2
    have hn2 : 0 < n2 := by rw [← HL.out]; exact List.length_pos_iff.2 HT.out.1
    have hn2' : (0 : Int) < (n2 : Int) := by omega
    have HGO := Lib.hid (hgo.more (lo' := w.heap.size) (by omega) (Nat.le_refl _))
    clear hgo
    go_wp2
    go_ret2
    exact ⟨Bx, _, dx, rfl, rfl, HGO.out, HB2.out⟩

set_option maxRecDepth 100000 in
set_option maxHeartbeats 2000000 in
theorem impl_FirstPacked (A : Option Addr) (n c : Nat) (W B : Int) (ts : List (Int × Int × Int)) (lo hi : Nat) (w : World) (hn : ts.length = n) (hlen : n ≤ 1048576) (hs : Seg w lo hi A (flat3 ts)) (hB : hi ≤ w.heap.size) (q : Bool) (hq : askI ts W B = q) :
    Calls Try.prog 28 #[.slice A n c, .agg #[.int .i64 W, .int .i64 B]] w (RetL q (someN q (topI ts W B).2.1) w) := by
  have HN := Lib.hid hn
  have HB0 := Lib.hid ((Below.refl w.heap.size w).alloc (Nat.le_refl _) (.cells #[.int .i64 W, .int .i64 B] 34))
  have HC0 := Lib.hid (new_at w (.cells #[.int .i64 W, .int .i64 B] 34) rfl)
  have HS0 := Lib.hid (hs.below HB0.out hB)
  have HQ := Lib.hid hq
  cases q
  · clear hn hq hs
    go_enter Try.func28, Try.ntmps28
    go_wp2_with fail
    refine (luggage_no A n c W B ts lo hi _ HN.out hlen HS0.out (by simp; omega) HQ.out).mono ?_
    rintro e w1 ⟨rfl, hb1⟩
    have HB1 := Lib.hid (HB0.out.trans (hb1.mono (by simp)))
    go_wp2
    go_ret2
    exact ⟨none, 0, 0, rfl, rfl, Own.nil_, HB1.out.alloc HB1.out.size _⟩
  · obtain ⟨hg, hW, hBB⟩ := askI_true.1 hq
    have HG := Lib.hid (goodI_ok hg)
    have hW4 : 0 ≤ W ∧ W ≤ 4000 := by omega
    have hB4 : 0 ≤ B ∧ B ≤ 4000 := by omega
    clear hn hq hs hg
    go_enter Try.func28, Try.ntmps28
    go_wp2_with fail
    refine (luggage_yes A n c W B ts lo hi _ HN.out hlen HS0.out (by simp; omega) HQ.out).mono ?_
    rintro e w1 ⟨rfl, hb1⟩
    have hz1' : w.heap.size < w1.heap.size := by have := hb1.size; simp at this; omega
    have HB1 := Lib.hid (HB0.out.trans (hb1.mono (by simp)))
    have hb1b := (Below.refl w1.heap.size w1).alloc (Nat.le_refl _) (.cells #[.slice A n c, .int .i64 W, .int .i64 B] 62)
    have HB2 := Lib.hid (HB1.out.trans (hb1b.mono HB1.out.size))
    have HS1 := Lib.hid (HS0.out.below hb1 (by simp; omega))
    have HS2 := Lib.hid (HS1.out.below hb1b (by omega))
    have HL2 := Lib.hid (new_at w1 (.cells #[.slice A n c, .int .i64 W, .int .i64 B] 62) rfl)
    clear hb1 hb1b
    go_wp2_with fail
    refine (best_any A n c W B ts lo hi _ HN.out HG.out hW4 hB4 HS2.out (by simp; omega)).mono ?_
    rintro e w3 ⟨Af, nf, cf, rfl, hnf, hown, hb3⟩
    have HB3 := Lib.hid (HB2.out.trans (hb3.mono HB2.out.size))
    have HNF := Lib.hid hnf
    have HOWN := Lib.hid (hown.more (lo' := w.heap.size) (by simp; omega) (Nat.le_refl _))
    have hfw := field_worth (topI ts W B).1 Af nf cf ((topI ts W B).2.2 : Nat)
    have hff := field_first (topI ts W B).1 Af nf cf ((topI ts W B).2.2 : Nat)
    have hfc := field_count (topI ts W B).1 Af nf cf ((topI ts W B).2.2 : Nat)
    clear hb3 hnf hown
    go_wp2
    go_ret2
    exact ⟨Af, nf, cf, rfl, HNF.out, HOWN.out, HB3.out⟩

set_option maxRecDepth 100000 in
set_option maxHeartbeats 2000000 in
theorem spec_CountChoices (A : Option Addr) (n c : Nat) (W B : Int) (ts : List (Int × Int × Int)) (lo hi : Nat) (w : World) (hn : ts.length = n) (hlen : n ≤ 1048576) (hs : Seg w lo hi A (flat3 ts)) (hB : hi ≤ w.heap.size) (q : Bool) (hq : askI ts W B = q) :
    Calls Try.prog 36 #[.slice A n c, .agg #[.int .i64 W, .int .i64 B]] w (RetI (if q = true then ((allC ts W B).length : Nat) else 0) q w) := by
  have HN := Lib.hid hn
  have HB0 := Lib.hid ((Below.refl w.heap.size w).alloc (Nat.le_refl _) (.cells #[.int .i64 W, .int .i64 B] 34))
  have HC0 := Lib.hid (new_at w (.cells #[.int .i64 W, .int .i64 B] 34) rfl)
  have HS0 := Lib.hid (hs.below HB0.out hB)
  have HQ := Lib.hid hq
  cases q
  · clear hn hq hs
    go_enter Try.func36, Try.ntmps36
    go_wp2_with fail
    refine (suAsked_any A n c W B ts lo hi _ HN.out hlen HS0.out (by simp; omega) _ HQ.out).mono ?_
    rintro e w1 ⟨rfl, hb1⟩
    have HB1 := Lib.hid (HB0.out.trans (hb1.mono (by simp)))
    go_wp2
    go_ret2
    exact ⟨rfl, HB1.out⟩
  · obtain ⟨hg, hW, hBB⟩ := askI_true.1 hq
    have HG := Lib.hid (goodI_ok hg)
    clear hn hq hs hg
    go_enter Try.func36, Try.ntmps36
    go_wp2_with fail
    refine (suAsked_any A n c W B ts lo hi _ HN.out hlen HS0.out (by simp; omega) _ HQ.out).mono ?_
    rintro e w1 ⟨rfl, hb1⟩
    have HB1 := Lib.hid (HB0.out.trans (hb1.mono (by simp)))
    have hcc := (hb1.block w.heap.size (by simp)).trans HC0.out
    have HC1 := Lib.hid hcc
    have k0 := cell_of hcc 0
    have k1 := cell_of hcc 1
    have HS1 := Lib.hid (HS0.out.below hb1 (by simp; omega))
    have hz1 := hb1.size
    have hz1' : w.heap.size < w1.heap.size := by simp at hz1; omega
    clear hb1 hcc hz1
    go_wp2_with fail
    refine (suAll_any A n c W B ts lo hi _ HN.out HG.out HS1.out (by omega)).mono ?_
    rintro e w2 ⟨A2, n2, c2, vs, rfl, hl, hr, hb2⟩
    have HB2 := Lib.hid (HB1.out.trans (hb2.mono (by omega)))
    have HL := Lib.hid hl
    have HR := Lib.hid (show Rws w2 w.heap.size (.slice A2 n2 c2) (allC ts W B) vs from ⟨own_mono hr.1 (by omega), hr.2.1, fun j xs hj => by
        obtain ⟨B', c', e1, ho, h3⟩ := hr.2.2 j xs hj
        exact ⟨B', c', e1, ho.more (by omega) (Nat.le_refl _), h3⟩⟩)
    clear hb2 hl hr k0 k1
    obtain rfl : n2 = (allC ts W B).length := HL.out.symm
    go_wp2
    go_ret2
    exact ⟨rfl, HB2.out⟩

set_option maxRecDepth 100000 in
set_option maxHeartbeats 2000000 in
theorem impl_CountChoices (A : Option Addr) (n c : Nat) (W B : Int) (ts : List (Int × Int × Int)) (lo hi : Nat) (w : World) (hn : ts.length = n) (hlen : n ≤ 1048576) (hs : Seg w lo hi A (flat3 ts)) (hB : hi ≤ w.heap.size) (q : Bool) (hq : askI ts W B = q) :
    Calls Try.prog 37 #[.slice A n c, .agg #[.int .i64 W, .int .i64 B]] w (RetI (if q = true then ((allC ts W B).length : Nat) else 0) q w) := by
  have HN := Lib.hid hn
  have HB0 := Lib.hid ((Below.refl w.heap.size w).alloc (Nat.le_refl _) (.cells #[.int .i64 W, .int .i64 B] 34))
  have HC0 := Lib.hid (new_at w (.cells #[.int .i64 W, .int .i64 B] 34) rfl)
  have HS0 := Lib.hid (hs.below HB0.out hB)
  have HQ := Lib.hid hq
  cases q
  · clear hn hq hs
    go_enter Try.func37, Try.ntmps37
    go_wp2_with fail
    refine (luggage_no A n c W B ts lo hi _ HN.out hlen HS0.out (by simp; omega) HQ.out).mono ?_
    rintro e w1 ⟨rfl, hb1⟩
    have HB1 := Lib.hid (HB0.out.trans (hb1.mono (by simp)))
    go_wp2
    go_ret2
    exact ⟨rfl, HB1.out.alloc HB1.out.size _⟩
  · obtain ⟨hg, hW, hBB⟩ := askI_true.1 hq
    have HG := Lib.hid (goodI_ok hg)
    have hW4 : 0 ≤ W ∧ W ≤ 4000 := by omega
    have hB4 : 0 ≤ B ∧ B ≤ 4000 := by omega
    clear hn hq hs hg
    go_enter Try.func37, Try.ntmps37
    go_wp2_with fail
    refine (luggage_yes A n c W B ts lo hi _ HN.out hlen HS0.out (by simp; omega) HQ.out).mono ?_
    rintro e w1 ⟨rfl, hb1⟩
    have hz1' : w.heap.size < w1.heap.size := by have := hb1.size; simp at this; omega
    have HB1 := Lib.hid (HB0.out.trans (hb1.mono (by simp)))
    have hb1b := (Below.refl w1.heap.size w1).alloc (Nat.le_refl _) (.cells #[.slice A n c, .int .i64 W, .int .i64 B] 62)
    have HB2 := Lib.hid (HB1.out.trans (hb1b.mono HB1.out.size))
    have HS1 := Lib.hid (HS0.out.below hb1 (by simp; omega))
    have HS2 := Lib.hid (HS1.out.below hb1b (by omega))
    have HL2 := Lib.hid (new_at w1 (.cells #[.slice A n c, .int .i64 W, .int .i64 B] 62) rfl)
    clear hb1 hb1b
    obtain ⟨w3, hw3⟩ : ∃ w3, ((w1.alloc (.cells #[.slice A n c, .int .i64 W, .int .i64 B] 62)).alloc (.cells #[.int .i64 0] 3)) = w3 := ⟨_, rfl⟩
    have hb3 : Below (w1.heap.size + 1) (w1.alloc (.cells #[.slice A n c, .int .i64 W, .int .i64 B] 62)) w3 := by rw [← hw3]; exact (Below.refl _ _).alloc (by simp) _
    have hz3 : w3.heap.size = w1.heap.size + 2 := by rw [← hw3]; simp
    have hq3 : w3.heap[w1.heap.size + 1]? = some (.cells #[.int .i64 0] 3 (0, 0)) := by rw [← hw3]; exact new_at _ _ (by simp)
    have HB3 := Lib.hid (HB2.out.trans (hb3.mono (by omega)))
    have HS3 := Lib.hid (HS2.out.below hb3 (by omega))
    have HW3 := Lib.hid hw3
    have HQ3 := Lib.hid hq3
    clear hb3 hw3 hq3
    go_wp2_with fail
    rw [HW3.out]
    refine (each_count (w1.heap.size + 1) A n c ts W B lo hi (w1.heap.size + 1) (RC w3.heap.size (w1.heap.size + 1)) w3 HN.out HG.out (by omega) (by omega) hW4 hB4 (RC.keeps (by omega)) ?_ HS3.out (⟨Nat.le_refl _, (fun g e => by cases e), HQ3.out⟩)).mono ?_
    · exact visit_count _ A n c ts W B lo hi _ _ (by omega) (by omega)
    rintro e w4 ⟨rfl, ⟨ob, hr4⟩, hb4⟩
    have HB4 := Lib.hid (HB3.out.trans (hb4.mono (by omega)))
    have HR4 := Lib.hid hr4
    clear hb4 hr4
    have c0 := cell_of HR4.out.cnt 0
    go_wp2
    go_ret2
    exact ⟨rfl, HB4.out⟩

/-- The first choice of the most items. -/
def mostI (L : List (List Int)) : List Int := L.foldl (fun b x => if b.length < x.length then x else b) []
theorem mostI_next {L : List (List Int)} {k : Nat} {x : List Int} (h : L[k]? = some x) : mostI (L.take (k + 1)) = if (mostI (L.take k)).length < x.length then x else mostI (L.take k) := by
  rw [take_snocI h, mostI, List.foldl_append]; rfl
theorem most_off (L : List (List Int)) : ∀ (b : List Int) (t : Int × List Int × Nat), t.2.1 = b → t.1 = (b.length : Int) → t.2.2 ≠ 0 → (L.foldl (fun s c => offF s c (c.length : Int)) t).2.1 = L.foldl (fun b x => if b.length < x.length then x else b) b := by
  induction L with
  | nil => intro b t h1 _ _; exact h1
  | cons x L ih =>
    intro b t h1 h2 h3
    rw [List.foldl_cons, List.foldl_cons]
    by_cases h : b.length < x.length
    · rw [if_pos h]
      have e : offF t x (x.length : Int) = ((x.length : Int), x, 1) := by unfold offF; rw [if_pos (.inr (by omega))]
      rw [e]
      exact ih _ _ rfl rfl (by simp)
    · rw [if_neg h]
      have h5 : ¬ (t.2.2 = 0 ∨ t.1 < (x.length : Int)) := by omega
      refine ih _ _ ?_ ?_ ?_
      all_goals unfold offF; rw [if_neg h5]
      · split
        · exact h1
        · exact h1
      · split
        · exact h2
        · exact h2
      · split
        · simp
        · exact h3
theorem most_same (L : List (List Int)) : (offL (fun xs : List Int => (xs.length : Int)) ([] :: L)).2.1 = mostI ([] :: L) := by
  unfold offL mostI
  rw [List.foldl_cons, List.foldl_cons]
  exact most_off L [] (offF (0, [], 0) [] 0) rfl rfl (by unfold offF; simp)
theorem mostI_mem (L : List (List Int)) : mostI L = [] ∨ mostI L ∈ L := by
  have : ∀ (L : List (List Int)) (b : List Int), L.foldl (fun b x => if b.length < x.length then x else b) b = b ∨ L.foldl (fun b x => if b.length < x.length then x else b) b ∈ L := by
    intro L
    induction L with
    | nil => intro b; exact .inl rfl
    | cons x L ih =>
      intro b
      rw [List.foldl_cons]
      rcases ih (if b.length < x.length then x else b) with h | h
      · rw [h]
        split
        · exact .inr List.mem_cons_self
        · exact .inl rfl
      · exact .inr (List.mem_cons_of_mem _ h)
  exact this L []
theorem mostI_len {ts : List (Int × Int × Int)} {W B : Int} (h : askI ts W B = true) : (mostI (allC ts W B)).length ≤ 10 := by
  obtain ⟨hg, hW, hB⟩ := askI_true.1 h
  rcases mostI_mem (allC ts W B) with e | e
  · rw [e]; simp
  · exact Nat.le_trans (incI_len (allC_mem hW.1 hB.1 e).1) (goodI_ok hg).len

set_option maxRecDepth 100000 in
set_option maxHeartbeats 2000000 in
theorem spec_MostPacked (A : Option Addr) (n c : Nat) (W B : Int) (ts : List (Int × Int × Int)) (lo hi : Nat) (w : World) (hn : ts.length = n) (hlen : n ≤ 1048576) (hs : Seg w lo hi A (flat3 ts)) (hB : hi ≤ w.heap.size) (q : Bool) (hq : askI ts W B = q) :
    Calls Try.prog 34 #[.slice A n c, .agg #[.int .i64 W, .int .i64 B]] w (RetL q (someN q (mostI (allC ts W B))) w) := by
  have HN := Lib.hid hn
  have HB0 := Lib.hid ((Below.refl w.heap.size w).alloc (Nat.le_refl _) (.cells #[.int .i64 W, .int .i64 B] 34))
  have HC0 := Lib.hid (new_at w (.cells #[.int .i64 W, .int .i64 B] 34) rfl)
  have HS0 := Lib.hid (hs.below HB0.out hB)
  have HQ := Lib.hid hq
  cases q
  · clear hn hq hs
    go_enter Try.func34, Try.ntmps34
    go_wp2_with fail
    refine (suAsked_any A n c W B ts lo hi _ HN.out hlen HS0.out (by simp; omega) _ HQ.out).mono ?_
    rintro e w1 ⟨rfl, hb1⟩
    have HB1 := Lib.hid (HB0.out.trans (hb1.mono (by simp)))
    go_wp2
    go_ret2
    exact ⟨none, 0, 0, rfl, rfl, Own.nil_, HB1.out⟩
  · obtain ⟨hg, hW, hBB⟩ := askI_true.1 hq
    have HG := Lib.hid (goodI_ok hg)
    clear hn hq hs hg
    go_enter Try.func34, Try.ntmps34
    go_wp2_with fail
    refine (suAsked_any A n c W B ts lo hi _ HN.out hlen HS0.out (by simp; omega) _ HQ.out).mono ?_
    rintro e w1 ⟨rfl, hb1⟩
    have HB1 := Lib.hid (HB0.out.trans (hb1.mono (by simp)))
    have hcc := (hb1.block w.heap.size (by simp)).trans HC0.out
    have HC1 := Lib.hid hcc
    have k0 := cell_of hcc 0
    have k1 := cell_of hcc 1
    have HS1 := Lib.hid (HS0.out.below hb1 (by simp; omega))
    have hz1 := hb1.size
    have hz1' : w.heap.size < w1.heap.size := by simp at hz1; omega
    clear hb1 hcc hz1
    go_wp2_with fail
    refine (suAll_any A n c W B ts lo hi _ HN.out HG.out HS1.out (by omega)).mono ?_
    rintro e w2 ⟨A2, n2, c2, vs, rfl, hl, hr, hb2⟩
    have HB2 := Lib.hid (HB1.out.trans (hb2.mono (by omega)))
    have HL := Lib.hid hl
    have HR := Lib.hid (show Rws w2 w.heap.size (.slice A2 n2 c2) (allC ts W B) vs from ⟨own_mono hr.1 (by omega), hr.2.1, fun j xs hj => by
        obtain ⟨B', c', e1, ho, h3⟩ := hr.2.2 j xs hj
        exact ⟨B', c', e1, ho.more (by omega) (Nat.le_refl _), h3⟩⟩)
    clear hb2 hl hr k0 k1
    have hn2b : n2 ≤ 1024 := by rw [← HL.out]; exact allC_few HG.out W B
    have HMEM := Lib.hid (show ∀ xs ∈ allC ts W B, xs.length ≤ 10 from fun xs hx => Nat.le_trans (incI_len (allC_mem hW.1 hBB.1 hx).1) HG.out.len)
    obtain ⟨LL, hLL⟩ : ∃ LL, allC ts W B = LL := ⟨_, rfl⟩
    have HLL := Lib.hid hLL
    rw [hLL] at HL HR HMEM
    clear hLL
    go_wp2
    go_loopw [6, 8, 17] (fun b _ i wr => ∃ k : Nat, k ≤ n2 ∧ i = .int .i64 k ∧ wr = w2 ∧ ∃ Ab nb cb, b = .slice Ab nb cb ∧ (mostI (LL.take k)).length = nb ∧ nb ≤ 10 ∧ Own w2 w.heap.size w2.heap.size Ab (mostI (LL.take k))) (fun _ _ i _ => n2 - (intOf i).toNat)
    case atStart => exact ⟨0, Nat.zero_le _, rfl, rfl, none, 0, 0, rfl, rfl, by omega, Own.nil_⟩
    case round =>
      obtain ⟨k, hk, rfl, rfl, Ab, nb, cb, rfl, hnb, hnb10, hob⟩ := hrel
      have HNB := Lib.hid hnb
      have HOB := Lib.hid hob
      clear hnb hob
      by_cases hlt : k < n2
      · obtain ⟨xs, hx⟩ : ∃ xs, LL[k]? = some xs := ⟨_, List.getElem?_eq_getElem (by rw [HL.out]; exact hlt)⟩
        obtain ⟨g, Bx, dx, rfl, hg1, hg2, hgc, hgo⟩ := HR.out.at_ hx
        have hx10 := HMEM.out xs (List.mem_of_getElem? hx)
        have HNX := Lib.hid (mostI_next hx)
        obtain ⟨nx, hnx⟩ : ∃ nx, xs.length = nx := ⟨_, rfl⟩
        rw [hnx] at hgc hx10
        have HXL := Lib.hid hnx
        have HGO := Lib.hid hgo
        clear hx hgo hnx
        by_cases hgt : nb < nx
        · have HN2 := Lib.hid (show mostI (LL.take (k + 1)) = xs by rw [HNX.out, if_pos (by rw [HNB.out, HXL.out]; exact hgt)])
          have hd : decide ((nb : Int) < (nx : Int)) = true := decide_eq_true (by omega)
          go_wp2
          go_roundw
          case rel => exact ⟨k + 1, by omega, by go_num, (by first | rfl | trivial), Bx, nx, dx, rfl, by rw [HN2.out, HXL.out], hx10, by rw [HN2.out]; exact HGO.out⟩
          case measure => simp [intOf]; omega
        · have HN2 := Lib.hid (show mostI (LL.take (k + 1)) = mostI (LL.take k) by rw [HNX.out, if_neg (by rw [HNB.out, HXL.out]; exact hgt)])
          have hd : decide ((nb : Int) < (nx : Int)) = false := decide_eq_false (by omega)
          go_wp2
          go_roundw
          case rel => exact ⟨k + 1, by omega, by go_num, (by first | rfl | trivial), Ab, nb, cb, rfl, by rw [HN2.out, HNB.out], hnb10, by rw [HN2.out]; exact HOB.out⟩
          case measure => simp [intOf]; omega
      · obtain rfl : k = n2 := by omega
        have HE := Lib.hid (show LL.take k = LL by rw [← HL.out, List.take_length])
        go_wp2
        go_ret2
        exact ⟨Ab, nb, cb, rfl, by rw [← HNB.out, HE.out, HLL.out]; rfl, by rw [HLL.out, ← HE.out]; exact HOB.out, HB2.out⟩

set_option maxRecDepth 100000 in
set_option maxHeartbeats 2000000 in
theorem impl_MostPacked (A : Option Addr) (n c : Nat) (W B : Int) (ts : List (Int × Int × Int)) (lo hi : Nat) (w : World) (hn : ts.length = n) (hlen : n ≤ 1048576) (hs : Seg w lo hi A (flat3 ts)) (hB : hi ≤ w.heap.size) (q : Bool) (hq : askI ts W B = q) :
    Calls Try.prog 35 #[.slice A n c, .agg #[.int .i64 W, .int .i64 B]] w (RetL q (someN q (mostI (allC ts W B))) w) := by
  have HN := Lib.hid hn
  have HB0 := Lib.hid ((Below.refl w.heap.size w).alloc (Nat.le_refl _) (.cells #[.int .i64 W, .int .i64 B] 34))
  have HC0 := Lib.hid (new_at w (.cells #[.int .i64 W, .int .i64 B] 34) rfl)
  have HS0 := Lib.hid (hs.below HB0.out hB)
  have HQ := Lib.hid hq
  cases q
  · clear hn hq hs
    go_enter Try.func35, Try.ntmps35
    go_wp2_with fail
    refine (luggage_no A n c W B ts lo hi _ HN.out hlen HS0.out (by simp; omega) HQ.out).mono ?_
    rintro e w1 ⟨rfl, hb1⟩
    have HB1 := Lib.hid (HB0.out.trans (hb1.mono (by simp)))
    go_wp2
    go_ret2
    exact ⟨none, 0, 0, rfl, rfl, Own.nil_, HB1.out.alloc HB1.out.size _⟩
  · obtain ⟨hg, hW, hBB⟩ := askI_true.1 hq
    have HG := Lib.hid (goodI_ok hg)
    have hW4 : 0 ≤ W ∧ W ≤ 4000 := by omega
    have hB4 : 0 ≤ B ∧ B ≤ 4000 := by omega
    clear hn hq hs hg
    go_enter Try.func35, Try.ntmps35
    go_wp2_with fail
    refine (luggage_yes A n c W B ts lo hi _ HN.out hlen HS0.out (by simp; omega) HQ.out).mono ?_
    rintro e w1 ⟨rfl, hb1⟩
    have hz1' : w.heap.size < w1.heap.size := by have := hb1.size; simp at this; omega
    have HB1 := Lib.hid (HB0.out.trans (hb1.mono (by simp)))
    have hb1b := (Below.refl w1.heap.size w1).alloc (Nat.le_refl _) (.cells #[.slice A n c, .int .i64 W, .int .i64 B] 62)
    have HB2 := Lib.hid (HB1.out.trans (hb1b.mono HB1.out.size))
    have HS1 := Lib.hid (HS0.out.below hb1 (by simp; omega))
    have HS2 := Lib.hid (HS1.out.below hb1b (by omega))
    have HL2 := Lib.hid (new_at w1 (.cells #[.slice A n c, .int .i64 W, .int .i64 B] 62) rfl)
    clear hb1 hb1b
    obtain ⟨w3, hw3⟩ : ∃ w3, ((w1.alloc (.cells #[.slice A n c, .int .i64 W, .int .i64 B] 62)).alloc (.cells #[.int .i64 0, .slice none 0 0, .int .i64 0] 70)) = w3 := ⟨_, rfl⟩
    have hb3 : Below (w1.heap.size + 1) (w1.alloc (.cells #[.slice A n c, .int .i64 W, .int .i64 B] 62)) w3 := by rw [← hw3]; exact (Below.refl _ _).alloc (by simp) _
    have hz3 : w3.heap.size = w1.heap.size + 2 := by rw [← hw3]; simp
    have hq3 : w3.heap[w1.heap.size + 1]? = some (.cells #[.int .i64 0, .slice none 0 0, .int .i64 0] 70 (0, 0)) := by rw [← hw3]; exact new_at _ _ (by simp)
    have HB3 := Lib.hid (HB2.out.trans (hb3.mono (by omega)))
    have HS3 := Lib.hid (HS2.out.below hb3 (by omega))
    have HW3 := Lib.hid hw3
    have HQ3 := Lib.hid hq3
    clear hb3 hw3 hq3
    go_wp2_with fail
    rw [HW3.out]
    refine (each_most (w1.heap.size + 1) A n c ts W B lo hi (w1.heap.size + 1) (RG w3.heap.size (w1.heap.size + 1) [] (fun xs : List Int => (xs.length : Int)) id) w3 HN.out HG.out (by omega) (by omega) hW4 hB4 (RG.keeps (by omega) (by simp)) ?_ HS3.out (RG.start rfl rfl (by simp) HQ3.out)).mono ?_
    · exact visit_most _ A n c ts W B lo hi _ _ HN.out HG.out (by omega) (by omega) (by omega)
    rintro e w4 ⟨rfl, ⟨ob, hr4⟩, hb4⟩
    have HB4 := Lib.hid (HB3.out.trans (hb4.mono (by omega)))
    have HR4 := Lib.hid hr4
    clear hb4 hr4
    obtain ⟨Af, nf, cf, hcel, hnf, hown, _⟩ := HR4.out.cel
    have HMS := Lib.hid (show (offL (fun xs : List Int => (xs.length : Int)) (id (allC ts W B))).2.1 = mostI (allC ts W B) from most_same _)
    rw [HMS.out] at hnf hown
    have HNF := Lib.hid hnf
    have HOWN := Lib.hid (hown.more (lo' := w.heap.size) (by omega) (Nat.le_refl _))
    have c1 := cell_of hcel 1
    clear hcel hnf hown
    go_wp2
    go_ret2
    exact ⟨Af, nf, cf, rfl, HNF.out, HOWN.out, HB4.out⟩

set_option maxRecDepth 100000 in
set_option maxHeartbeats 2000000 in
theorem spec_IsChoice (A A2 : Option Addr) (n c m c2 : Nat) (W B : Int) (ts : List (Int × Int × Int)) (ks : List Int) (lo hi lo2 hi2 : Nat) (w : World) (hn : ts.length = n) (hlen : n ≤ 1048576) (hm : ks.length = m) (hlen2 : m ≤ 1048576) (hs : Seg w lo hi A (flat3 ts)) (hB : hi ≤ w.heap.size) (hs2 : Seg w lo2 hi2 A2 ks) (hB2 : hi2 ≤ w.heap.size) (q : Bool) (hq : askI ts W B = q) (r : Bool) (hr : chI ts W B ks = r) :
    Calls Try.prog 20 #[.slice A n c, .agg #[.int .i64 W, .int .i64 B], .slice A2 m c2] w (RetBB (q && r) q w) := by
  have HN := Lib.hid hn
  have HB0 := Lib.hid ((Below.refl w.heap.size w).alloc (Nat.le_refl _) (.cells #[.int .i64 W, .int .i64 B] 34))
  have HC0 := Lib.hid (new_at w (.cells #[.int .i64 W, .int .i64 B] 34) rfl)
  have HS0 := Lib.hid (hs.below HB0.out hB)
  have HQ := Lib.hid hq
  have HM := Lib.hid hm
  have HRR := Lib.hid hr
  have HT0 := Lib.hid (hs2.below HB0.out hB2)
  cases q
  · clear hn hq hs hm hr hs2
    go_enter Try.func20, Try.ntmps20
    go_wp2_with fail
    refine (suAsked_any A n c W B ts lo hi _ HN.out hlen HS0.out (by simp; omega) _ HQ.out).mono ?_
    rintro e w1 ⟨rfl, hb1⟩
    have HB1 := Lib.hid (HB0.out.trans (hb1.mono (by simp)))
    go_wp2
    go_ret2
    exact ⟨rfl, HB1.out⟩
  · obtain ⟨hg, hW, hBB⟩ := askI_true.1 hq
    have HG := Lib.hid (goodI_ok hg)
    have H1 := Lib.hid (goodI_one hg)
    have hW4 : 0 ≤ W ∧ W ≤ 4000 := by omega
    have hB4 : 0 ≤ B ∧ B ≤ 4000 := by omega
    clear hn hq hs hm hr hs2 hg
    go_enter Try.func20, Try.ntmps20
    go_wp2_with fail
    refine (suAsked_any A n c W B ts lo hi _ HN.out hlen HS0.out (by simp; omega) _ HQ.out).mono ?_
    rintro e w1 ⟨rfl, hb1⟩
    have HB1 := Lib.hid (HB0.out.trans (hb1.mono (by simp)))
    have HT1 := Lib.hid (HT0.out.below hb1 (by simp; omega))
    have hcc := (hb1.block w.heap.size (by simp)).trans HC0.out
    have HC1 := Lib.hid hcc
    have k0 := cell_of hcc 0
    have k1 := cell_of hcc 1
    have HS1 := Lib.hid (HS0.out.below hb1 (by simp; omega))
    have hz1 := hb1.size
    have hz1' : w.heap.size < w1.heap.size := by simp at hz1; omega
    clear hb1 hcc hz1
    go_wp2_with fail
    refine (suIs_any A A2 n c m c2 W B ts ks _ _ _ _ _ HN.out HG.out H1.out HM.out hlen2 HS1.out (by omega) HT1.out (by omega) _ HRR.out).mono ?_
    rintro e w2 ⟨rfl, hb2⟩
    have HB2 := Lib.hid (HB1.out.trans (hb2.mono (by omega)))
    go_wp2
    go_ret2
    exact ⟨rfl, HB2.out⟩

set_option maxRecDepth 100000 in
set_option maxHeartbeats 2000000 in
theorem impl_IsChoice (A A2 : Option Addr) (n c m c2 : Nat) (W B : Int) (ts : List (Int × Int × Int)) (ks : List Int) (lo hi lo2 hi2 : Nat) (w : World) (hn : ts.length = n) (hlen : n ≤ 1048576) (hm : ks.length = m) (hlen2 : m ≤ 1048576) (hs : Seg w lo hi A (flat3 ts)) (hB : hi ≤ w.heap.size) (hs2 : Seg w lo2 hi2 A2 ks) (hB2 : hi2 ≤ w.heap.size) (q : Bool) (hq : askI ts W B = q) (r : Bool) (hr : chI ts W B ks = r) :
    Calls Try.prog 23 #[.slice A n c, .agg #[.int .i64 W, .int .i64 B], .slice A2 m c2] w (RetBB (q && r) q w) := by
  have HN := Lib.hid hn
  have HB0 := Lib.hid ((Below.refl w.heap.size w).alloc (Nat.le_refl _) (.cells #[.int .i64 W, .int .i64 B] 34))
  have HC0 := Lib.hid (new_at w (.cells #[.int .i64 W, .int .i64 B] 34) rfl)
  have HS0 := Lib.hid (hs.below HB0.out hB)
  have HQ := Lib.hid hq
  have HM := Lib.hid hm
  have HRR := Lib.hid hr
  have HT0 := Lib.hid (hs2.below HB0.out hB2)
  cases q
  · clear hn hq hs hm hr hs2
    go_enter Try.func23, Try.ntmps23
    go_wp2_with fail
    refine (luggage_no A n c W B ts lo hi _ HN.out hlen HS0.out (by simp; omega) HQ.out).mono ?_
    rintro e w1 ⟨rfl, hb1⟩
    have HB1 := Lib.hid (HB0.out.trans (hb1.mono (by simp)))
    go_wp2
    go_ret2
    exact ⟨rfl, HB1.out.alloc HB1.out.size _⟩
  · obtain ⟨hg, hW, hBB⟩ := askI_true.1 hq
    have HG := Lib.hid (goodI_ok hg)
    have H1 := Lib.hid (goodI_one hg)
    have hW4 : 0 ≤ W ∧ W ≤ 4000 := by omega
    have hB4 : 0 ≤ B ∧ B ≤ 4000 := by omega
    clear hn hq hs hm hr hs2 hg
    go_enter Try.func23, Try.ntmps23
    go_wp2_with fail
    refine (luggage_yes A n c W B ts lo hi _ HN.out hlen HS0.out (by simp; omega) HQ.out).mono ?_
    rintro e w1 ⟨rfl, hb1⟩
    have HB1 := Lib.hid (HB0.out.trans (hb1.mono (by simp)))
    have HT1 := Lib.hid (HT0.out.below hb1 (by simp; omega))
    have hz1' : w.heap.size < w1.heap.size := by have := hb1.size; simp at this; omega
    have HS1 := Lib.hid (HS0.out.below hb1 (by simp; omega))
    have hb1b := (Below.refl w1.heap.size w1).alloc (Nat.le_refl _) (.cells #[.slice A n c, .int .i64 W, .int .i64 B] 62)
    have HS2 := Lib.hid (HS1.out.below hb1b (by omega))
    have HT2 := Lib.hid (HT1.out.below hb1b (by omega))
    have HB1b := Lib.hid (HB1.out.trans (hb1b.mono HB1.out.size))
    clear hb1b
    go_wp2_with fail
    refine (isChoice_any A A2 n c m c2 W B ts ks _ _ _ _ _ HN.out HG.out HM.out hlen2 hW4 hB4 HS2.out (by simp; omega) HT2.out (by simp; omega) _ HRR.out).mono ?_
    rintro e w2 ⟨rfl, hb2⟩
    have HB2 := Lib.hid (HB1b.out.trans (hb2.mono HB1b.out.size))
    go_wp2
    go_ret2
    exact ⟨rfl, HB2.out⟩

end Go.Proofs.Ytmgloknghoeheaa

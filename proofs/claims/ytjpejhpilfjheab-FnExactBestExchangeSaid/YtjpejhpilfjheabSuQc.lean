/-
  The written program's choice, asked for.
  Conditions: lists of at most 1048576 items and numbers.
-/
import Derived.Test.YtjpejhpilfjheabSuC
namespace Go.Proofs.Ytjpejhpilfjheab
set_option linter.unusedVariables false
set_option linter.unusedSimpArgs false
open Go.RowKit

set_option maxRecDepth 100000 in
set_option maxHeartbeats 1000000 in
theorem choiceOf_bad (A A2 : Option Addr) (n c m c2 : Nat) (W B : Int) (ts : List (Int × Int × Int)) (ks : List Int) (lo hi lo2 hi2 : Nat) (w : World) (hn : ts.length = n) (hlen : n ≤ 1048576) (hm : ks.length = m) (hlen2 : m ≤ 1048576) (hs : Seg w lo hi A (flat3 ts)) (hB : hi ≤ w.heap.size)
    (hs2 : Seg w lo2 hi2 A2 ks) (hB2 : hi2 ≤ w.heap.size) (hq : askI ts W B = false) :
    Calls Try.prog 49 #[.slice A n c, .agg #[.int .i64 W, .int .i64 B], .slice A2 m c2] w fun e w' => e = .returned (.tuple #[.agg #[.slice none 0 0, .int .i64 0, .int .i64 0], .bool false]) ∧ Below w.heap.size w w' := by
  have HN := Lib.hid hn
  have HM := Lib.hid hm
  have HB0 := Lib.hid (((Below.refl w.heap.size w).alloc (Nat.le_refl _) (.cells #[.int .i64 W, .int .i64 B] 41)).alloc (by simp) (.cells #[.slice none 0 0, .int .i64 0, .int .i64 0] 67))
  have HR0 := Lib.hid (new_at (w.alloc (.cells #[.int .i64 W, .int .i64 B] 41)) (.cells #[.slice none 0 0, .int .i64 0, .int .i64 0] 67) (g := w.heap.size + 1) (by simp))
  have HS0 := Lib.hid (hs.below HB0.out hB)
  have HT0 := Lib.hid (hs2.below HB0.out hB2)
  clear hn hs hm hs2
  go_enter Try.func49, Try.ntmps49
  go_wp2_with fail
  refine (luggage_no A n c W B ts lo hi _ HN.out hlen HS0.out (by simp; omega) hq).mono ?_
  rintro e w1 ⟨rfl, hb1⟩
  have HB1 := Lib.hid (HB0.out.trans (hb1.mono (by simp; omega)))
  have hb1b := (Below.refl w1.heap.size w1).alloc (Nat.le_refl _) (.cells #[.slice none 0 0, .int .i64 0, .int .i64 0] 67)
  have hz1 := hb1.size
  have hz1' : w.heap.size + 1 < w1.heap.size := by simp at hz1; omega
  have HB2 := Lib.hid (HB1.out.trans (hb1b.mono HB1.out.size))
  have HR1 := Lib.hid ((hb1.block (w.heap.size + 1) (by simp)).trans HR0.out)
  clear hb1 hb1b hz1
  have r0 := cell_of HR1.out 0
  have r1 := cell_of HR1.out 1
  have r2 := cell_of HR1.out 2
  have q0 := frozen_of HR1.out 0
  have q1 := frozen_of HR1.out 1
  have q2 := frozen_of HR1.out 2
  go_wp2
  clear r0 r1 r2 q0 q1 q2
  have HF := Lib.hid ((alloc_old _ (by simp [World.setCell]; omega) (.cells #[.slice none 0 0, .int .i64 0, .int .i64 0] 67)).trans (set_self (set_self (set_self HR1.out 0 (.slice none 0 0)) 1 (.int .i64 0)) 2 (.int .i64 0)))
  have r0 := cell_of HF.out 0
  have r1 := cell_of HF.out 1
  have r2 := cell_of HF.out 2
  refine bodyPost_ret (v := .tuple #[.agg #[.slice none 0 0, .int .i64 0, .int .i64 0], .bool false]) (by simp [results, Try.results49, go_sem, r0, r1, r2]) rfl ⟨rfl, ?_⟩
  exact (((HB1.out.setCell (Nat.le_succ _) _).setCell (Nat.le_succ _) _).setCell (Nat.le_succ _) _).alloc (by simp [World.setCell]; omega) _

set_option maxRecDepth 100000 in
set_option maxHeartbeats 1000000 in
theorem choiceOf_none (A A2 : Option Addr) (n c m c2 : Nat) (W B : Int) (ts : List (Int × Int × Int)) (ks : List Int) (lo hi lo2 hi2 : Nat) (w : World) (hn : ts.length = n) (hlen : n ≤ 1048576) (hm : ks.length = m) (hlen2 : m ≤ 1048576) (hs : Seg w lo hi A (flat3 ts)) (hB : hi ≤ w.heap.size)
    (hs2 : Seg w lo2 hi2 A2 ks) (hB2 : hi2 ≤ w.heap.size) (hq : askI ts W B = true) (hr : chI ts W B ks = false) :
    Calls Try.prog 49 #[.slice A n c, .agg #[.int .i64 W, .int .i64 B], .slice A2 m c2] w fun e w' => e = .returned (.tuple #[.agg #[.slice none 0 0, .int .i64 0, .int .i64 0], .bool false]) ∧ Below w.heap.size w w' := by
  have HN := Lib.hid hn
  have HM := Lib.hid hm
  have HB0 := Lib.hid (((Below.refl w.heap.size w).alloc (Nat.le_refl _) (.cells #[.int .i64 W, .int .i64 B] 41)).alloc (by simp) (.cells #[.slice none 0 0, .int .i64 0, .int .i64 0] 67))
  have HR0 := Lib.hid (new_at (w.alloc (.cells #[.int .i64 W, .int .i64 B] 41)) (.cells #[.slice none 0 0, .int .i64 0, .int .i64 0] 67) (g := w.heap.size + 1) (by simp))
  have HS0 := Lib.hid (hs.below HB0.out hB)
  have HT0 := Lib.hid (hs2.below HB0.out hB2)
  obtain ⟨hg, hW, hBB⟩ := askI_true.1 hq
  have HG := Lib.hid (goodI_ok hg)
  have hW4 : 0 ≤ W ∧ W ≤ 4000 := by omega
  have hB4 : 0 ≤ B ∧ B ≤ 4000 := by omega
  clear hn hs hm hs2 hg
  go_enter Try.func49, Try.ntmps49
  go_wp2_with fail
  refine (luggage_yes A n c W B ts lo hi _ HN.out hlen HS0.out (by simp; omega) hq).mono ?_
  rintro e w1 ⟨rfl, hb1⟩
  have HB1 := Lib.hid (HB0.out.trans (hb1.mono (by simp; omega)))
  have hb1b := (Below.refl w1.heap.size w1).alloc (Nat.le_refl _) (.cells #[.slice A n c, .int .i64 W, .int .i64 B] 67)
  have hz1 := hb1.size
  have hz1' : w.heap.size + 1 < w1.heap.size := by simp at hz1; omega
  have HB2 := Lib.hid (HB1.out.trans (hb1b.mono HB1.out.size))
  have HR2 := Lib.hid ((hb1b.block _ hz1').trans ((hb1.block (w.heap.size + 1) (by simp)).trans HR0.out))
  have HL2 := Lib.hid (new_at w1 (.cells #[.slice A n c, .int .i64 W, .int .i64 B] 67) rfl)
  have HS2 := Lib.hid ((HS0.out.below hb1 (by simp; omega)).below hb1b (by omega))
  have HT2 := Lib.hid ((HT0.out.below hb1 (by simp; omega)).below hb1b (by omega))
  clear hb1 hb1b hz1
  go_wp2_with fail
  refine (isChoice_any A A2 n c m c2 W B ts ks _ _ _ _ _ HN.out HG.out HM.out hlen2 hW4 hB4 HS2.out (by simp; omega) HT2.out (by simp; omega) _ hr).mono ?_
  rintro e w2 ⟨rfl, hb2⟩
  have HB3 := Lib.hid (HB2.out.trans (hb2.mono HB2.out.size))
  have HR3 := Lib.hid ((hb2.block _ (by simp; omega)).trans HR2.out)
  have hl3 := (hb2.block w1.heap.size (by simp)).trans HL2.out
  have l0 := cell_of hl3 0
  have l1 := cell_of hl3 1
  have l2 := cell_of hl3 2
  clear hb2 hl3
  have r0 := cell_of HR3.out 0
  have r1 := cell_of HR3.out 1
  have r2 := cell_of HR3.out 2
  have q0 := frozen_of HR3.out 0
  have q1 := frozen_of HR3.out 1
  have q2 := frozen_of HR3.out 2
  go_wp2
  clear r0 r1 r2 q0 q1 q2
  have HF := Lib.hid (set_self (set_self (set_self HR3.out 0 (.slice none 0 0)) 1 (.int .i64 0)) 2 (.int .i64 0))
  have r0 := cell_of HF.out 0
  have r1 := cell_of HF.out 1
  have r2 := cell_of HF.out 2
  refine bodyPost_ret (v := .tuple #[.agg #[.slice none 0 0, .int .i64 0, .int .i64 0], .bool false]) (by simp [results, Try.results49, go_sem, r0, r1, r2]) rfl ⟨rfl, ?_⟩
  exact ((HB3.out.setCell (Nat.le_succ _) _).setCell (Nat.le_succ _) _).setCell (Nat.le_succ _) _

set_option maxRecDepth 100000 in
set_option maxHeartbeats 1000000 in
theorem choiceOf_yes (A A2 : Option Addr) (n c m c2 : Nat) (W B : Int) (ts : List (Int × Int × Int)) (ks : List Int) (lo hi lo2 hi2 : Nat) (w : World) (hn : ts.length = n) (hlen : n ≤ 1048576) (hm : ks.length = m) (hlen2 : m ≤ 1048576) (hs : Seg w lo hi A (flat3 ts)) (hB : hi ≤ w.heap.size)
    (hs2 : Seg w lo2 hi2 A2 ks) (hB2 : hi2 ≤ w.heap.size) (hq : askI ts W B = true) (hr : chI ts W B ks = true) :
    Calls Try.prog 49 #[.slice A n c, .agg #[.int .i64 W, .int .i64 B], .slice A2 m c2] w fun e w' => e = .returned (.tuple #[.agg #[.slice A n c, .int .i64 W, .int .i64 B], .bool true]) ∧ Below w.heap.size w w' := by
  have HN := Lib.hid hn
  have HM := Lib.hid hm
  have HB0 := Lib.hid (((Below.refl w.heap.size w).alloc (Nat.le_refl _) (.cells #[.int .i64 W, .int .i64 B] 41)).alloc (by simp) (.cells #[.slice none 0 0, .int .i64 0, .int .i64 0] 67))
  have HR0 := Lib.hid (new_at (w.alloc (.cells #[.int .i64 W, .int .i64 B] 41)) (.cells #[.slice none 0 0, .int .i64 0, .int .i64 0] 67) (g := w.heap.size + 1) (by simp))
  have HS0 := Lib.hid (hs.below HB0.out hB)
  have HT0 := Lib.hid (hs2.below HB0.out hB2)
  obtain ⟨hg, hW, hBB⟩ := askI_true.1 hq
  have HG := Lib.hid (goodI_ok hg)
  have hW4 : 0 ≤ W ∧ W ≤ 4000 := by omega
  have hB4 : 0 ≤ B ∧ B ≤ 4000 := by omega
  clear hn hs hm hs2 hg
  go_enter Try.func49, Try.ntmps49
  go_wp2_with fail
  refine (luggage_yes A n c W B ts lo hi _ HN.out hlen HS0.out (by simp; omega) hq).mono ?_
  rintro e w1 ⟨rfl, hb1⟩
  have HB1 := Lib.hid (HB0.out.trans (hb1.mono (by simp; omega)))
  have hb1b := (Below.refl w1.heap.size w1).alloc (Nat.le_refl _) (.cells #[.slice A n c, .int .i64 W, .int .i64 B] 67)
  have hz1 := hb1.size
  have hz1' : w.heap.size + 1 < w1.heap.size := by simp at hz1; omega
  have HB2 := Lib.hid (HB1.out.trans (hb1b.mono HB1.out.size))
  have HR2 := Lib.hid ((hb1b.block _ hz1').trans ((hb1.block (w.heap.size + 1) (by simp)).trans HR0.out))
  have HL2 := Lib.hid (new_at w1 (.cells #[.slice A n c, .int .i64 W, .int .i64 B] 67) rfl)
  have HS2 := Lib.hid ((HS0.out.below hb1 (by simp; omega)).below hb1b (by omega))
  have HT2 := Lib.hid ((HT0.out.below hb1 (by simp; omega)).below hb1b (by omega))
  clear hb1 hb1b hz1
  go_wp2_with fail
  refine (isChoice_any A A2 n c m c2 W B ts ks _ _ _ _ _ HN.out HG.out HM.out hlen2 hW4 hB4 HS2.out (by simp; omega) HT2.out (by simp; omega) _ hr).mono ?_
  rintro e w2 ⟨rfl, hb2⟩
  have HB3 := Lib.hid (HB2.out.trans (hb2.mono HB2.out.size))
  have HR3 := Lib.hid ((hb2.block _ (by simp; omega)).trans HR2.out)
  have hl3 := (hb2.block w1.heap.size (by simp)).trans HL2.out
  have l0 := cell_of hl3 0
  have l1 := cell_of hl3 1
  have l2 := cell_of hl3 2
  clear hb2 hl3
  have r0 := cell_of HR3.out 0
  have r1 := cell_of HR3.out 1
  have r2 := cell_of HR3.out 2
  have q0 := frozen_of HR3.out 0
  have q1 := frozen_of HR3.out 1
  have q2 := frozen_of HR3.out 2
  go_wp2
  clear r0 r1 r2 q0 q1 q2
  have HF := Lib.hid (set_self (set_self (set_self HR3.out 0 (.slice A n c)) 1 (.int .i64 W)) 2 (.int .i64 B))
  have r0 := cell_of HF.out 0
  have r1 := cell_of HF.out 1
  have r2 := cell_of HF.out 2
  refine bodyPost_ret (v := .tuple #[.agg #[.slice A n c, .int .i64 W, .int .i64 B], .bool true]) (by simp [results, Try.results49, go_sem, r0, r1, r2]) rfl ⟨rfl, ?_⟩
  exact ((HB3.out.setCell (Nat.le_succ _) _).setCell (Nat.le_succ _) _).setCell (Nat.le_succ _) _
end Go.Proofs.Ytjpejhpilfjheab

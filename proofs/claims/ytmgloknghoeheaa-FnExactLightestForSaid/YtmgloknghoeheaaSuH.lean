/-
  What both programs answer of the lightest choices.
  Conditions: lists of at most 1048576 items.
-/
import Derived.Test.YtmgloknghoeheaaSuG
import Derived.Test.YtmgloknghoeheaaSuHM
namespace Go.Proofs.Ytmgloknghoeheaa
set_option linter.unusedVariables false
open Go.RowKit

/-- A list, a number and a bool are answered. -/
def RetLIB (b : Bool) (v : Int) (ys : List Int) (w : World) (e : Ending) (w' : World) : Prop :=
  ∃ A n c, e = .returned (.tuple #[.slice A n c, .int .i64 v, .bool b]) ∧ ys.length = n ∧ Own w' w.heap.size w'.heap.size A ys ∧ Below w.heap.size w w'
theorem lit_no {ts : List (Int × Int × Int)} {bulk val : Int} (h : litOk ts bulk val = false) : litB ts bulk val = false ∧ litV ts bulk val = 0 ∧ litL ts bulk val = [] := by simp [litB, litV, litL, h]

set_option maxRecDepth 100000 in
set_option maxHeartbeats 4000000 in
theorem spec_LightestFor (A : Option Addr) (n c : Nat) (bulk val : Int) (ts : List (Int × Int × Int)) (lo hi : Nat) (w : World) (hn : ts.length = n) (hlen : n ≤ 1048576) (hs : Seg w lo hi A (flat3 ts)) (hB : hi ≤ w.heap.size) (q : Bool) (hq : litB ts bulk val = q) (v : Int) (hv : litV ts bulk val = v) :
    Calls Try.prog 38 #[.slice A n c, .int .i64 bulk, .int .i64 val] w (RetLIB q v (litL ts bulk val) w) := by
  have HN := Lib.hid hn
  cases hg : goodI ts
  · have hok : litOk ts bulk val = false := by rw [litOk, hg, Bool.false_and]
    obtain ⟨e1, e2, e3⟩ := lit_no hok
    obtain rfl : q = false := hq.symm.trans e1
    obtain rfl : v = 0 := hv.symm.trans e2
    have HE := Lib.hid e3
    have HG := Lib.hid hg
    clear hn hq hv hg hok e1 e2 e3
    go_enter Try.func38, Try.ntmps38
    go_wp2_with fail
    refine (suGood_any A n c ts lo hi _ HN.out hlen hs hB _ HG.out).mono ?_
    rintro e w1 ⟨rfl, hb1⟩
    go_wp2
    go_ret3
    exact ⟨none, 0, 0, rfl, by rw [HE.out]; rfl, by rw [HE.out]; exact Own.nil_, hb1⟩
  · have HG := Lib.hid hg
    cases hb : inB bulk 0 200
    · have hok : litOk ts bulk val = false := by rw [litOk, hb, Bool.false_and, Bool.and_false]
      obtain ⟨e1, e2, e3⟩ := lit_no hok
      obtain rfl : q = false := hq.symm.trans e1
      obtain rfl : v = 0 := hv.symm.trans e2
      have HE := Lib.hid e3
      clear hn hq hv hg hok e1 e2 e3
      go_enter Try.func38, Try.ntmps38
      go_wp2_with fail
      refine (suGood_any A n c ts lo hi _ HN.out hlen hs hB _ HG.out).mono ?_
      rintro e w1 ⟨rfl, hb1⟩
      go_wp2_with fail
      refine (l1In_any bulk 0 200 false hb _).mono ?_
      rintro e w' ⟨rfl, rfl⟩
      go_wp2
      go_ret3
      exact ⟨none, 0, 0, rfl, by rw [HE.out]; rfl, by rw [HE.out]; exact Own.nil_, hb1⟩
    · cases hvl : inB val 0 10000
      · have hok : litOk ts bulk val = false := by rw [litOk, hvl, Bool.and_false, Bool.and_false]
        obtain ⟨e1, e2, e3⟩ := lit_no hok
        obtain rfl : q = false := hq.symm.trans e1
        obtain rfl : v = 0 := hv.symm.trans e2
        have HE := Lib.hid e3
        clear hn hq hv hg hok e1 e2 e3
        go_enter Try.func38, Try.ntmps38
        go_wp2_with fail
        refine (suGood_any A n c ts lo hi _ HN.out hlen hs hB _ HG.out).mono ?_
        rintro e w1 ⟨rfl, hb1⟩
        go_wp2_with fail
        refine (l1In_any bulk 0 200 true hb _).mono ?_
        rintro e w' ⟨rfl, rfl⟩
        go_wp2_with fail
        refine (l1In_any val 0 10000 false hvl _).mono ?_
        rintro e w' ⟨rfl, rfl⟩
        go_wp2
        go_ret3
        exact ⟨none, 0, 0, rfl, by rw [HE.out]; rfl, by rw [HE.out]; exact Own.nil_, hb1⟩
      · have hok : litOk ts bulk val = true := by rw [litOk, hg, hb, hvl]; rfl
        have HGO := Lib.hid (goodI_ok hg)
        have hbb := inB_true.1 hb
        have hvb := inB_true.1 hvl
        have hq' : decide (0 < (lightT ts bulk val).2.2) = q := by rw [← hq, litB, hok, Bool.true_and]
        have hv' : -(lightT ts bulk val).1 = v := by rw [← hv, litV, if_pos hok]
        have HL0 := Lib.hid (show litL ts bulk val = (lightT ts bulk val).2.1 by rw [litL, if_pos hok])
        have HV := Lib.hid hv'
        have HQ := Lib.hid hq'
        have HLS := Lib.hid (light_same HGO.out bulk val)
        clear hn hq hv hg hok hq' hv'
        go_enter Try.func38, Try.ntmps38
        go_wp2_with fail
        refine (suGood_any A n c ts lo hi _ HN.out hlen hs hB _ HG.out).mono ?_
        rintro e w1 ⟨rfl, hb1⟩
        go_wp2_with fail
        refine (l1In_any bulk 0 200 true hb _).mono ?_
        rintro e w' ⟨rfl, rfl⟩
        go_wp2_with fail
        refine (l1In_any val 0 10000 true hvl _).mono ?_
        rintro e w' ⟨rfl, rfl⟩
        have HS1 := Lib.hid (hs.below hb1 hB)
        have hz1 := hb1.size
        have HB1 := Lib.hid hb1
        clear hb1
        go_wp2_with fail
        refine (suAll_any A n c 2000 bulk ts lo hi _ HN.out HGO.out HS1.out (by omega)).mono ?_
        rintro e w2 ⟨A2, n2, c2, vs, rfl, hl, hr, hb2⟩
        have HB2 := Lib.hid (HB1.out.trans (hb2.mono hz1))
        have HL := Lib.hid hl
        have HS2 := Lib.hid (HS1.out.below hb2 (by omega))
        have hz2 := hb2.size
        have HR := Lib.hid (show Rws w2 w.heap.size (.slice A2 n2 c2) (allC ts 2000 bulk) vs from ⟨own_mono hr.1 hz1, hr.2.1, fun j xs hj => by
          obtain ⟨B', c', e1, ho, h3⟩ := hr.2.2 j xs hj
          exact ⟨B', c', e1, ho.more hz1 (Nat.le_refl _), h3⟩⟩)
        clear hb2 hl hr
        have hn2b : n2 ≤ 1024 := by rw [← HL.out]; exact allC_few HGO.out 2000 bulk
        have HMEM := Lib.hid (show ∀ xs ∈ allC ts 2000 bulk, incI ts.length xs = true from fun xs hx => (allC_mem (by omega) hbb.1 hx).1)
        obtain ⟨LL, hLL⟩ : ∃ LL, allC ts 2000 bulk = LL := ⟨_, rfl⟩
        have HLL := Lib.hid hLL
        rw [hLL] at HL HR HMEM HLS
        clear hLL
        go_wp2
        go_loopw [9, 10, 12, 13, 14, 15, 34, 38] (fun b l _ _ _ _ i _ wr => ∃ k : Nat, k ≤ n2 ∧ i = .int .i64 k ∧ wr = w2 ∧ ∃ Ab nb cb, b = .slice Ab nb cb ∧ l = .int .i64 (lowL ts val (LL.take k)).2 ∧ -1 ≤ (lowL ts val (LL.take k)).2 ∧ (lowL ts val (LL.take k)).1.length = nb ∧ nb ≤ 10 ∧ Own w2 w.heap.size w2.heap.size Ab (lowL ts val (LL.take k)).1) (fun _ _ _ _ _ _ i _ _ => n2 - (intOf i).toNat)
        case atStart => exact ⟨0, Nat.zero_le _, rfl, rfl, none, 0, 0, rfl, rfl, (by simp [lowL]), rfl, by omega, Own.nil_⟩
        case round =>
          obtain ⟨k, hk, rfl, rfl, Ab, nb, cb, rfl, rfl, hl1, hnb, hnb10, hob⟩ := hrel
          have HNB := Lib.hid hnb
          have HOB := Lib.hid hob
          clear hnb hob
          by_cases hlt : k < n2
          · obtain ⟨xs, hx⟩ : ∃ xs, LL[k]? = some xs := ⟨_, List.getElem?_eq_getElem (by rw [HL.out]; exact hlt)⟩
            obtain ⟨g, Bx, dx, rfl, hg1, hg2, hgc, hgo⟩ := HR.out.at_ hx
            have HINC := Lib.hid (HMEM.out xs (List.mem_of_getElem? hx))
            have HNX := Lib.hid (lowL_next ts val hx)
            have hx10 : xs.length ≤ 10 := Nat.le_trans (incI_len HINC.out) HGO.out.len
            have hwb := sumF_bd (wI_f HGO.out) xs
            obtain ⟨nx, hnx⟩ : ∃ nx, xs.length = nx := ⟨_, rfl⟩
            rw [hnx] at hgc hx10 hwb
            have HXL := Lib.hid hnx
            have HGW := Lib.hid hgo
            have HTOT := Lib.hid (suTotals_any A Bx n c nx dx ts xs lo hi _ _ _ HN.out HGO.out hnx HINC.out HS2.out hgo.seg)
            obtain ⟨wx, hwx⟩ : ∃ wx, sumF (wI ts) xs = wx := ⟨_, rfl⟩
            obtain ⟨vx, hvx⟩ : ∃ vx, sumF (vI ts) xs = vx := ⟨_, rfl⟩
            rw [hwx, hvx] at HTOT
            rw [hwx] at hwb
            have HVX := Lib.hid (show valI ts xs = vx from hvx)
            have HWX := Lib.hid hwx
            obtain ⟨lw, hlw⟩ : ∃ lw, (lowL ts val (LL.take k)).2 = lw := ⟨_, rfl⟩
            rw [hlw] at hl1 ⊢
            have HLW := Lib.hid hlw
            clear hx hgo hnx hwx hvx hlw
            by_cases hc : val ≤ vx ∧ (lw < 0 ∨ wx < lw)
            · have HN2 := Lib.hid (show lowL ts val (LL.take (k + 1)) = (xs, wx) by rw [HNX.out, lowF, HVX.out, HLW.out, HWX.out, if_pos hc])
              have hd1 : decide (val ≤ vx) = true := decide_eq_true hc.1
              have hcs : decide (lw < 0) = true ∨ (decide (lw < 0) = false ∧ decide (wx < lw) = true) := by
                by_cases h : lw < 0
                · exact .inl (decide_eq_true h)
                · exact .inr ⟨decide_eq_false h, decide_eq_true (hc.2.resolve_left h)⟩
              clear hc
              rcases hcs with hd2 | ⟨hd2, hd3⟩
              all_goals
                go_wp2_with fail
                refine HTOT.out.mono ?_
                rintro e w' ⟨rfl, rfl⟩
                go_wp2
                go_roundw
                case rel => exact ⟨k + 1, by omega, by go_num, (by first | rfl | trivial), Bx, nx, dx, rfl, by rw [HN2.out], (by rw [HN2.out]; simp; omega), by rw [HN2.out, HXL.out], hx10, by rw [HN2.out]; exact HGW.out⟩
                case measure => simp [intOf]; omega
            · have HN2 := Lib.hid (show lowL ts val (LL.take (k + 1)) = lowL ts val (LL.take k) by rw [HNX.out, lowF, HVX.out, HLW.out, HWX.out, if_neg hc])
              have hcs : decide (val ≤ vx) = false ∨ (decide (val ≤ vx) = true ∧ decide (lw < 0) = false ∧ decide (wx < lw) = false) := by
                by_cases h : val ≤ vx
                · exact .inr ⟨decide_eq_true h, decide_eq_false fun h2 => hc ⟨h, .inl h2⟩, decide_eq_false fun h2 => hc ⟨h, .inr h2⟩⟩
                · exact .inl (decide_eq_false h)
              clear hc
              rcases hcs with hd1 | ⟨hd1, hd2, hd3⟩
              all_goals
                go_wp2_with fail
                refine HTOT.out.mono ?_
                rintro e w' ⟨rfl, rfl⟩
                go_wp2
                go_roundw
                case rel => exact ⟨k + 1, by omega, by go_num, (by first | rfl | trivial), Ab, nb, cb, rfl, by rw [HN2.out, HLW.out], (by rw [HN2.out, HLW.out]; exact hl1), by rw [HN2.out, HNB.out], hnb10, by rw [HN2.out]; exact HOB.out⟩
                case measure => simp [intOf]; omega
          · obtain rfl : k = n2 := by omega
            have HE := Lib.hid (show LL.take k = LL by rw [← HL.out, List.take_length])
            rw [HE.out] at HNB HOB hl1 ⊢
            rcases HLS.out with ⟨ht, hl⟩ | ⟨ht, hl, hle⟩
            · rw [hl] at HNB HOB ⊢
              obtain rfl : q = false := by rw [← HQ.out, ht]; rfl
              obtain rfl : v = 0 := by rw [← HV.out, ht]; rfl
              have HLI := Lib.hid (show litL ts bulk val = [] by rw [HL0.out, ht])
              clear hl ht hl1
              go_wp2
              go_ret3
              exact ⟨none, 0, 0, rfl, by rw [HLI.out]; rfl, by rw [HLI.out]; exact Own.nil_, HB2.out⟩
            · rw [hl] at HNB HOB hl1 ⊢
              obtain rfl : q = true := by rw [← HQ.out]; exact decide_eq_true (by omega)
              rw [HV.out] at hl1 ⊢
              have hv0 : 0 ≤ v := by rw [← HV.out]; omega
              have hd : decide (v < 0) = false := decide_eq_false (by omega)
              clear hl ht hl1
              go_wp2
              go_ret3
              exact ⟨Ab, nb, cb, rfl, by rw [HL0.out]; exact HNB.out, by rw [HL0.out]; exact HOB.out, HB2.out⟩

set_option maxRecDepth 100000 in
set_option maxHeartbeats 4000000 in
theorem impl_LightestFor (A : Option Addr) (n c : Nat) (bulk val : Int) (ts : List (Int × Int × Int)) (lo hi : Nat) (w : World) (hn : ts.length = n) (hlen : n ≤ 1048576) (hs : Seg w lo hi A (flat3 ts)) (hB : hi ≤ w.heap.size) (q : Bool) (hq : litB ts bulk val = q) (v : Int) (hv : litV ts bulk val = v) :
    Calls Try.prog 39 #[.slice A n c, .int .i64 bulk, .int .i64 val] w (RetLIB q v (litL ts bulk val) w) := by
  have HN := Lib.hid hn
  have HB0 := Lib.hid ((Below.refl w.heap.size w).alloc (Nat.le_refl _) (.cells #[.int .i64 val] 3))
  have HC0 := Lib.hid (new_at w (.cells #[.int .i64 val] 3) rfl)
  have HS0 := Lib.hid (hs.below HB0.out hB)
  cases hg : goodI ts
  · have hok : litOk ts bulk val = false := by rw [litOk, hg, Bool.false_and]
    obtain ⟨e1, e2, e3⟩ := lit_no hok
    obtain rfl : q = false := hq.symm.trans e1
    obtain rfl : v = 0 := hv.symm.trans e2
    have HE := Lib.hid e3
    have HG := Lib.hid hg
    clear hn hq hv hg hok e1 e2 e3 hs
    go_enter Try.func39, Try.ntmps39
    go_wp2_with fail
    refine (areItems_any A n c ts lo hi _ HN.out hlen HS0.out (by simp; omega) _ HG.out).mono ?_
    rintro e w1 ⟨rfl, hb1⟩
    have hcc := (hb1.block w.heap.size (by simp)).trans HC0.out
    have HC1 := Lib.hid hcc
    have k0 := cell_of hcc 0
    have HB1 := Lib.hid (HB0.out.trans (hb1.mono (by simp)))
    have hz1 : w.heap.size < w1.heap.size := by have := hb1.size; simp at this; omega
    have HS1 := Lib.hid (HS0.out.below hb1 (by simp; omega))
    clear hb1 hcc
    go_wp2
    go_ret3
    exact ⟨none, 0, 0, rfl, by rw [HE.out]; rfl, by rw [HE.out]; exact Own.nil_, HB1.out⟩
  · have HG := Lib.hid hg
    cases hb : inB bulk 0 200
    · have hok : litOk ts bulk val = false := by rw [litOk, hb, Bool.false_and, Bool.and_false]
      obtain ⟨e1, e2, e3⟩ := lit_no hok
      obtain rfl : q = false := hq.symm.trans e1
      obtain rfl : v = 0 := hv.symm.trans e2
      have HE := Lib.hid e3
      clear hn hq hv hg hok e1 e2 e3 hs
      go_enter Try.func39, Try.ntmps39
      go_wp2_with fail
      refine (areItems_any A n c ts lo hi _ HN.out hlen HS0.out (by simp; omega) _ HG.out).mono ?_
      rintro e w1 ⟨rfl, hb1⟩
      have hcc := (hb1.block w.heap.size (by simp)).trans HC0.out
      have HC1 := Lib.hid hcc
      have k0 := cell_of hcc 0
      have HB1 := Lib.hid (HB0.out.trans (hb1.mono (by simp)))
      have hz1 : w.heap.size < w1.heap.size := by have := hb1.size; simp at this; omega
      have HS1 := Lib.hid (HS0.out.below hb1 (by simp; omega))
      clear hb1 hcc
      go_wp2_with fail
      refine (isLimit_any bulk _ false hb).mono ?_
      rintro e w' ⟨rfl, rfl⟩
      go_wp2
      go_ret3
      exact ⟨none, 0, 0, rfl, by rw [HE.out]; rfl, by rw [HE.out]; exact Own.nil_, HB1.out⟩
    · cases hvl : inB val 0 10000
      · have hok : litOk ts bulk val = false := by rw [litOk, hvl, Bool.and_false, Bool.and_false]
        obtain ⟨e1, e2, e3⟩ := lit_no hok
        obtain rfl : q = false := hq.symm.trans e1
        obtain rfl : v = 0 := hv.symm.trans e2
        have HE := Lib.hid e3
        rw [inB_false] at hvl
        have hcs : decide (val < 0) = true ∨ (decide (val < 0) = false ∧ decide (val > 10000) = true) := by
          by_cases h : val < 0
          · exact .inl (decide_eq_true h)
          · exact .inr ⟨decide_eq_false h, decide_eq_true (by omega)⟩
        clear hn hq hv hg hok e1 e2 e3 hs
        rcases hcs with hd1 | ⟨hd1, hd2⟩
        all_goals
          go_enter Try.func39, Try.ntmps39
          go_wp2_with fail
          refine (areItems_any A n c ts lo hi _ HN.out hlen HS0.out (by simp; omega) _ HG.out).mono ?_
          rintro e w1 ⟨rfl, hb1⟩
          have hcc := (hb1.block w.heap.size (by simp)).trans HC0.out
          have HC1 := Lib.hid hcc
          have k0 := cell_of hcc 0
          have HB1 := Lib.hid (HB0.out.trans (hb1.mono (by simp)))
          have hz1 : w.heap.size < w1.heap.size := by have := hb1.size; simp at this; omega
          have HS1 := Lib.hid (HS0.out.below hb1 (by simp; omega))
          clear hb1 hcc
          go_wp2_with fail
          refine (isLimit_any bulk _ true hb).mono ?_
          rintro e w' ⟨rfl, rfl⟩
          go_wp2
          go_ret3
          exact ⟨none, 0, 0, rfl, by rw [HE.out]; rfl, by rw [HE.out]; exact Own.nil_, HB1.out⟩
      · have hok : litOk ts bulk val = true := by rw [litOk, hg, hb, hvl]; rfl
        have HGO := Lib.hid (goodI_ok hg)
        have hbb := inB_true.1 hb
        have hvb := inB_true.1 hvl
        have hq' : decide (0 < (lightT ts bulk val).2.2) = q := by rw [← hq, litB, hok, Bool.true_and]
        have hv' : -(lightT ts bulk val).1 = v := by rw [← hv, litV, if_pos hok]
        have HL0 := Lib.hid (show litL ts bulk val = (lightT ts bulk val).2.1 by rw [litL, if_pos hok])
        have HV := Lib.hid hv'
        have HQ := Lib.hid hq'
        have HTB := Lib.hid (total_bd HGO.out)
        have HAR := Lib.hid (all_room (B := bulk) HGO.out (Int.le_refl _) HTB.out.2)
        have hlb := lightT_bd HGO.out hbb.1 val
        have hd1 : decide (val < 0) = false := decide_eq_false (by omega)
        have hd2 : decide (val > 10000) = false := decide_eq_false (by omega)
        clear hn hq hv hg hok hq' hv' hs
        go_enter Try.func39, Try.ntmps39
        go_wp2_with fail
        refine (areItems_any A n c ts lo hi _ HN.out hlen HS0.out (by simp; omega) _ HG.out).mono ?_
        rintro e w1 ⟨rfl, hb1⟩
        have hcc := (hb1.block w.heap.size (by simp)).trans HC0.out
        have HC1 := Lib.hid hcc
        have k0 := cell_of hcc 0
        have HB1 := Lib.hid (HB0.out.trans (hb1.mono (by simp)))
        have hz1 : w.heap.size < w1.heap.size := by have := hb1.size; simp at this; omega
        have HS1 := Lib.hid (HS0.out.below hb1 (by simp; omega))
        clear hb1 hcc
        go_wp2_with fail
        refine (isLimit_any bulk _ true hb).mono ?_
        rintro e w' ⟨rfl, rfl⟩
        go_wp2_with fail
        refine (sum_weight A n c ts lo hi _ HN.out HGO.out.len HGO.out.all HS1.out (by omega)).mono ?_
        obtain ⟨tot, htot⟩ : ∃ tot, sumC (fun t => t.1) ts = tot := ⟨_, rfl⟩
        rw [htot]
        rw [htot] at HTB HAR
        rintro e w1b ⟨rfl, hb1⟩
        have hcc := (hb1.block w.heap.size hz1).trans HC1.out
        have HC1b := Lib.hid hcc
        have HB1b := Lib.hid (HB1.out.trans (hb1.mono (by omega)))
        have HS1b := Lib.hid (HS1.out.below hb1 (by omega))
        have hz1b : w.heap.size < w1b.heap.size := by have := hb1.size; omega
        clear k0 hb1 hcc htot
        obtain ⟨w3, hw3⟩ : ∃ w3, ((w1b.alloc (.cells #[.slice A n c, .int .i64 tot, .int .i64 bulk] 62)).alloc (.cells #[.int .i64 0, .slice none 0 0, .int .i64 0] 70)) = w3 := ⟨_, rfl⟩
        have hb3 : Below w1b.heap.size w1b w3 := by rw [← hw3]; exact ((Below.refl _ _).alloc (Nat.le_refl _) _).alloc (by simp) _
        have hz3 : w3.heap.size = w1b.heap.size + 2 := by rw [← hw3]; simp
        have hq3 : w3.heap[w1b.heap.size + 1]? = some (.cells #[.int .i64 0, .slice none 0 0, .int .i64 0] 70 (0, 0)) := by rw [← hw3]; exact new_at _ _ (by simp)
        have hl3 : w3.heap[w1b.heap.size]? = some (Obj.cells #[.slice A n c, .int .i64 tot, .int .i64 bulk] 62 (0, 0)) := by rw [← hw3, alloc_old _ (by simp)]; exact new_at _ _ rfl
        have hv3 := (hb3.block w.heap.size hz1b).trans HC1b.out
        have HB3 := Lib.hid (HB1b.out.trans (hb3.mono (by omega)))
        have HS3 := Lib.hid (HS1b.out.below hb3 (by omega))
        have HW3 := Lib.hid hw3
        have HEX := Lib.hid (show ∀ p ∈ [(w1b.heap.size, (Obj.cells #[.slice A n c, .int .i64 tot, .int .i64 bulk] 62 (0, 0))), (w.heap.size, Obj.cells #[.int .i64 val] 3 (0, 0))], w3.heap[p.1]? = some p.2 by
          intro p hp
          simp only [List.mem_cons, List.not_mem_nil, or_false] at hp
          rcases hp with rfl | rfl
          · exact hl3
          · exact hv3)
        have HLT := Lib.hid (show ∀ p ∈ [(w1b.heap.size, (Obj.cells #[.slice A n c, .int .i64 tot, .int .i64 bulk] 62 (0, 0))), (w.heap.size, Obj.cells #[.int .i64 val] 3 (0, 0))], p.1 < w3.heap.size from fun p hp => heap_lt (HEX.out p hp))
        have HR3 := Lib.hid (RG.start (ex := [(w1b.heap.size, (Obj.cells #[.slice A n c, .int .i64 tot, .int .i64 bulk] 62 (0, 0))), (w.heap.size, Obj.cells #[.int .i64 val] 3 (0, 0))]) (g := litI ts) (fl := worthF ts val) (P0 := w3.heap.size) rfl rfl HEX.out hq3)
        have htb := HTB.out
        clear hb3 hw3 hq3 hl3 hv3
        go_wp2_with fail
        rw [HW3.out]
        refine (each_light w1b.heap.size w.heap.size (w1b.heap.size + 1) A n c ts tot bulk lo hi (w1b.heap.size + 1) (RG w3.heap.size (w1b.heap.size + 1) [(w1b.heap.size, (Obj.cells #[.slice A n c, .int .i64 tot, .int .i64 bulk] 62 (0, 0))), (w.heap.size, Obj.cells #[.int .i64 val] 3 (0, 0))] (litI ts) (worthF ts val)) w3 HN.out HGO.out (by omega) (by omega) (by omega) (by omega) (RG.keeps (by omega) HLT.out) ?_ HS3.out HR3.out).mono ?_
        · exact visit_light _ _ _ A n c ts tot bulk lo hi _ _ val HN.out HGO.out (by omega) (by omega) (by omega) (by omega) (by omega) (by omega) (by omega)
        rintro e w4 ⟨rfl, ⟨ob, hr4⟩, hb4⟩
        have HB4 := Lib.hid (HB3.out.trans (hb4.mono (by omega)))
        obtain ⟨Af, nf, cf, hcel, hnf, hown, _⟩ := hr4.cel
        have HTT := Lib.hid (show offL (litI ts) (worthF ts val (allC ts tot bulk)) = lightT ts bulk val by rw [HAR.out]; rfl)
        rw [HTT.out] at hcel hnf hown
        obtain ⟨t0, ht0⟩ : ∃ t0, (lightT ts bulk val).1 = t0 := ⟨_, rfl⟩
        obtain ⟨t2, ht2⟩ : ∃ t2, (lightT ts bulk val).2.2 = t2 := ⟨_, rfl⟩
        rw [ht0, ht2] at hcel
        have HT0 := Lib.hid ht0
        have HT2 := Lib.hid ht2
        rw [ht0] at hlb HV
        rw [ht2] at HQ
        have c0 := cell_of hcel 0
        have c1 := cell_of hcel 1
        have c2 := cell_of hcel 2
        have hneg : IntKind.i64.wrap (-t0) = -t0 := by rw [IntKind.wrap_i64]; omega
        have hqq : decide ((0 : Int) < (t2 : Int)) = q := by rw [← HQ.out, Bool.eq_iff_iff]; simp
        have HNF := Lib.hid hnf
        have HOWN := Lib.hid (hown.more (lo' := w.heap.size) (by omega) (Nat.le_refl _))
        obtain ⟨_, hve⟩ : True ∧ -t0 = v := ⟨trivial, HV.out⟩
        have HVE := Lib.hid hve
        clear hr4 hb4 hcel hnf hown ht0 ht2 hve htb hlb
        go_wp2_with fail
        go_quiet (fail)
        go_wp2
        go_ret3
        exact ⟨Af, nf, cf, by rw [← HVE.out, ← HQ.out]; rfl, by rw [HL0.out]; exact HNF.out, by rw [HL0.out]; exact HOWN.out, below_drewN HB4.out _⟩

end Go.Proofs.Ytmgloknghoeheaa

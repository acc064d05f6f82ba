/-
  The given program's best exchange.
  Conditions: lists of at most 1048576 items and numbers.
-/
import Derived.Test.YtjpejhpilfjheabSuQc
import Derived.Test.YtjpejhpilfjheabSuQd
import Derived.Test.YtjpejhpilfjheabSuPs
import Derived.Test.YtjpejhpilfjheabL1Own
import Derived.Test.YtjpejhpilfjheabHas
import Derived.Test.YtjpejhpilfjheabSegT
namespace Go.Proofs.Ytjpejhpilfjheab
set_option linter.unusedVariables false
set_option linter.unusedSimpArgs false
open Go.RowKit

set_option maxRecDepth 100000 in
set_option maxHeartbeats 4000000 in
theorem spec_yes (A : Option Addr) (g2 n c m : Nat) (W B : Int) (ts : List (Int × Int × Int)) (ks : List Int) (lo hi lo2 hi2 : Nat) (w : World) (hn : ts.length = n) (hlen : n ≤ 1048576) (hm : ks.length = m) (hlen2 : m ≤ 1048576) (hs : Seg w lo hi A (flat3 ts)) (hB : hi ≤ w.heap.size)
    (hs2 : Seg w lo2 hi2 (some ⟨g2, 0, none⟩) ks) (hB2 : hi2 ≤ w.heap.size) (hq : askI ts W B = true) (hr : chI ts W B ks = true) :
    Calls Try.prog 20 #[.slice A n c, .agg #[.int .i64 W, .int .i64 B], .slice (some ⟨g2, 0, none⟩) m m] w (RetX (exOut ts W B ks ks.length).1 (exOut ts W B ks ks.length).2.1 (decide (0 < (exOut ts W B ks ks.length).2.2)) w) := by
  have HN := Lib.hid hn
  have HM := Lib.hid hm
  have HB0 := Lib.hid ((Below.refl w.heap.size w).alloc (Nat.le_refl _) (.cells #[.int .i64 W, .int .i64 B] 41))
  have HSA := Lib.hid (hs.below HB0.out hB)
  have HTA := Lib.hid (hs2.below HB0.out hB2)
  have HC0 := Lib.hid (new_at w (.cells #[.int .i64 W, .int .i64 B] 41) rfl)
  obtain ⟨hg, hW, hBB⟩ := askI_true.1 hq
  have HG := Lib.hid (goodI_ok hg)
  have H1 := Lib.hid (goodI_one hg)
  have HS0 := Lib.hid hs
  have HT0 := Lib.hid hs2
  clear hn hs hm hs2 hg
  go_enter Try.func20, Try.ntmps20
  go_wp2_with fail
  refine (suAsked_any A n c W B ts lo hi _ HN.out hlen HSA.out (by simp; omega) _ hq).mono ?_
  rintro e w1 ⟨rfl, hb1⟩
  have HB1 := Lib.hid (HB0.out.trans (hb1.mono (by simp)))
  have hcc := (hb1.block w.heap.size (by simp)).trans HC0.out
  have HC1 := Lib.hid hcc
  have k0 := cell_of hcc 0
  have k1 := cell_of hcc 1
  have HS1 := Lib.hid (HSA.out.below hb1 (by simp; omega))
  have HT1 := Lib.hid (HTA.out.below hb1 (by simp; omega))
  have hz1 : w.heap.size < w1.heap.size := by have := hb1.size; simp at this; omega
  clear hb1 hcc
  go_wp2_with fail
  refine (suIs_any A (some ⟨g2, 0, none⟩) n c m m W B ts ks _ _ _ _ _ HN.out HG.out H1.out HM.out hlen2 HS1.out (by omega) HT1.out (by omega) _ hr).mono ?_
  rintro e w2 ⟨rfl, hb2⟩
  have HB2 := Lib.hid (HB1.out.trans (hb2.mono (by omega)))
  have HINC := Lib.hid (chI_inc hr)
  have hm10 : m ≤ 10 := by have := incI_len HINC.out; have := HG.out.len; rw [HM.out] at *; omega
  have hn10 : n ≤ 10 := by rw [← HN.out]; exact HG.out.len
  obtain ⟨i0, hi0, hz0', hz1', hz2'⟩ := info_parts int_info
  have HS2 := Lib.hid (HS1.out.below hb2 (by omega))
  have HT2 := Lib.hid (HT1.out.below hb2 (by omega))
  have HC2 := Lib.hid ((hb2.block w.heap.size hz1).trans HC1.out)
  have hw2 : w.heap.size < w2.heap.size := by have := hb2.size; omega
  obtain ⟨sT, hsT0⟩ : ∃ sT, sumF (vI ts) ks = sT := ⟨_, rfl⟩
  have htot := suTotals_any A (some ⟨g2, 0, none⟩) n c m m ts ks lo hi lo2 hi2 w2 HN.out HG.out HM.out HINC.out HS2.out HT2.out
  rw [hsT0] at htot
  have HST := Lib.hid hsT0
  have HTOT := Lib.hid htot
  clear hb2 k0 k1 htot hsT0
  go_wp2_with fail
  refine HTOT.out.mono ?_
  rintro e w3 ⟨rfl, rfl⟩
  go_wp2
  go_loopw [11, 12, 13, 14, 15, 16, 17, 18, 19, 20, 21, 42] (fun a b d _ _ _ _ _ _ _ _ i wr => ∃ k : Nat, k ≤ m ∧ i = .int .i64 (k : Int) ∧ (∃ s1 s2 s3 : Int, exOut ts W B ks k = (s1, s2, s3) ∧ a = .int .i64 (sT + s3) ∧ b = .int .i64 (if s3 = 0 then -1 else s1) ∧ d = .int .i64 s2) ∧ Below w2.heap.size w2 wr) (fun _ _ _ _ _ _ _ _ _ _ _ i _ => m - (intOf i).toNat)
  case atStart => exact ⟨0, Nat.zero_le _, rfl, ⟨0, 0, 0, rfl, by rw [Int.add_zero], rfl, rfl⟩, Below.refl _ _⟩
  case round =>
    obtain ⟨k, hk, rfl, ⟨s1, s2, s3, hst, rfl, rfl, rfl⟩, hbw⟩ := hrel
    have HSX := Lib.hid hst
    have HBW := Lib.hid hbw
    have HBA := Lib.hid (HB2.out.trans (hbw.mono HB2.out.size))
    have hzr := HBA.out.size
    have hzr1 := hbw.size
    have HOKS := Lib.hid (show OkX (s1, s2, s3) by rw [← hst]; exact OkX.out ts W B HG.out HINC.out k (by rw [HM.out]; exact hk))
    clear hst hbw
    obtain ⟨ow, how⟩ : ∃ ow : Int, (if s3 = 0 then -1 else s1) = ow := ⟨_, rfl⟩
    rw [how]
    have HOW := Lib.hid how
    clear how
    by_cases hlt : k < m
    · obtain ⟨gg, oo, x0, hA, _, _, hx0, hcx⟩ := (HT0.out.below HBA.out hB2).at_ (k := k) (by rw [HM.out]; exact hlt)
      obtain ⟨rfl, rfl⟩ : g2 = gg ∧ 0 = oo := by injection hA with hA; injection hA with h1 h2; exact ⟨h1, h2⟩
      rw [Nat.zero_add] at hcx
      obtain ⟨kn, rfl, hkn⟩ := inc_item HINC.out hx0
      have HX0 := Lib.hid hx0
      have hltI : (k : Int) < (m : Int) := by omega
      have hk0I : (0 : Int) ≤ (k : Int) := by omega
      have hkmI : (k : Int) ≤ (m : Int) := by omega
      obtain ⟨k1, hk1⟩ : ∃ k1, k + 1 = k1 := ⟨_, rfl⟩
      have hw1 : IntKind.i64.wrap ((k : Int) + 1) = (k1 : Int) := by rw [IntKind.wrap_i64]; omega
      have hk1I : (k1 : Int) ≤ (m : Int) := by omega
      have hk10 : (0 : Int) ≤ (k1 : Int) := by omega
      obtain ⟨ad, hsA, hsT⟩ := tail_seg (HT0.out.below HBA.out hB2) HM.out (show k1 ≤ m by omega) (Nat.le_refl m)
      clear hA hx0
      go_wp2_with fail
      refine wp_region_held_drew (S := (fun wq => Below wr.heap.size wr wq)) (by kernel_rfl) (Below.refl wr.heap.size wr).drew (fun hH0 => ?_)
      refine wpAnyH_take (i := 0) (v := ?_) (ops_at rfl) (by kernel_rfl) (by kernel_rfl) (by kernel_rfl) (fun _ _ _ h => h) (Or.inl ⟨by rfl, ?ys80⟩) (by assumption) ?ns80
      case ys80 => (intro wS hSw; (try dsimp only at hSw); go_simp; try rfl)
      try simp only [Act.put, List.setIfInBounds_toArray, List.set_cons_zero, List.set_cons_succ]
      refine wpAnyH_take (i := 1) (v := ?_) (ops_at rfl) (by kernel_rfl) (by kernel_rfl) (by kernel_rfl) (fun _ _ _ h => h) (Or.inl ⟨by rfl, ?ys81⟩) (by assumption) ?ns81
      case ys81 => (intro wS hSw; (try dsimp only at hSw); go_simp; try rfl)
      try simp only [Act.put, List.setIfInBounds_toArray, List.set_cons_zero, List.set_cons_succ]
      refine wpAnyH_take (i := 2) (v := ?_) (ops_at rfl) (by kernel_rfl) (by kernel_rfl) (by kernel_rfl) (fun _ _ _ h => h) (Or.inl ⟨by rfl, ?ys82⟩) (by assumption) ?ns82
      case ys82 => (intro wS hSw; (try dsimp only at hSw); go_simp; try rfl)
      try simp only [Act.put, List.setIfInBounds_toArray, List.set_cons_zero, List.set_cons_succ]
      refine wpAnyH_take (i := 4) (v := ?_) (ops_at rfl) (by kernel_rfl) (by kernel_rfl) (by kernel_rfl) (fun _ _ _ h => h) (Or.inl ⟨by rfl, ?ys84⟩) (by assumption) ?ns84
      case ys84 => (intro wS hSw; (try dsimp only at hSw); go_simp; try rfl)
      try simp only [Act.put, List.setIfInBounds_toArray, List.set_cons_zero, List.set_cons_succ]
      refine wpAnyH_take (i := 5) (v := ?_) (ops_at rfl) (by kernel_rfl) (by kernel_rfl) (by kernel_rfl) (fun _ _ _ h => h) (Or.inl ⟨by rfl, ?ys85⟩) (by assumption) ?ns85
      case ys85 => (intro wS hSw; (try dsimp only at hSw); go_simp; try rfl)
      try simp only [Act.put, List.setIfInBounds_toArray, List.set_cons_zero, List.set_cons_succ]
      refine wpAnyH_take (i := 6) (v := ?_) (ops_at rfl) (by kernel_rfl) (by kernel_rfl) (by kernel_rfl) (fun _ _ _ h => h) (Or.inl ⟨by rfl, ?ys86⟩) (by assumption) ?ns86
      case ys86 => (intro wS hSw; (try dsimp only at hSw); go_simp; try rfl)
      try simp only [Act.put, List.setIfInBounds_toArray, List.set_cons_zero, List.set_cons_succ]
      refine wpAnyH_take (i := 7) (v := ?_) (ops_at rfl) (by kernel_rfl) (by kernel_rfl) (by kernel_rfl) (fun _ _ _ h => h) (Or.inl ⟨by rfl, ?ys87⟩) (by assumption) ?ns87
      case ys87 => (intro wS hSw; (try dsimp only at hSw); go_simp; try rfl)
      try simp only [Act.put, List.setIfInBounds_toArray, List.set_cons_zero, List.set_cons_succ]
      obtain ⟨V, hV⟩ : ∃ V, wr.drew = V := ⟨_, rfl⟩
      rw [hV] at hH0 ⊢
      have HBV := Lib.hid hH0
      clear hV hH0
      refine wpAnyH_ready (rs := [3]) (by kernel_rfl) (by simp) ?_
      refine AllReadyH.cons (ops_at rfl) (fun K hK => ?_) AllReadyH.nil
      go_simp
      refine (l1Own_any (some ⟨g2, 0, none⟩) k m (ks.take k) lo2 hi2 V (by rw [List.length_take, HM.out]; omega) (by omega) ((HT0.out.below (HBA.out.trans (HBV.out.mono HBA.out.size)) hB2).takeI k) (by have := HBV.out.size; omega)).mono ?_
      rintro e V2 ⟨A4, c4, rfl, hown4, hb4⟩
      have HB4 := Lib.hid (HBV.out.trans (hb4.mono HBV.out.size))
      have HOW4 := Lib.hid (own_mono hown4 HBV.out.size)
      clear hown4 hb4
      dsimp only
      refine hK.out _ _ HB4.out (fun hHx => ?_)
      clear hK K hHx
      have HTL := Lib.hid (hsT.below HB4.out (by omega))
      refine wpAnyH_ready (rs := [8]) (by kernel_rfl) (by simp) ?_
      refine AllReadyH.cons (ops_at rfl) (fun K hK => ?_) AllReadyH.nil
      refine step_append_seg _ rfl _ _ 22 rfl wr.heap.size 3 i0 Try.underlying22 hi0 hz0' hz1' hz2' _ k _ rfl HOW4.out _ (m - k1) _ (ks.drop k1) _ _ rfl (by rw [List.length_drop, HM.out]) HTL.out (by omega) HB4.out.size ?_
      intro v3 w3 hown3 hgr3
      have HLT4 := Lib.hid HOW4.out.lt
      have HB3 := Lib.hid (HB4.out.grown hgr3 HB4.out.size (fun g' hg' => (HLT4.out g' hg').1))
      obtain ⟨A3, c3, rfl⟩ := ownsRow_form hown3
      obtain ⟨mr, hmr⟩ : ∃ mr, k + (m - k1) = mr := ⟨_, rfl⟩
      rw [hmr] at hown3 ⊢
      have HRL := Lib.hid (show (restX ks k).length = mr by rw [restX_len (by rw [HM.out]; exact hlt), HM.out]; omega)
      have HOW3 := Lib.hid (show w3.ownsRow wr.heap.size 3 1 (.slice A3 mr c3) mr ((restX ks k).map (Value.int .i64)) by rw [restX, hk1, List.map_append]; exact hown3)
      clear hown3 hgr3
      refine hK.out _ _ HB3.out (fun hHx => ?_)
      clear hK K
      refine wpAnyH_take (i := 9) (v := ?_) (ops_at rfl) (by kernel_rfl) (by kernel_rfl) (by kernel_rfl) (fun _ _ _ h => h) (Or.inl ⟨by rfl, ?ys99⟩) (by assumption) ?ns99
      case ys99 => (intro wS hSw; (try dsimp only at hSw); go_simp; try rfl)
      try simp only [Act.put, List.setIfInBounds_toArray, List.set_cons_zero, List.set_cons_succ]
      refine wpAnyH_done (by kernel_rfl) ?_ _
      have HRS := Lib.hid (ownsRow_own (ys := restX ks k) (by rw [HRL.out]; exact HOW3.out)).2.seg
      obtain ⟨wz, rfl⟩ : ∃ wz, wz = w3 := ⟨_, rfl⟩
      have HBZ := HB3
      clear HB3 HB4 HOW4 HLT4 HTL HBV hHx
      have HBZA := Lib.hid (HBA.out.trans (HBZ.out.mono HBA.out.size))
      have hzz := HBZ.out.size
      obtain ⟨wo, rfl⟩ : ∃ wo, wo = wr := ⟨_, rfl⟩
      clear hsA hsT hcx
      go_wp2
      go_loopw [11, 12, 13, 17, 18, 19, 20, 21, 58] (fun a b d _ _ _ _ _ i wr => ∃ j : Nat, j ≤ n ∧ i = .int .i64 (j : Int) ∧ (∃ t1 t2 t3 : Int, exIn ts W B ks k (kn : Int) (s1, s2, s3) j = (t1, t2, t3) ∧ a = .int .i64 (sT + t3) ∧ b = .int .i64 (if t3 = 0 then -1 else t1) ∧ d = .int .i64 t2) ∧ Below wz.heap.size wz wr) (fun _ _ _ _ _ _ _ _ i _ => n - (intOf i).toNat)
      case atStart => exact ⟨0, Nat.zero_le _, rfl, ⟨s1, s2, s3, rfl, rfl, by rw [HOW.out], rfl⟩, Below.refl _ _⟩
      case round =>
        obtain ⟨j, hj, rfl, ⟨t1, t2, t3, hti, rfl, rfl, rfl⟩, hbw⟩ := hrel
        have HTI := Lib.hid hti
        have HBY := Lib.hid hbw
        have HBYA := Lib.hid (HBZA.out.trans (hbw.mono HBZA.out.size))
        have hzy := hbw.size
        have HOKX := Lib.hid (show OkX (t1, t2, t3) by rw [← hti]; exact HOKS.out.inn HG.out (by omega) j)
        clear hti hbw
        obtain ⟨ov, hov⟩ : ∃ ov : Int, (if t3 = 0 then -1 else t1) = ov := ⟨_, rfl⟩
        rw [hov]
        have HOV := Lib.hid hov
        clear hov
        by_cases hjn : j < n
        · have hjI : (j : Int) < (n : Int) := by omega
          obtain ⟨xj, yj, zj, hxj⟩ : ∃ x y z, ts[j]? = some (x, y, z) := ⟨_, _, _, List.getElem?_eq_getElem (by rw [HN.out]; exact hjn)⟩
          by_cases hin : (j : Int) ∈ ks
          · go_wp2_with fail
            refine (l1Has_any (some ⟨g2, 0, none⟩) m m ks (j : Int) lo2 hi2 _ HM.out hlen2 (HT0.out.below HBYA.out hB2) true (decide_eq_true hin)).mono ?_
            rintro e w3 ⟨rfl, rfl⟩
            have HIN := Lib.hid hin
            clear hin hxj
            go_wp2
            go_roundw
            case rel => exact ⟨j + 1, by omega, by go_num, ⟨t1, t2, t3, by rw [exIn_next, HTI.out]; exact exS_in HIN.out, rfl, by rw [HOV.out], rfl⟩, HBY.out⟩
            case measure => simp [intOf]; omega
          · go_wp2_with fail
            refine (l1Has_any (some ⟨g2, 0, none⟩) m m ks (j : Int) lo2 hi2 _ HM.out hlen2 (HT0.out.below HBYA.out hB2) false (decide_eq_false hin)).mono ?_
            rintro e w3 ⟨rfl, rfl⟩
            have HIN := Lib.hid hin
            have HRS3 := Lib.hid (HRS.out.below HBY.out (Nat.le_refl _))
            have HXJ := Lib.hid hxj
            clear hin hxj
            go_wp2_with fail
            refine (l1Own_any A3 mr c3 (restX ks k) wo.heap.size wz.heap.size wr HRL.out (by omega) HRS3.out hzy).mono ?_
            rintro e w4 ⟨A4, c4, rfl, hown4, hb4⟩
            have HB4 := Lib.hid (HBY.out.trans (hb4.mono hzy))
            have hz4 := hb4.size
            have HOW4 := Lib.hid hown4
            clear hown4 hb4
            go_wp2_with fail
            refine (l1Put_any A4 mr c4 wr.heap.size (restX ks k) (j : Int) w4 HOW4.out (by omega) ((rises_of_inc HINC.out).sublist (restX_sub ks k)) (fun e => HIN.out ((restX_sub ks k).subset e)) (by omega)).mono ?_
            rintro e w5 ⟨A5, c5, rfl, hown5, hb5⟩
            have HB5 := Lib.hid (HB4.out.trans (hb5.mono HB4.out.size))
            have HB5A := Lib.hid (HBZA.out.trans (HB5.out.mono HBZA.out.size))
            have hz5 := hb5.size
            have HNL := Lib.hid (show (nextX ks k (j : Int)).length = mr + 1 by rw [nextX_len (by rw [HM.out]; exact hlt), ← HRL.out, restX_len (by rw [HM.out]; exact hlt)])
            have HSN := Lib.hid (ownsRow_own (ys := nextX ks k (j : Int)) (by rw [HNL.out]; exact hown5)).2.seg
            have HNI := Lib.hid (nextX_inc k HINC.out (show j < ts.length by rw [HN.out]; exact hjn) HIN.out)
            have HS5 := Lib.hid (HS0.out.below HB5A.out hB)
            clear hown5 hb5
            obtain ⟨val, hval⟩ : ∃ val, sumF (vI ts) (nextX ks k (j : Int)) = val := ⟨_, rfl⟩
            have HVAL := Lib.hid (show val = sT + (vI ts (j : Int) - vI ts (kn : Int)) by rw [← hval, nextX_sum _ HX0.out, HST.out]; omega)
            have htot := suTotals_any A A5 n c (mr + 1) c5 ts (nextX ks k (j : Int)) lo hi w4.heap.size w5.heap.size w5 HN.out HG.out HNL.out HNI.out HS5.out HSN.out
            rw [hval] at htot
            have HTOT := Lib.hid htot
            clear hval htot
            go_wp2_with fail
            refine HTOT.out.mono ?_
            rintro e w6 ⟨rfl, rfl⟩
            by_cases h1 : t3 < vI ts (j : Int) - vI ts (kn : Int)
            · have hd1 : decide (sT + t3 < val) = true := decide_eq_true (by have := HVAL.out; omega)
              have HL1 := Lib.hid (show (t1, t2, t3).2.2 < vI ts (j : Int) - vI ts (kn : Int) from h1)
              have HMO := Lib.hid (show ¬ (vI ts (j : Int) - vI ts (kn : Int)) = 0 by have h2 : 0 ≤ t3 := HOKX.out.1.1; omega)
              have hcc := ((((HBW.out.trans (HBZ.out.mono HBW.out.size)).trans (HB5.out.mono (Nat.le_trans HBW.out.size HBZ.out.size))).block w.heap.size hw2)).trans HC2.out
              have k0 := cell_of hcc 0
              have k1 := cell_of hcc 1
              clear h1 hcc
              cases hok : okX ts W B ks k (j : Int)
              · have HFT := Lib.hid ((fit_nextX (ts := ts) (W := W) (B := B) HX0.out (j : Int)).trans hok)
                have HOK := Lib.hid hok
                clear hok
                go_wp2_with fail
                refine (suFits_any A A5 n c (mr + 1) c5 W B ts (nextX ks k (j : Int)) lo hi w4.heap.size w5.heap.size w5 HN.out HG.out HNL.out HNI.out HS5.out (by have := HB5A.out.size; omega) HSN.out (Nat.le_refl _) false HFT.out).mono ?_
                rintro e w7 ⟨rfl, hb7⟩
                have HB7 := Lib.hid (HB5.out.trans (hb7.mono HB5.out.size))
                clear hb7 k0 k1
                go_wp2
                go_roundw
                case rel => exact ⟨j + 1, by omega, by go_num, ⟨t1, t2, t3, by rw [exIn_next, HTI.out]; exact exS_full HOK.out, rfl, by rw [HOV.out], rfl⟩, HB7.out⟩
                case measure => simp [intOf]; omega
              · have HFT := Lib.hid ((fit_nextX (ts := ts) (W := W) (B := B) HX0.out (j : Int)).trans hok)
                have HOK := Lib.hid hok
                clear hok
                go_wp2_with fail
                refine (suFits_any A A5 n c (mr + 1) c5 W B ts (nextX ks k (j : Int)) lo hi w4.heap.size w5.heap.size w5 HN.out HG.out HNL.out HNI.out HS5.out (by have := HB5A.out.size; omega) HSN.out (Nat.le_refl _) true HFT.out).mono ?_
                rintro e w7 ⟨rfl, hb7⟩
                have HB7 := Lib.hid (HB5.out.trans (hb7.mono HB5.out.size))
                clear hb7 k0 k1
                go_wp2
                go_roundw
                case rel => exact ⟨j + 1, by omega, by go_num, ⟨(kn : Int), (j : Int), vI ts (j : Int) - vI ts (kn : Int), by rw [exIn_next, HTI.out]; exact exS_yes HL1.out HOK.out HIN.out, by rw [HVAL.out], by rw [if_neg HMO.out], rfl⟩, HB7.out⟩
                case measure => simp [intOf]; omega
            · have hd1 : decide (sT + t3 < val) = false := decide_eq_false (by have := HVAL.out; omega)
              have HL1 := Lib.hid (show ¬ (t1, t2, t3).2.2 < vI ts (j : Int) - vI ts (kn : Int) from h1)
              clear h1
              go_wp2
              go_roundw
              case rel => exact ⟨j + 1, by omega, by go_num, ⟨t1, t2, t3, by rw [exIn_next, HTI.out]; exact exS_low (by have h9 := HL1.out; show ¬ t3 < _; omega), rfl, by rw [HOV.out], rfl⟩, HB5.out⟩
              case measure => simp [intOf]; omega
        · obtain rfl : j = n := by omega
          go_wp2
          go_roundw
          case rel => exact ⟨k + 1, by omega, by go_num, ⟨t1, t2, t3, by rw [exOut_next HX0.out, HSX.out, HN.out]; exact HTI.out, rfl, by rw [HOV.out], rfl⟩, (HBW.out.trans (HBZ.out.mono HBW.out.size)).trans (HBY.out.mono (Nat.le_trans HBW.out.size HBZ.out.size))⟩
          case measure => simp [intOf]; omega
    · obtain rfl : k = m := by omega
      by_cases h3 : s3 = 0
      · obtain ⟨rfl, rfl⟩ : s1 = 0 ∧ s2 = 0 := by have h := HOKS.out.2.2 h3; injection h with h1 h2; injection h2 with h2 _; exact ⟨h1, h2⟩
        obtain rfl : ow = -1 := by rw [← HOW.out, if_pos h3]
        have HRES := Lib.hid (show exOut ts W B ks ks.length = (0, 0, 0) by rw [HM.out, HSX.out, h3])
        clear h3
        go_wp2
        go_ret3
        exact ⟨by rw [HRES.out]; rfl, HBA.out⟩
      · obtain rfl : ow = s1 := by rw [← HOW.out, if_neg h3]
        have hge : decide (ow < 0) = false := decide_eq_false (by have h2 : 0 ≤ ow := HOKS.out.2.1; omega)
        have HRES := Lib.hid (show exOut ts W B ks ks.length = (ow, s2, s3) by rw [HM.out, HSX.out])
        have HPS := Lib.hid (show decide (0 < s3) = true from decide_eq_true (by have h2 : 0 ≤ s3 := HOKS.out.1.1; omega))
        clear h3
        go_wp2
        go_ret3
        exact ⟨by rw [HRES.out, show (ow, s2, s3).2.2 = s3 from rfl, HPS.out]; rfl, HBA.out⟩

set_option maxRecDepth 100000 in
set_option maxHeartbeats 1000000 in
theorem spec_bad (A : Option Addr) (g2 n c m : Nat) (W B : Int) (ts : List (Int × Int × Int)) (ks : List Int) (lo hi lo2 hi2 : Nat) (w : World) (hn : ts.length = n) (hlen : n ≤ 1048576) (hm : ks.length = m) (hlen2 : m ≤ 1048576) (hs : Seg w lo hi A (flat3 ts)) (hB : hi ≤ w.heap.size)
    (hs2 : Seg w lo2 hi2 (some ⟨g2, 0, none⟩) ks) (hB2 : hi2 ≤ w.heap.size) (hq : askI ts W B = false) :
    Calls Try.prog 20 #[.slice A n c, .agg #[.int .i64 W, .int .i64 B], .slice (some ⟨g2, 0, none⟩) m m] w (RetX 0 0 false w) := by
  have HN := Lib.hid hn
  have HM := Lib.hid hm
  have HB0 := Lib.hid ((Below.refl w.heap.size w).alloc (Nat.le_refl _) (.cells #[.int .i64 W, .int .i64 B] 41))
  have HSA := Lib.hid (hs.below HB0.out hB)
  have HTA := Lib.hid (hs2.below HB0.out hB2)
  have HC0 := Lib.hid (new_at w (.cells #[.int .i64 W, .int .i64 B] 41) rfl)
  clear hn hs hm hs2
  go_enter Try.func20, Try.ntmps20
  go_wp2_with fail
  refine (suAsked_any A n c W B ts lo hi _ HN.out hlen HSA.out (by simp; omega) _ hq).mono ?_
  rintro e w1 ⟨rfl, hb1⟩
  have HB1 := Lib.hid (HB0.out.trans (hb1.mono (by simp)))
  clear hb1
  go_wp2
  go_ret3
  exact ⟨rfl, HB1.out⟩

set_option maxRecDepth 100000 in
set_option maxHeartbeats 1000000 in
theorem spec_none (A : Option Addr) (g2 n c m : Nat) (W B : Int) (ts : List (Int × Int × Int)) (ks : List Int) (lo hi lo2 hi2 : Nat) (w : World) (hn : ts.length = n) (hlen : n ≤ 1048576) (hm : ks.length = m) (hlen2 : m ≤ 1048576) (hs : Seg w lo hi A (flat3 ts)) (hB : hi ≤ w.heap.size)
    (hs2 : Seg w lo2 hi2 (some ⟨g2, 0, none⟩) ks) (hB2 : hi2 ≤ w.heap.size) (hq : askI ts W B = true) (hr : chI ts W B ks = false) :
    Calls Try.prog 20 #[.slice A n c, .agg #[.int .i64 W, .int .i64 B], .slice (some ⟨g2, 0, none⟩) m m] w (RetX 0 0 false w) := by
  have HN := Lib.hid hn
  have HM := Lib.hid hm
  have HB0 := Lib.hid ((Below.refl w.heap.size w).alloc (Nat.le_refl _) (.cells #[.int .i64 W, .int .i64 B] 41))
  have HSA := Lib.hid (hs.below HB0.out hB)
  have HTA := Lib.hid (hs2.below HB0.out hB2)
  have HC0 := Lib.hid (new_at w (.cells #[.int .i64 W, .int .i64 B] 41) rfl)
  obtain ⟨hg, hW, hBB⟩ := askI_true.1 hq
  have HG := Lib.hid (goodI_ok hg)
  have H1 := Lib.hid (goodI_one hg)
  have HS0 := Lib.hid hs
  have HT0 := Lib.hid hs2
  clear hn hs hm hs2 hg
  go_enter Try.func20, Try.ntmps20
  go_wp2_with fail
  refine (suAsked_any A n c W B ts lo hi _ HN.out hlen HSA.out (by simp; omega) _ hq).mono ?_
  rintro e w1 ⟨rfl, hb1⟩
  have HB1 := Lib.hid (HB0.out.trans (hb1.mono (by simp)))
  have hcc := (hb1.block w.heap.size (by simp)).trans HC0.out
  have HC1 := Lib.hid hcc
  have k0 := cell_of hcc 0
  have k1 := cell_of hcc 1
  have HS1 := Lib.hid (HSA.out.below hb1 (by simp; omega))
  have HT1 := Lib.hid (HTA.out.below hb1 (by simp; omega))
  have hz1 : w.heap.size < w1.heap.size := by have := hb1.size; simp at this; omega
  clear hb1 hcc
  go_wp2_with fail
  refine (suIs_any A (some ⟨g2, 0, none⟩) n c m m W B ts ks _ _ _ _ _ HN.out HG.out H1.out HM.out hlen2 HS1.out (by omega) HT1.out (by omega) _ hr).mono ?_
  rintro e w2 ⟨rfl, hb2⟩
  have HB2 := Lib.hid (HB1.out.trans (hb2.mono (by omega)))
  clear hb2 k0 k1
  go_wp2
  go_ret3
  exact ⟨rfl, HB2.out⟩

theorem spec_BestExchange (A : Option Addr) (g2 n c m : Nat) (W B : Int) (ts : List (Int × Int × Int)) (ks : List Int) (lo hi lo2 hi2 : Nat) (w : World) (hn : ts.length = n) (hlen : n ≤ 1048576) (hm : ks.length = m) (hlen2 : m ≤ 1048576) (hs : Seg w lo hi A (flat3 ts)) (hB : hi ≤ w.heap.size)
    (hs2 : Seg w lo2 hi2 (some ⟨g2, 0, none⟩) ks) (hB2 : hi2 ≤ w.heap.size) (q : Bool) (hq : exQ ts W B ks = q) (u v : Int) (hu : exU ts W B ks = u) (hv : exW ts W B ks = v) :
    Calls Try.prog 20 #[.slice A n c, .agg #[.int .i64 W, .int .i64 B], .slice (some ⟨g2, 0, none⟩) m m] w (RetX u v q w) := by
  cases ha : askI ts W B
  · obtain ⟨h1, h2, h3⟩ := ex_no (ks := ks) (show exA ts W B ks = false by rw [exA, ha]; rfl)
    rw [h1] at hq
    rw [h2] at hu
    rw [h3] at hv
    subst hq hu hv
    exact spec_bad A g2 n c m W B ts ks lo hi lo2 hi2 w hn hlen hm hlen2 hs hB hs2 hB2 ha
  · cases hr : chI ts W B ks
    · obtain ⟨h1, h2, h3⟩ := ex_no (show exA ts W B ks = false by rw [exA, ha, hr]; rfl)
      rw [h1] at hq
      rw [h2] at hu
      rw [h3] at hv
      subst hq hu hv
      exact spec_none A g2 n c m W B ts ks lo hi lo2 hi2 w hn hlen hm hlen2 hs hB hs2 hB2 ha hr
    · obtain ⟨h1, h2, h3⟩ := ex_yes (show exA ts W B ks = true by rw [exA, ha, hr]; rfl)
      rw [h1] at hq
      rw [h2] at hu
      rw [h3] at hv
      subst hq hu hv
      exact spec_yes A g2 n c m W B ts ks lo hi lo2 hi2 w hn hlen hm hlen2 hs hB hs2 hB2 ha hr
end Go.Proofs.Ytjpejhpilfjheab

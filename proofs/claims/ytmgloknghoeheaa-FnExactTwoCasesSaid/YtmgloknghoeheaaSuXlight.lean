/-
  The written program's walk through all choices in their order, with the visitor 'light'.
  Conditions: at most ten items, and room of at most 4000.
-/
import Derived.Test.YtmgloknghoeheaaSuV
import Derived.Deep.RegionHeld3
import Derived.Laws.EntriesVeiled
namespace Go.Proofs.Ytmgloknghoeheaa
set_option linter.unusedVariables false
open Go.RowKit

/-- What the visitor does. -/
def Vis_light (q0 q1 q2 : Nat) (A : Option Addr) (n c : Nat) (ts : List (Int × Int × Int)) (W B : Int) (lo hi P0 b0 : Nat) (R : Option Nat → List (List Int) → World → Prop) : Prop :=
  ∀ (ks : List Int) (L : List (List Int)) (v : Value) (w : World), incI ts.length ks = true → fitI ts W B ks = true → L.length < 4096 → b0 ≤ w.heap.size → P0 + 4 ≤ w.heap.size → Seg w lo hi A (flat3 ts) → w.ownsRow (P0 + 4) 3 1 v ks.length (ks.map (Value.int .i64)) → R v.ownBlock L w →
    Calls Try.prog 68 #[v, .pointer (some ⟨q0, 0, none⟩), .pointer (some ⟨q1, 0, none⟩), .pointer (some ⟨q2, 0, none⟩)] w (RetVis P0 b0 R v.ownBlock (L ++ [ks]) w)

set_option maxRecDepth 100000 in
set_option maxHeartbeats 4000000 in
theorem search_light (q0 q1 q2 : Nat) (A : Option Addr) (n c : Nat) (ts : List (Int × Int × Int)) (W B : Int) (lo hi P0 b0 : Nat) (R : Option Nat → List (List Int) → World → Prop) (hn : ts.length = n) (hg : OkI ts) (hib : hi ≤ b0) (hbP : b0 ≤ P0) (hW : W ≤ 4000) (hB : B ≤ 4000) (hR : Keeps P0 R)
    (hV : Vis_light q0 q1 q2 A n c ts W B lo hi P0 b0 R) (r : Nat) :
    ∀ (k0 : Nat) (kk : Int) (Wr Br : Int) (ks : List Int) (L : List (List Int)) (v : Value) (w : World), kk = (k0 : Int) → k0 + r = n → BegI ts k0 ks → fitI ts W B ks = true → Wr = W - sumF (wI ts) ks → Br = B - sumF (bI ts) ks → L.length + (kidsC ts W B r ks).length + 1 ≤ 4096 → b0 ≤ w.heap.size → Seg w lo hi A (flat3 ts) →
      StatAt w P0 A n c W B (.func (.func 68) #[] #[.pointer (some ⟨q0, 0, none⟩), .pointer (some ⟨q1, 0, none⟩), .pointer (some ⟨q2, 0, none⟩)]) (.func (.func 85) #[] #[.pointer (some ⟨P0 + 1, 0, none⟩), .pointer (some ⟨P0 + 2, 0, none⟩), .pointer (some ⟨P0, 0, none⟩), .pointer (some ⟨P0 + 3, 0, none⟩)]) → ChAt w P0 v ks → R v.ownBlock L w →
      Calls Try.prog 85 #[.int .i64 kk, .agg #[.int .i64 Wr, .int .i64 Br], .pointer (some ⟨P0 + 1, 0, none⟩), .pointer (some ⟨P0 + 2, 0, none⟩), .pointer (some ⟨P0, 0, none⟩), .pointer (some ⟨P0 + 3, 0, none⟩)] w (RetS P0 b0 R v.ownBlock ks (L ++ ks :: kidsC ts W B r ks) w) := by
  induction r using Nat.strongRecOn with
  | _ r ih =>
    intro k0 kk Wr Br ks L v w hkk hk hbeg hfit hWr hBr hL hb0 hs hst hch hr
    subst hkk
    have hn10 : n ≤ 10 := by rw [← hn]; exact hg.len
    have hks10 : ks.length ≤ 10 := by have := hbeg.len; have := hg.len; omega
    have hwb := sumF_bd (wI_f hg) ks
    have hbb := sumF_bd (bI_f hg) ks
    have hft := fitI_true.1 hfit
    have hW1 : 0 ≤ Wr ∧ Wr ≤ 4000 := by omega
    have hB1 : 0 ≤ Br ∧ Br ≤ 4000 := by omega
    have IH := Lib.hid ih
    have HN := Lib.hid hn
    have HG := Lib.hid hg
    have HK := Lib.hid hk
    have HKR := Lib.hid (show n - k0 = r by omega)
    have HBEG := Lib.hid hbeg
    have HWR := Lib.hid hWr
    have HBR := Lib.hid hBr
    have HV := Lib.hid hV
    have HKP := Lib.hid hR
    have HTL := Lib.hid (show ((L ++ ks :: kidsC ts W B r ks).length ≤ 4096) by rw [List.length_append, List.length_cons]; omega)
    have HL0 := Lib.hid (show L.length < 4096 by omega)
    -- the room's cell
    have hbx := (Below.refl w.heap.size w).alloc (Nat.le_refl _) (.cells #[.int .i64 Wr, .int .i64 Br] 34)
    obtain ⟨w1, hw1⟩ : ∃ w1, w.alloc (.cells #[.int .i64 Wr, .int .i64 Br] 34) = w1 := ⟨_, rfl⟩
    have hsz1 : w1.heap.size = w.heap.size + 1 := by rw [← hw1]; simp
    have HRM1 := Lib.hid (show w1.heap[w.heap.size]? = some (.cells #[.int .i64 Wr, .int .i64 Br] 34 (0, 0)) by rw [← hw1]; exact new_at w _ rfl)
    rw [hw1] at hbx
    have HW1 := Lib.hid hw1
    have HBX := Lib.hid hbx
    have HP4 := Lib.hid (show P0 + 4 ≤ w.heap.size from heap_lt hst.2.2)
    have HST1 := Lib.hid (hst.frame (ob := none) (Frame.of_below hbx) (fun g e => by cases e))
    have HCH1 := Lib.hid (hch.below hbx)
    have HR1 := Lib.hid (hR.below _ _ _ _ hr hbx)
    have HS1 := Lib.hid (hs.below hbx (by omega))
    have HS := Lib.hid hs
    have HFIT0 := Lib.hid hfit
    have hv0 : w.cell? ⟨P0 + 1, 0, none⟩ = some (.func (.func 68) #[] #[.pointer (some ⟨q0, 0, none⟩), .pointer (some ⟨q1, 0, none⟩), .pointer (some ⟨q2, 0, none⟩)]) := cell_of hst.2.1 0
    have hc0 : w.cell? ⟨P0 + 2, 0, none⟩ = some v := cell_of hch.1 0
    have hlt1 : P0 + 1 < w.heap.size := heap_lt hst.2.1
    have hlt2 : P0 + 2 < w.heap.size := heap_lt hch.1
    have HOV0 := Lib.hid (show ∀ g, v.ownBlock = some g → P0 + 4 ≤ g ∧ g < w.heap.size from fun g e => hch.2.lt g e)
    obtain ⟨m, hm⟩ : ∃ m, ks.length = m := ⟨_, rfl⟩
    have HM := Lib.hid hm
    have hm10 : m ≤ 10 := by rw [← hm]; exact hks10
    clear ih hn hg hk hbeg hWr hBr hV hR hw1 hbx hst hch hr hs hwb hbb hft hfit hks10 hm hL
    go_enter Try.func85, Try.ntmps85
    go_wp2_with fail
    rw [HW1.out]
    refine (HV.out ks L v w1 HBEG.out.inc HFIT0.out HL0.out (by omega) (by have := HP4.out; omega) HS1.out HCH1.out.2 HR1.out).mono ?_
    rintro e w2 ⟨rfl, hr2, hk2, hb2⟩
    have hz2 := hb2.size
    have HK2 := Lib.hid hk2
    have HB2 := Lib.hid (show Below b0 w w2 from (HBX.out.mono hb0).trans hb2)
    have HR2 := Lib.hid hr2
    have HFR2 := Lib.hid (show Frame P0 none w1 w2 from fun k h0 h1 _ _ => hk2 k h0 h1)
    have HST2 := Lib.hid (HST1.out.frame HFR2.out (fun g e => by cases e))
    have HCH2 := Lib.hid (show ChAt w2 P0 v ks from ⟨(hk2 _ (by omega) (heap_lt HCH1.out.1)).trans HCH1.out.1, row_kept HCH1.out.2 hk2⟩)
    have HRM2 := Lib.hid ((hk2 _ (by have := HP4.out; omega) (heap_lt HRM1.out)).trans HRM1.out)
    have HFM2 := Lib.hid (show Frame P0 v.ownBlock w w2 from (Frame.of_below HBX.out).trans (by omega) (Loc.refl _ _) (fun k h0 h1 _ _ => hk2 k h0 h1))
    have HX2 := Lib.hid (show (L ++ [ks]) ++ kidsC ts W B (n - k0) ks = L ++ ks :: kidsC ts W B r ks by rw [HKR.out, List.append_assoc]; rfl)
    have HOV := Lib.hid (show v.ownBlock ≠ some w.heap.size from fun e => by have := (HOV0.out _ e).2; omega)
    clear hr2 hk2 hb2 hv0 hc0 hlt1 hlt2
    have hk0n : k0 ≤ n := by have := HK.out; omega
    have hl0 : w2.cell? ⟨P0, 0, none⟩ = some (.slice A n c) := cell_of HST2.out.1 0
    go_wp2
    clear hl0
    go_loopw [8] (fun i wr => ∃ j : Nat, k0 ≤ j ∧ j ≤ n ∧ i = .int .i64 j ∧ ∃ vv X, X ++ kidsC ts W B (n - j) ks = L ++ ks :: kidsC ts W B r ks ∧ ChAt wr P0 vv ks ∧ R vv.ownBlock X wr ∧ StatAt wr P0 A n c W B (.func (.func 68) #[] #[.pointer (some ⟨q0, 0, none⟩), .pointer (some ⟨q1, 0, none⟩), .pointer (some ⟨q2, 0, none⟩)]) (.func (.func 85) #[] #[.pointer (some ⟨P0 + 1, 0, none⟩), .pointer (some ⟨P0 + 2, 0, none⟩), .pointer (some ⟨P0, 0, none⟩), .pointer (some ⟨P0 + 3, 0, none⟩)]) ∧ wr.heap[w.heap.size]? = some (.cells #[.int .i64 Wr, .int .i64 Br] 34 (0, 0)) ∧ Loc w v.ownBlock vv.ownBlock ∧ Frame P0 v.ownBlock w wr ∧ vv.ownBlock ≠ some w.heap.size ∧ Below b0 w wr) (fun i _ => n - (intOf i).toNat)
    case atStart => exact ⟨k0, Nat.le_refl _, hk0n, rfl, v, _, HX2.out, HCH2.out, HR2.out, HST2.out, HRM2.out, Loc.refl _ _, HFM2.out, HOV.out, HB2.out⟩
    case round =>
      obtain ⟨j, hkj, hj, rfl, v2, X, hX, hch, hr, hst, hrm, hlo, hfm, hov, hb⟩ := hrel
      have hsz := hb.size
      have HX := Lib.hid hX
      have HCH := Lib.hid hch
      have HRR := Lib.hid hr
      have HSTA := Lib.hid hst
      have HRM := Lib.hid hrm
      have HLO := Lib.hid hlo
      have HFM := Lib.hid hfm
      have HOV2 := Lib.hid hov
      have HBB := Lib.hid hb
      have HGE := Lib.hid (show b0 ≤ wr.heap.size by omega)
      have HRLT := Lib.hid (show w.heap.size < wr.heap.size from heap_lt hrm)
      have hl0 : wr.cell? ⟨P0, 0, none⟩ = some (.slice A n c) := cell_of hst.1 0
      by_cases hlt : j < n
      · obtain ⟨b, off, x, y, z, rfl, _, hbh, hx, hd0, hd1, hd2⟩ := (HS.out.below hb hib).tri (k := j) (by rw [HN.out]; exact hlt)
        obtain ⟨hxb, hyb, _⟩ := item_bd HG.out hx
        obtain ⟨ew, eb, _⟩ := itm_w hx
        have HWX := Lib.hid (show Wr - x = W - sumF (wI ts) (ks ++ [(j : Int)]) by rw [sumF_snoc, ew, HWR.out]; omega)
        have HBX2 := Lib.hid (show Br - y = B - sumF (bI ts) (ks ++ [(j : Int)]) by rw [sumF_snoc, eb, HBR.out]; omega)
        have HBX := HBX2
        have hx1 := hxb.1
        have hx2 : x ≤ 4000 := by omega
        have hy1 := hyb.1
        have hy2 : y ≤ 4000 := by omega
        have HFR := Lib.hid (show (decide (x ≤ Wr) && decide (y ≤ Br)) = fitI ts W B (ks ++ [(j : Int)]) by rw [HWR.out, HBR.out]; exact fit_room hx)
        have HSW := Lib.hid (show wr.cell? ⟨w.heap.size, 0, none⟩ = some (.int .i64 Wr) ∧ wr.cell? ⟨w.heap.size, 1, none⟩ = some (.int .i64 Br) ∧ wr.cell? ⟨P0, 0, none⟩ = some (.slice (some ⟨b, off, none⟩) n c) ∧ wr.cell? ⟨P0 + 3, 0, none⟩ = some (.func (.func 85) #[] #[.pointer (some ⟨P0 + 1, 0, none⟩), .pointer (some ⟨P0 + 2, 0, none⟩), .pointer (some ⟨P0, 0, none⟩), .pointer (some ⟨P0 + 3, 0, none⟩)]) ∧ wr.cell? ⟨b, off + j * 3, none⟩ = some (.int .i64 x) ∧ wr.cell? ⟨b, off + j * 3 + 1, none⟩ = some (.int .i64 y) ∧ wr.cell? ⟨b, off + j * 3 + 2, none⟩ = some (.int .i64 z) from ⟨cell_of hrm 0, cell_of hrm 1, cell_of hst.1 0, cell_of hst.2.2 0, hd0, hd1, hd2⟩)
        have HKEEP := Lib.hid (show ∀ wz : World, Below wr.heap.size wr wz → wz.cell? ⟨w.heap.size, 0, none⟩ = some (.int .i64 Wr) ∧ wz.cell? ⟨w.heap.size, 1, none⟩ = some (.int .i64 Br) ∧ wz.cell? ⟨P0, 0, none⟩ = some (.slice (some ⟨b, off, none⟩) n c) ∧ wz.cell? ⟨P0 + 3, 0, none⟩ = some (.func (.func 85) #[] #[.pointer (some ⟨P0 + 1, 0, none⟩), .pointer (some ⟨P0 + 2, 0, none⟩), .pointer (some ⟨P0, 0, none⟩), .pointer (some ⟨P0 + 3, 0, none⟩)]) ∧ wz.cell? ⟨b, off + j * 3, none⟩ = some (.int .i64 x) ∧ wz.cell? ⟨b, off + j * 3 + 1, none⟩ = some (.int .i64 y) ∧ wz.cell? ⟨b, off + j * 3 + 2, none⟩ = some (.int .i64 z) from fun wz hbz => ⟨(hbz.cell HRLT.out).trans HSW.out.1, (hbz.cell HRLT.out).trans HSW.out.2.1, (hbz.cell (heap_lt hst.1)).trans HSW.out.2.2.1, (hbz.cell (heap_lt hst.2.2)).trans HSW.out.2.2.2.1, (hbz.cell (cell_lt hd0)).trans hd0, (hbz.cell (cell_lt hd1)).trans hd1, (hbz.cell (cell_lt hd2)).trans hd2⟩)
        have HBH := Lib.hid (show b < b0 by omega)
        have HSN := Lib.hid (HBEG.out.snoc (j := j) hkj (by rw [HN.out]; exact hlt))
        clear hX hch hr hst hrm hlo hfm hov hb hx hd0 hd1 hd2 hxb hyb ew eb
        obtain ⟨q, hq⟩ : ∃ q, fitI ts W B (ks ++ [(j : Int)]) = q := ⟨_, rfl⟩
        rw [hq] at HFR
        have HFIT := Lib.hid hq
        clear hq
        go_wp2_with fail
        clear hl0
        refine wp_region_held_drew (S := (fun wq => wq.cell? ⟨w.heap.size, 0, none⟩ = some (.int .i64 Wr) ∧ wq.cell? ⟨w.heap.size, 1, none⟩ = some (.int .i64 Br) ∧ wq.cell? ⟨P0, 0, none⟩ = some (.slice (some ⟨b, off, none⟩) n c) ∧ wq.cell? ⟨P0 + 3, 0, none⟩ = some (.func (.func 85) #[] #[.pointer (some ⟨P0 + 1, 0, none⟩), .pointer (some ⟨P0 + 2, 0, none⟩), .pointer (some ⟨P0, 0, none⟩), .pointer (some ⟨P0 + 3, 0, none⟩)]) ∧ wq.cell? ⟨b, off + j * 3, none⟩ = some (.int .i64 x) ∧ wq.cell? ⟨b, off + j * 3 + 1, none⟩ = some (.int .i64 y) ∧ wq.cell? ⟨b, off + j * 3 + 2, none⟩ = some (.int .i64 z))) (by kernel_rfl) HSW.out (fun hH0 => ?_)
        refine wpAnyH_take (i := 0) (v := ?_) (ops_at rfl) (by kernel_rfl) (by kernel_rfl) (by kernel_rfl) (fun _ _ _ h => h) (Or.inl ⟨by rfl, ?ya0⟩) (by assumption) ?na0
        case ya0 => (intro wS hSw; (try dsimp only at hSw); go_simp; try rfl)
        try simp only [Act.put, List.setIfInBounds_toArray, List.set_cons_zero, List.set_cons_succ]
        refine wpAnyH_take (i := 1) (v := ?_) (ops_at rfl) (by kernel_rfl) (by kernel_rfl) (by kernel_rfl) (fun _ _ _ h => h) (Or.inl ⟨by rfl, ?ya1⟩) (by assumption) ?na1
        case ya1 => (intro wS hSw; (try dsimp only at hSw); go_simp; try rfl)
        try simp only [Act.put, List.setIfInBounds_toArray, List.set_cons_zero, List.set_cons_succ]
        refine wpAnyH_take (i := 2) (v := ?_) (ops_at rfl) (by kernel_rfl) (by kernel_rfl) (by kernel_rfl) (fun _ _ _ h => h) (Or.inl ⟨by rfl, ?ya2⟩) (by assumption) ?na2
        case ya2 => (intro wS hSw; (try dsimp only at hSw); go_simp; try rfl)
        try simp only [Act.put, List.setIfInBounds_toArray, List.set_cons_zero, List.set_cons_succ]
        refine wpAnyH_take (i := 3) (v := ?_) (ops_at rfl) (by kernel_rfl) (by kernel_rfl) (by kernel_rfl) (fun _ _ _ h => h) (Or.inl ⟨by rfl, ?ya3⟩) (by assumption) ?na3
        case ya3 => (intro wS hSw; (try dsimp only at hSw); go_simp; try rfl)
        try simp only [Act.put, List.setIfInBounds_toArray, List.set_cons_zero, List.set_cons_succ]
        refine wpAnyH_take (i := 4) (v := ?_) (ops_at rfl) (by kernel_rfl) (by kernel_rfl) (by kernel_rfl) (fun _ _ _ h => h) (Or.inl ⟨by rfl, ?ya4⟩) (by assumption) ?na4
        case ya4 => (intro wS hSw; (try dsimp only at hSw); go_simp; try rfl)
        try simp only [Act.put, List.setIfInBounds_toArray, List.set_cons_zero, List.set_cons_succ]
        refine wpAnyH_take (i := 5) (v := ?_) (ops_at rfl) (by kernel_rfl) (by kernel_rfl) (by kernel_rfl) (fun _ _ _ h => h) (Or.inl ⟨by rfl, ?ya5⟩) (by assumption) ?na5
        case ya5 => (intro wS hSw; (try dsimp only at hSw); go_simp; try rfl)
        try simp only [Act.put, List.setIfInBounds_toArray, List.set_cons_zero, List.set_cons_succ]
        refine wpAnyH_ready (rs := [6]) (by kernel_rfl) (by simp) ?_
        refine AllReadyH.cons (ops_at rfl) (fun K hK => ?_) AllReadyH.nil
        go_simp
        refine (holds_any Wr Br x y z _ _ HFR.out).mono ?_
        rintro e w2 ⟨rfl, hb2'⟩
        have hb2 : Below wr.heap.size wr w2 := ⟨hb2'.os, hb2'.tape, hb2'.output, hb2'.size, hb2'.block⟩
        clear hb2'
        have hz2 := hb2.size
        have HS2 := Lib.hid (show w2.cell? ⟨w.heap.size, 0, none⟩ = some (.int .i64 Wr) ∧ w2.cell? ⟨w.heap.size, 1, none⟩ = some (.int .i64 Br) ∧ w2.cell? ⟨P0, 0, none⟩ = some (.slice (some ⟨b, off, none⟩) n c) ∧ w2.cell? ⟨P0 + 3, 0, none⟩ = some (.func (.func 85) #[] #[.pointer (some ⟨P0 + 1, 0, none⟩), .pointer (some ⟨P0 + 2, 0, none⟩), .pointer (some ⟨P0, 0, none⟩), .pointer (some ⟨P0 + 3, 0, none⟩)]) ∧ w2.cell? ⟨b, off + j * 3, none⟩ = some (.int .i64 x) ∧ w2.cell? ⟨b, off + j * 3 + 1, none⟩ = some (.int .i64 y) ∧ w2.cell? ⟨b, off + j * 3 + 2, none⟩ = some (.int .i64 z) from HKEEP.out _ hb2)
        have HCH2 := Lib.hid (HCH.out.below hb2)
        have HST2 := Lib.hid (HSTA.out.frame (ob := none) (Frame.of_below hb2) (fun g e => by cases e))
        have HRR2 := Lib.hid (HKP.out.below _ _ _ _ HRR.out hb2)
        have HFM2 := Lib.hid (HFM.out.trans hsz HLO.out (Frame.of_below (ob := v2.ownBlock) hb2))
        have HBB2 := Lib.hid (HBB.out.trans (hb2.mono HGE.out))
        have HRM2 := Lib.hid ((hb2.block _ HRLT.out).trans HRM.out)
        have HBR2 := Lib.hid hb2
        clear hb2
        refine hK.out _ _ HS2.out (fun hH1 => ?_)
        clear hK K
        refine wpAnyH_done (by kernel_rfl) ?_ _
        cases q
        · have HNX := Lib.hid (show X ++ kidsC ts W B (n - (j + 1)) ks = L ++ ks :: kidsC ts W B r ks by rw [← kidsC_no HN.out hlt HFIT.out]; exact HX.out)
          go_wp2
          go_roundw
          case rel => (first | exact ⟨j + 1, by omega, by omega, by go_num, v2, X, HNX.out, HCH2.out, HRR2.out, HST2.out, HRM2.out, HLO.out, HFM2.out, HOV2.out, HBB2.out⟩ | ((repeat apply Exists.intro); refine ⟨?_, rfl⟩; exact ⟨j + 1, by omega, by omega, by go_num, v2, X, HNX.out, HCH2.out, HRR2.out, HST2.out, HRM2.out, HLO.out, HFM2.out, HOV2.out, HBB2.out⟩))
          case measure => simp [intOf]; omega
        · have HNX := Lib.hid (show (X ++ (ks ++ [(j : Int)]) :: kidsC ts W B (n - (j + 1)) (ks ++ [(j : Int)])) ++ kidsC ts W B (n - (j + 1)) ks = L ++ ks :: kidsC ts W B r ks by rw [← HX.out, kidsC_yes HN.out hlt HFIT.out]; simp)
          have HLE := Lib.hid (show X.length + (kidsC ts W B (n - (j + 1)) (ks ++ [(j : Int)])).length + 1 ≤ 4096 by
            have e := congrArg List.length HNX.out
            have e2 := HTL.out
            simp only [List.length_append, List.length_cons] at e e2
            omega)
          obtain ⟨i0, hi0, hz0, hz1, hz2'⟩ := info_parts int_info
          obtain ⟨A2, d2, rfl⟩ := ownsRow_form HCH2.out.2
          obtain ⟨m', hm'⟩ : ∃ m', ks.length = m' := ⟨_, rfl⟩
          obtain rfl : m = m' := HM.out.symm.trans hm'
          have hcha := HCH2.out.1
          have hchb := HCH2.out.2
          rw [hm'] at hcha hchb HOV2 HLO HRR2
          have hpc := cell_of hcha 0
          have hpf := frozen_of hcha 0
          have HOW := Lib.hid (hchb.alloc (.cells #[.int .i64 (j : Int)] 3))
          have HLT := Lib.hid hchb.lt
          have hPlt := heap_lt hcha
          have HPC1 := Lib.hid ((alloc_old w2 hPlt (.cells #[.int .i64 (j : Int)] 3)).trans hcha)
          have hbase : P0 + 4 ≤ w2.heap.size := by have := HP4.out; have := HRLT.out; have := hz2; omega
          clear hm' hcha hchb
          go_wp2_with (at_builtin; refine wpList_append_ownB _ rfl _ _ 31 rfl (P0 + 4) 3 i0 Try.underlying31 hi0 hz0 hz1 hz2' _ m _ rfl HOW.out w2.heap.size 1 (.int .i64 (j : Int)) rfl (by rw [cell_of (heap_alloc_new w2 _)]; rfl) rfl (by omega) (by simp; omega) ?_; intro v3 w3 hown3 hgr3 hloc3; obtain ⟨A3, c3, rfl⟩ := ownsRow_form hown3; have hp3 : w3.heap[P0 + 2]? = some (.cells #[.slice A2 m d2] 31 (0, 0)) := (hgr3.block (P0 + 2) (by simp; omega) (fun e => by have := (HLT.out _ e.symm).1; omega)).trans HPC1.out; have hpc3 := cell_of hp3 0; have hpf3 := frozen_of hp3 0; have HP3 := Lib.hid hp3; have HO3 := Lib.hid hown3; have HG3 := Lib.hid hgr3; have HL3 := Lib.hid hloc3; clear hp3 hown3 hgr3 hloc3 hpc hpf)
          have hl3 := HL3.out
          simp only [World.size_alloc] at hl3
          have HLOC4 := Lib.hid (show Loc w2 (Value.slice A2 m d2).ownBlock (Value.slice A3 (m + 1) c3).ownBlock from hl3.imp id fun h => ⟨_, h, Nat.le_succ _⟩)
          obtain ⟨v4, hv4⟩ : ∃ v4, Value.slice A3 (m + 1) c3 = v4 := ⟨_, rfl⟩
          have hne3 : (Value.slice A3 (m + 1) c3).ownBlock ≠ some (P0 + 2) := by
            rcases hl3 with h | h
            · rw [h]; exact fun e => by have := (HLT.out _ e).1; omega
            · rw [h]; intro e; injection e with e; omega
          have HLK4 := Lib.hid (show Lk (P0 + 2) (Value.slice A2 m d2).ownBlock w2 (w3.setCell ⟨P0 + 2, 0, none⟩ (.slice A3 (m + 1) c3)) from (((Lk.refl _ _ w2).below ((Below.refl w2.heap.size w2).alloc (Nat.le_refl _) (.cells #[.int .i64 (j : Int)] 3))).grown (fun g e => (HLT.out g e).2) HG3.out).set _)
          have HCH4 := Lib.hid (show ChAt (w3.setCell ⟨P0 + 2, 0, none⟩ (.slice A3 (m + 1) c3)) P0 (.slice A3 (m + 1) c3) (ks ++ [(j : Int)]) from ⟨(set_self HP3.out 0 _).trans rfl, by
            have h := HO3.out.kept (grown_set (World.grownBy.refl w3 (some (P0 + 2))) (p := ⟨P0 + 2, 0, none⟩) rfl (.slice A3 (m + 1) c3)) (.inr hne3)
            rw [List.length_append, HM.out, List.map_append]
            exact h⟩)
          obtain ⟨w4, hw4⟩ : ∃ w4, w3.setCell ⟨P0 + 2, 0, none⟩ (.slice A3 (m + 1) c3) = w4 := ⟨_, rfl⟩
          rw [hw4] at HLK4 HCH4
          rw [hv4] at HCH4 HLOC4
          have HW4E := Lib.hid hw4
          have HV4E := Lib.hid hv4
          have HZ24 := Lib.hid HLK4.out.size
          have HST4 := Lib.hid (HST2.out.frame (Frame.of_lk HLK4.out) (fun g e => (HLT.out g e).1))
          have HRR4 := Lib.hid (HKP.out.row _ _ _ _ _ HRR2.out HLK4.out HLOC4.out)
          have HZ4 := Lib.hid (show w.heap.size ≤ w4.heap.size by have := HZ24.out; have := HRLT.out; have := hz2; omega)
          have HFM4 := Lib.hid (HFM2.out.trans (by have := HRLT.out; have := hz2; omega) HLO.out (Frame.of_lk HLK4.out))
          have HLO4 := Lib.hid (HLO.out.trans HLOC4.out (by have := HRLT.out; have := hz2; omega))
          have HBB4 := Lib.hid (HBB2.out.trans (HLK4.out.toBelow (by have := HGE.out; omega) (by omega) (fun g e => by have := (HLT.out g e).1; omega)))
          have HG4 := Lib.hid (show b0 ≤ w4.heap.size by have := HGE.out; have := HZ24.out; omega)
          have HRM4 := Lib.hid ((HLK4.out.block w.heap.size (heap_lt HRM2.out) (fun hs => by rcases hs with e | e; have := HP4.out; omega; exact HOV2.out e)).trans HRM2.out)
          have HOV4 := Lib.hid (show v4.ownBlock ≠ some w.heap.size from fun e => by
            rcases HLOC4.out with h | ⟨g, h, hg⟩
            · rw [h] at e; exact HOV2.out e
            · rw [h] at e
              injection e with e
              have := HRLT.out
              omega)
          have HKC := Lib.hid (show ∀ wz : World, wz.heap[w.heap.size]? = some (.cells #[.int .i64 Wr, .int .i64 Br] 34 (0, 0)) → StatAt wz P0 (some ⟨b, off, none⟩) n c W B (.func (.func 68) #[] #[.pointer (some ⟨q0, 0, none⟩), .pointer (some ⟨q1, 0, none⟩), .pointer (some ⟨q2, 0, none⟩)]) (.func (.func 85) #[] #[.pointer (some ⟨P0 + 1, 0, none⟩), .pointer (some ⟨P0 + 2, 0, none⟩), .pointer (some ⟨P0, 0, none⟩), .pointer (some ⟨P0 + 3, 0, none⟩)]) → Below b0 wr wz → wz.cell? ⟨w.heap.size, 0, none⟩ = some (.int .i64 Wr) ∧ wz.cell? ⟨w.heap.size, 1, none⟩ = some (.int .i64 Br) ∧ wz.cell? ⟨P0, 0, none⟩ = some (.slice (some ⟨b, off, none⟩) n c) ∧ wz.cell? ⟨P0 + 3, 0, none⟩ = some (.func (.func 85) #[] #[.pointer (some ⟨P0 + 1, 0, none⟩), .pointer (some ⟨P0 + 2, 0, none⟩), .pointer (some ⟨P0, 0, none⟩), .pointer (some ⟨P0 + 3, 0, none⟩)]) ∧ wz.cell? ⟨b, off + j * 3, none⟩ = some (.int .i64 x) ∧ wz.cell? ⟨b, off + j * 3 + 1, none⟩ = some (.int .i64 y) ∧ wz.cell? ⟨b, off + j * 3 + 2, none⟩ = some (.int .i64 z) from fun wz h1 h2 h3 => ⟨cell_of h1 0, cell_of h1 1, cell_of h2.1 0, cell_of h2.2.2 0, (h3.cell HBH.out).trans HSW.out.2.2.2.2.1, (h3.cell HBH.out).trans HSW.out.2.2.2.2.2.1, (h3.cell HBH.out).trans HSW.out.2.2.2.2.2.2⟩)
          have HB24 := Lib.hid (show Below b0 w2 w4 from HLK4.out.toBelow (by have := HGE.out; omega) (by omega) (fun g e => by have := (HLT.out g e).1; omega))
          have HBR4 := Lib.hid (show Below b0 wr w4 from (HBR2.out.mono HGE.out).trans HB24.out)
          have HS4 := Lib.hid (show w4.cell? ⟨w.heap.size, 0, none⟩ = some (.int .i64 Wr) ∧ w4.cell? ⟨w.heap.size, 1, none⟩ = some (.int .i64 Br) ∧ w4.cell? ⟨P0, 0, none⟩ = some (.slice (some ⟨b, off, none⟩) n c) ∧ w4.cell? ⟨P0 + 3, 0, none⟩ = some (.func (.func 85) #[] #[.pointer (some ⟨P0 + 1, 0, none⟩), .pointer (some ⟨P0 + 2, 0, none⟩), .pointer (some ⟨P0, 0, none⟩), .pointer (some ⟨P0 + 3, 0, none⟩)]) ∧ w4.cell? ⟨b, off + j * 3, none⟩ = some (.int .i64 x) ∧ w4.cell? ⟨b, off + j * 3 + 1, none⟩ = some (.int .i64 y) ∧ w4.cell? ⟨b, off + j * 3 + 2, none⟩ = some (.int .i64 z) from HKC.out _ HRM4.out HST4.out HBR4.out)
          have HKEEP4 := Lib.hid (show ∀ wz : World, Below w4.heap.size w4 wz → wz.cell? ⟨w.heap.size, 0, none⟩ = some (.int .i64 Wr) ∧ wz.cell? ⟨w.heap.size, 1, none⟩ = some (.int .i64 Br) ∧ wz.cell? ⟨P0, 0, none⟩ = some (.slice (some ⟨b, off, none⟩) n c) ∧ wz.cell? ⟨P0 + 3, 0, none⟩ = some (.func (.func 85) #[] #[.pointer (some ⟨P0 + 1, 0, none⟩), .pointer (some ⟨P0 + 2, 0, none⟩), .pointer (some ⟨P0, 0, none⟩), .pointer (some ⟨P0 + 3, 0, none⟩)]) ∧ wz.cell? ⟨b, off + j * 3, none⟩ = some (.int .i64 x) ∧ wz.cell? ⟨b, off + j * 3 + 1, none⟩ = some (.int .i64 y) ∧ wz.cell? ⟨b, off + j * 3 + 2, none⟩ = some (.int .i64 z) from fun wz hbz => HKC.out _ ((hbz.block _ (heap_lt HRM4.out)).trans HRM4.out) (HST4.out.frame (ob := none) (Frame.of_below hbz) (fun g e => by cases e)) (HBR4.out.trans (hbz.mono HG4.out)))
          have HW4 := Lib.hid (show (0 ≤ Wr ∧ Wr ≤ 4000) ∧ 0 ≤ Br ∧ Br ≤ 4000 from ⟨hW1, hB1⟩)
          have HOB4 := Lib.hid (show ∀ g, v4.ownBlock = some g → P0 + 4 ≤ g from fun g e => (HCH4.out.2.lt g e).1)
          have hjj : IntKind.i64.wrap ((j : Int) + 1) = (j : Int) + 1 := by rw [IntKind.wrap_i64]; omega
          clear hl3 hne3 hw4 hv4 hpc3 hpf3
          rw [HW4E.out]
          refine wp_region_held_drew (S := (fun wq => wq.cell? ⟨w.heap.size, 0, none⟩ = some (.int .i64 Wr) ∧ wq.cell? ⟨w.heap.size, 1, none⟩ = some (.int .i64 Br) ∧ wq.cell? ⟨P0, 0, none⟩ = some (.slice (some ⟨b, off, none⟩) n c) ∧ wq.cell? ⟨P0 + 3, 0, none⟩ = some (.func (.func 85) #[] #[.pointer (some ⟨P0 + 1, 0, none⟩), .pointer (some ⟨P0 + 2, 0, none⟩), .pointer (some ⟨P0, 0, none⟩), .pointer (some ⟨P0 + 3, 0, none⟩)]) ∧ wq.cell? ⟨b, off + j * 3, none⟩ = some (.int .i64 x) ∧ wq.cell? ⟨b, off + j * 3 + 1, none⟩ = some (.int .i64 y) ∧ wq.cell? ⟨b, off + j * 3 + 2, none⟩ = some (.int .i64 z))) (by kernel_rfl) HS4.out (fun hH0 => ?_)
          refine wpAnyH_take (i := 0) (v := ?_) (ops_at rfl) (by kernel_rfl) (by kernel_rfl) (by kernel_rfl) (fun _ _ _ h => h) (Or.inl ⟨by rfl, ?yb0⟩) (by assumption) ?nb0
          case yb0 => (intro wS hSw; (try dsimp only at hSw); go_simp; try rfl)
          try simp only [Act.put, List.setIfInBounds_toArray, List.set_cons_zero, List.set_cons_succ]
          refine wpAnyH_take (i := 1) (v := ?_) (ops_at rfl) (by kernel_rfl) (by kernel_rfl) (by kernel_rfl) (fun _ _ _ h => h) (Or.inl ⟨by rfl, ?yb1⟩) (by assumption) ?nb1
          case yb1 => (intro wS hSw; (try dsimp only at hSw); go_simp; try rfl)
          try simp only [Act.put, List.setIfInBounds_toArray, List.set_cons_zero, List.set_cons_succ]
          refine wpAnyH_take (i := 2) (v := ?_) (ops_at rfl) (by kernel_rfl) (by kernel_rfl) (by kernel_rfl) (fun _ _ _ h => h) (Or.inl ⟨by rfl, ?yb2⟩) (by assumption) ?nb2
          case yb2 => (intro wS hSw; (try dsimp only at hSw); go_simp; try rfl)
          try simp only [Act.put, List.setIfInBounds_toArray, List.set_cons_zero, List.set_cons_succ]
          refine wpAnyH_take (i := 3) (v := ?_) (ops_at rfl) (by kernel_rfl) (by kernel_rfl) (by kernel_rfl) (fun _ _ _ h => h) (Or.inl ⟨by rfl, ?yb3⟩) (by assumption) ?nb3
          case yb3 => (intro wS hSw; (try dsimp only at hSw); go_simp; try rfl)
          try simp only [Act.put, List.setIfInBounds_toArray, List.set_cons_zero, List.set_cons_succ]
          refine wpAnyH_take (i := 4) (v := ?_) (ops_at rfl) (by kernel_rfl) (by kernel_rfl) (by kernel_rfl) (fun _ _ _ h => h) (Or.inl ⟨by rfl, ?yb4⟩) (by assumption) ?nb4
          case yb4 => (intro wS hSw; (try dsimp only at hSw); go_simp; try rfl)
          try simp only [Act.put, List.setIfInBounds_toArray, List.set_cons_zero, List.set_cons_succ]
          refine wpAnyH_take (i := 5) (v := ?_) (ops_at rfl) (by kernel_rfl) (by kernel_rfl) (by kernel_rfl) (fun _ _ _ h => h) (Or.inl ⟨by rfl, ?yb5⟩) (by assumption) ?nb5
          case yb5 => (intro wS hSw; (try dsimp only at hSw); go_simp; try rfl)
          try simp only [Act.put, List.setIfInBounds_toArray, List.set_cons_zero, List.set_cons_succ]
          refine wpAnyH_take (i := 6) (v := ?_) (ops_at rfl) (by kernel_rfl) (by kernel_rfl) (by kernel_rfl) (fun _ _ _ h => h) (Or.inl ⟨by rfl, ?yb6⟩) (by assumption) ?nb6
          case yb6 => (intro wS hSw; (try dsimp only at hSw); go_simp; try rfl)
          try simp only [Act.put, List.setIfInBounds_toArray, List.set_cons_zero, List.set_cons_succ]
          refine wpAnyH_take (i := 7) (v := ?_) (ops_at rfl) (by kernel_rfl) (by kernel_rfl) (by kernel_rfl) (fun _ _ _ h => h) (Or.inl ⟨by rfl, ?yb7⟩) (by assumption) ?nb7
          case yb7 => (intro wS hSw; (try dsimp only at hSw); go_simp; try rfl)
          try simp only [Act.put, List.setIfInBounds_toArray, List.set_cons_zero, List.set_cons_succ]
          refine wpAnyH_take (i := 8) (v := ?_) (ops_at rfl) (by kernel_rfl) (by kernel_rfl) (by kernel_rfl) (fun _ _ _ h => h) (Or.inl ⟨by rfl, ?yb8⟩) (by assumption) ?nb8
          case yb8 => (intro wS hSw; (try dsimp only at hSw); go_simp; try rfl)
          try simp only [Act.put, List.setIfInBounds_toArray, List.set_cons_zero, List.set_cons_succ]
          refine wpAnyH_ready (rs := [9]) (by kernel_rfl) (by simp) ?_
          refine AllReadyH.cons (ops_at rfl) (fun K hK => ?_) AllReadyH.nil
          go_simp
          refine (without_any Wr Br x y z _ HW4.out.1 HW4.out.2 ⟨hx1, hx2⟩ ⟨hy1, hy2⟩).mono ?_
          rintro e w5 ⟨rfl, hb5'⟩
          have hb5 : Below w4.heap.size w4 w5 := ⟨hb5'.os, hb5'.tape, hb5'.output, hb5'.size, hb5'.block⟩
          clear hb5'
          have hz5 := hb5.size
          have HS5 := Lib.hid (show w5.cell? ⟨w.heap.size, 0, none⟩ = some (.int .i64 Wr) ∧ w5.cell? ⟨w.heap.size, 1, none⟩ = some (.int .i64 Br) ∧ w5.cell? ⟨P0, 0, none⟩ = some (.slice (some ⟨b, off, none⟩) n c) ∧ w5.cell? ⟨P0 + 3, 0, none⟩ = some (.func (.func 85) #[] #[.pointer (some ⟨P0 + 1, 0, none⟩), .pointer (some ⟨P0 + 2, 0, none⟩), .pointer (some ⟨P0, 0, none⟩), .pointer (some ⟨P0 + 3, 0, none⟩)]) ∧ w5.cell? ⟨b, off + j * 3, none⟩ = some (.int .i64 x) ∧ w5.cell? ⟨b, off + j * 3 + 1, none⟩ = some (.int .i64 y) ∧ w5.cell? ⟨b, off + j * 3 + 2, none⟩ = some (.int .i64 z) from HKEEP4.out _ hb5)
          have HCH5 := Lib.hid (HCH4.out.below hb5)
          have HST5 := Lib.hid (HST4.out.frame (ob := none) (Frame.of_below hb5) (fun g e => by cases e))
          have HRR5 := Lib.hid (HKP.out.below _ _ _ _ HRR4.out hb5)
          have HFM5 := Lib.hid (HFM4.out.trans HZ4.out HLO4.out (Frame.of_below (ob := v4.ownBlock) hb5))
          have HBB5 := Lib.hid (HBB4.out.trans (hb5.mono HG4.out))
          have HRM5 := Lib.hid ((hb5.block _ (heap_lt HRM4.out)).trans HRM4.out)
          have HSI5 := Lib.hid (HS.out.below HBB5.out hib)
          have HBR5 := Lib.hid (HBR4.out.trans (hb5.mono HG4.out))
          have HG5 := Lib.hid (show b0 ≤ w5.heap.size by have := HG4.out; omega)
          clear hb5
          refine hK.out _ _ HS5.out (fun hH1 => ?_)
          clear hK K
          refine wpAnyH_ready (rs := [10]) (by kernel_rfl) (by simp) ?_
          refine AllReadyH.cons (ops_at rfl) (fun K hK => ?_) AllReadyH.nil
          go_simp
          refine (IH.out (n - (j + 1)) (by have := HK.out; omega) (j + 1) _ (Wr - x) (Br - y) (ks ++ [(j : Int)]) X v4 w5 (by push_cast; rfl) (by omega) HSN.out HFIT.out (by rw [HWX.out]) (by rw [HBX.out]) HLE.out HG5.out HSI5.out HST5.out HCH5.out HRR5.out).mono ?_
          rintro e w6 ⟨rfl, v6, hch6, hr6, hlo6, hfm6, hb6⟩
          have hz6 := hb6.size
          have HST6 := Lib.hid (HST5.out.frame hfm6 HOB4.out)
          have HRM6 := Lib.hid ((hfm6 w.heap.size (by have := HP4.out; omega) (heap_lt HRM5.out) (by have := HP4.out; omega) HOV4.out).trans HRM5.out)
          have HBR6 := Lib.hid (HBR5.out.trans hb6)
          have HS6 := Lib.hid (show w6.cell? ⟨w.heap.size, 0, none⟩ = some (.int .i64 Wr) ∧ w6.cell? ⟨w.heap.size, 1, none⟩ = some (.int .i64 Br) ∧ w6.cell? ⟨P0, 0, none⟩ = some (.slice (some ⟨b, off, none⟩) n c) ∧ w6.cell? ⟨P0 + 3, 0, none⟩ = some (.func (.func 85) #[] #[.pointer (some ⟨P0 + 1, 0, none⟩), .pointer (some ⟨P0 + 2, 0, none⟩), .pointer (some ⟨P0, 0, none⟩), .pointer (some ⟨P0 + 3, 0, none⟩)]) ∧ w6.cell? ⟨b, off + j * 3, none⟩ = some (.int .i64 x) ∧ w6.cell? ⟨b, off + j * 3 + 1, none⟩ = some (.int .i64 y) ∧ w6.cell? ⟨b, off + j * 3 + 2, none⟩ = some (.int .i64 z) from HKC.out _ HRM6.out HST6.out HBR6.out)
          refine hK.out _ _ HS6.out (fun hH2 => ?_)
          clear hK K
          refine wpAnyH_done (by kernel_rfl) ?_ _
          obtain ⟨hch6a, hch6b⟩ := hch6
          rw [List.length_append, HM.out] at hch6b
          obtain ⟨g5, d5, rfl, hg51, hg52, _, _⟩ := ownsRow_head (ys := ks ++ [(j : Int)]) hch6b (by simp)
          have HCA := Lib.hid hch6a
          have HCB := Lib.hid hch6b
          have hd5 := row_cap hch6b (by simp)
          have hd5' : m + 1 ≤ d5 := hd5
          have HSH := Lib.hid (row_shrunk hch6b HM.out)
          have hpc6 := cell_of hch6a 0
          have hpf6 := frozen_of hch6a 0
          have HR6 := Lib.hid hr6
          have HLK7 := Lib.hid (show Lk (P0 + 2) (some g5) w6 (w6.setCell ⟨P0 + 2, 0, none⟩ (.slice (some ⟨g5, 0, none⟩) m d5)) from (Lk.refl _ _ w6).set _)
          have HLO6 := Lib.hid (show Loc w v.ownBlock (some g5) from HLO4.out.trans hlo6 (by have := HZ4.out; omega))
          have HFM6 := Lib.hid (show Frame P0 v.ownBlock w w6 from HFM5.out.trans (by have := HZ4.out; omega) HLO4.out hfm6)
          have HBB6 := Lib.hid (HBB5.out.trans hb6)
          have HOV6 := Lib.hid (show some g5 ≠ some w.heap.size from fun e => by
            rcases hlo6 with h | ⟨g, h, hg⟩
            · exact HOV4.out (h ▸ e)
            · have h9 : some g5 = some g := h
              rw [e] at h9
              injection h9 with h9
              have := HZ4.out
              have := HRLT.out
              have := heap_lt HRM5.out
              omega)
          clear hch6a hch6b hr6 hlo6 hfm6 hb6
          go_wp2
          clear hpc6 hpf6
          have HCH7 := Lib.hid (show ChAt (w6.setCell ⟨P0 + 2, 0, none⟩ (.slice (some ⟨g5, 0, none⟩) m d5)) P0 (.slice (some ⟨g5, 0, none⟩) m d5) ks from ⟨(set_self HCA.out 0 _).trans rfl, by
            rw [HM.out]
            exact HSH.out.kept (grown_set (World.grownBy.refl w6 (some (P0 + 2))) (p := ⟨P0 + 2, 0, none⟩) rfl _) (.inr (by intro e; have e9 : some g5 = some (P0 + 2) := e; injection e9 with e9; omega))⟩)
          have HRR7 := Lib.hid (HKP.out.row (some g5) (some g5) _ _ _ HR6.out HLK7.out (Loc.refl _ _))
          have HST7 := Lib.hid (HST6.out.frame (Frame.of_lk HLK7.out) (fun g e => by injection e with e; omega))
          have HRM7 := Lib.hid ((set_far w6 (p := ⟨P0 + 2, 0, none⟩) (by show w.heap.size ≠ P0 + 2; have := HP4.out; omega) (.slice (some ⟨g5, 0, none⟩) m d5)).trans HRM6.out)
          have HFM7 := Lib.hid (HFM6.out.trans HBB6.out.size HLO6.out (Frame.of_lk HLK7.out))
          have HBB7 := Lib.hid (HBB6.out.setCell (p := ⟨P0 + 2, 0, none⟩) (by show b0 ≤ P0 + 2; omega) (.slice (some ⟨g5, 0, none⟩) m d5))
          go_roundw
          case rel => (first | exact ⟨j + 1, by omega, by omega, by go_num, _, _, HNX.out, HCH7.out, HRR7.out, HST7.out, HRM7.out, HLO6.out, HFM7.out, HOV6.out, HBB7.out⟩ | ((repeat apply Exists.intro); refine ⟨?_, rfl⟩; exact ⟨j + 1, by omega, by omega, by go_num, _, _, HNX.out, HCH7.out, HRR7.out, HST7.out, HRM7.out, HLO6.out, HFM7.out, HOV6.out, HBB7.out⟩))
          case measure => simp [intOf]; omega
      · obtain rfl : j = n := by omega
        have HE := Lib.hid (show X = L ++ ks :: kidsC ts W B r ks by rw [← HX.out, Nat.sub_self]; simp [kidsC])
        clear hX hch hr hst hrm hlo hfm hov hb
        go_wp2
        go_end0
        exact ⟨rfl, v2, HCH.out, by rw [← HE.out]; exact HRR.out, HLO.out, HFM.out, HBB.out⟩

set_option maxRecDepth 100000 in
set_option maxHeartbeats 2000000 in
theorem each_light (q0 q1 q2 : Nat) (A : Option Addr) (n c : Nat) (ts : List (Int × Int × Int)) (W B : Int) (lo hi b0 : Nat) (R : Option Nat → List (List Int) → World → Prop) (w : World) (hn : ts.length = n) (hg : OkI ts) (hib : hi ≤ b0) (hb0 : b0 ≤ w.heap.size) (hW : 0 ≤ W ∧ W ≤ 4000) (hB : 0 ≤ B ∧ B ≤ 4000) (hR : Keeps w.heap.size R)
    (hV : Vis_light q0 q1 q2 A n c ts W B lo hi w.heap.size b0 R) (hs : Seg w lo hi A (flat3 ts)) (hr : R none [] w) :
    Calls Try.prog 59 #[.agg #[.slice A n c, .int .i64 W, .int .i64 B], (.func (.func 68) #[] #[.pointer (some ⟨q0, 0, none⟩), .pointer (some ⟨q1, 0, none⟩), .pointer (some ⟨q2, 0, none⟩)])] w fun e w' => e = .returned (.tuple #[]) ∧ (∃ ob, R ob (allC ts W B) w') ∧ Below b0 w w' := by
  have HN := Lib.hid hn
  have HG := Lib.hid hg
  have HKP := Lib.hid hR
  have HV := Lib.hid hV
  have HFEW := Lib.hid (show (kidsC ts W B n []).length + 1 ≤ 1024 from kidsC_few (by rw [← hn]; exact hg.len) [])
  have HALL := Lib.hid (show [] ++ [] :: kidsC ts W B n [] = allC ts W B by rw [allC, hn]; rfl)
  obtain ⟨w4, hw4⟩ : ∃ w4, ((((w.alloc (.cells #[.slice A n c, .int .i64 W, .int .i64 B] 62)).alloc (.cells #[(.func (.func 68) #[] #[.pointer (some ⟨q0, 0, none⟩), .pointer (some ⟨q1, 0, none⟩), .pointer (some ⟨q2, 0, none⟩)])] 75)).alloc (.cells #[.slice none 0 0] 31)).alloc (.cells #[(.func (.func 85) #[] #[.pointer (some ⟨w.heap.size + 1, 0, none⟩), .pointer (some ⟨w.heap.size + 1 + 1, 0, none⟩), .pointer (some ⟨w.heap.size, 0, none⟩), .pointer (some ⟨w.heap.size + 1 + 1 + 1, 0, none⟩)])] 95)) = w4 := ⟨_, rfl⟩
  have hb4 : Below w.heap.size w w4 := by rw [← hw4]; exact ((((Below.refl w.heap.size w).alloc (Nat.le_refl _) _).alloc (by simp) _).alloc (by simp; omega) _).alloc (by simp; omega) _
  have hz4 : w4.heap.size = w.heap.size + 4 := by rw [← hw4]; simp
  have HST := Lib.hid (show StatAt w4 w.heap.size A n c W B (.func (.func 68) #[] #[.pointer (some ⟨q0, 0, none⟩), .pointer (some ⟨q1, 0, none⟩), .pointer (some ⟨q2, 0, none⟩)]) (.func (.func 85) #[] #[.pointer (some ⟨w.heap.size + 1, 0, none⟩), .pointer (some ⟨w.heap.size + 1 + 1, 0, none⟩), .pointer (some ⟨w.heap.size, 0, none⟩), .pointer (some ⟨w.heap.size + 1 + 1 + 1, 0, none⟩)]) by
    rw [← hw4]
    refine ⟨?_, ?_, ?_⟩
    · rw [alloc_old _ (by simp; omega), alloc_old _ (by simp; omega), alloc_old _ (by simp)]; exact new_at w _ rfl
    · rw [alloc_old _ (by simp), alloc_old _ (by simp)]; exact new_at _ _ (by simp)
    · exact new_at _ _ (by simp))
  have HCH := Lib.hid (show ChAt w4 w.heap.size (.slice none 0 0) [] by
    refine ⟨?_, World.ownsRow_nil _ _ _ _⟩
    rw [← hw4, alloc_old _ (by simp)]
    exact new_at _ _ (by simp))
  have HR4 := Lib.hid (hR.below _ _ _ _ hr hb4)
  have HS4 := Lib.hid (hs.below hb4 (by omega))
  have HB4 := Lib.hid (hb4.mono (B' := b0) hb0)
  have HW4 := Lib.hid hw4
  have hfit : fitI ts W B [] = true := fitI_true.2 ⟨hW.1, hB.1⟩
  clear hn hg hR hV hs hr hb4 hw4
  go_enter Try.func59, Try.ntmps59
  go_wp2_with fail
  rw [HW4.out]
  refine (search_light q0 q1 q2 A n c ts W B lo hi w.heap.size b0 R HN.out HG.out hib hb0 hW.2 hB.2 HKP.out HV.out n 0 _ W B [] [] (.slice none 0 0) w4 rfl (by omega) (BegI.nil_ ts) hfit (by simp [sumF]) (by simp [sumF]) (by have := HFEW.out; simp; omega) (by omega) HS4.out HST.out HCH.out HR4.out).mono ?_
  rw [HALL.out]
  rintro e w5 ⟨rfl, v, _, hr5, _, _, hb5⟩
  have HR5 := Lib.hid hr5
  have HB5 := Lib.hid (HB4.out.trans hb5)
  clear hr5 hb5
  go_wp2
  go_end0
  exact ⟨rfl, ⟨_, HR5.out⟩, HB5.out⟩

end Go.Proofs.Ytmgloknghoeheaa

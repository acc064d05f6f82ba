/-
  The given program's CountAllCuts.
  Conditions: none.
-/
import Derived.Test.YthlhpddfifpkeabCutsB
import Derived.Test.YthlhpddfifpkeabAllCutsM
namespace Go.Proofs.Ythlhpddfifpkeab
set_option linter.unusedVariables false
open Go.RowKit

def numA (q : Bool) (v : Int) : Int := if q = true then v else 0

set_option maxHeartbeats 1000000 in
theorem spec_CountAllCuts (rod : Int) (w : World) (q : Bool) (hq : inB rod 1 60 = q) (v : Int) (hv : wayA rod.toNat rod.toNat = v) :
    Calls Try.prog 34 #[.int .i64 rod] w (RetI (numA q v) q w) := by
  have HQ := Lib.hid hq
  cases q
  · clear hq hv
    go_enter Try.func34, Try.ntmps34
    go_wp2_with (go_at_call 80; refine (l1In_any _ _ _ false HQ.out _).mono ?_; rintro e w' ⟨rfl, rfl⟩)
    go_ret2
    exact ⟨rfl, Below.refl _ _⟩
  · have h := inB_true.1 hq
    obtain ⟨r, rfl⟩ : ∃ r : Nat, rod = (r : Int) := ⟨rod.toNat, by omega⟩
    rw [Int.toNat_natCast] at hv
    have HV := Lib.hid hv
    have hr0 : 1 ≤ r := by omega
    have hr : r ≤ 60 := by omega
    clear hq hv h
    have hmk := fun W : World => (show (Instr.makeSlice 22 (.int .i64 ((r : Int) + 1)) (.int .i64 ((r : Int) + 1))).run Try.prog W = .ok (.slice (some ⟨W.heap.size, 0, none⟩) (r + 1) (r + 1)) (W.alloc (.cells (madeCells #[.int .i64 0] (r + 1)) 3)) from
      run_make_row' 22 3 (.int .i64 0) 8 Try.underlying22 int_info rfl .i64 .i64 (r + 1) (by omega) (by omega) W)
    obtain ⟨W, hW⟩ : ∃ W, w.alloc (.cells ((madeCells #[.int .i64 0] (r + 1)).setIfInBounds 0 (.int .i64 1)) 3) = W := ⟨_, rfl⟩
    have HA := Lib.hid (show Arr W w.heap.size 3 (rowOf r (wayA 0)) by
      have h := ((arr_new w 3 (r + 1)).set 0 1)
      rw [zeros_row, wayA_first] at h
      rw [← hW]
      obtain ⟨cs, hc1, hc2⟩ := h
      have e : cs = (madeCells #[.int .i64 0] (r + 1)).setIfInBounds 0 (.int .i64 1) := by
        have h5 := set_self (heap_alloc_new w (.cells (madeCells #[.int .i64 0] (r + 1)) 3)) 0 (.int .i64 1)
        rw [h5] at hc1
        injection hc1 with hc1
        injection hc1 with hc1
        exact hc1.symm
      exact ⟨_, heap_alloc_new w _, by rw [← e]; exact hc2⟩)
    have HB := Lib.hid (show Below w.heap.size w W by rw [← hW]; exact (Below.refl _ _).alloc (Nat.le_refl _) _)
    have hblk := heap_alloc_new w (.cells (madeCells #[.int .i64 0] (r + 1)) 3)
    have hc0 : (w.alloc (.cells (madeCells #[.int .i64 0] (r + 1)) 3)).cell? ⟨w.heap.size, 0, none⟩ = some (.int .i64 0) := by
      rw [cell_of hblk]
      simp [madeCells]
    have hf0 := frozen_of hblk 0
    clear hblk
    go_enter Try.func34, Try.ntmps34
    go_wp2_with fail
    refine (l1In_any _ _ _ true HQ.out _).mono ?_
    rintro e w' ⟨rfl, rfl⟩
    go_wp2
    clear hmk hc0 hf0 hW
    go_loopw [5, 6] (fun i _ wr => ∃ k : Nat, k ≤ r ∧ i = .int .i64 ((k + 1 : Nat) : Int) ∧ Below w.heap.size w wr ∧ Arr wr w.heap.size 3 (rowOf r (wayA k))) (fun i _ _ => r + 1 - (intOf i).toNat)
    case atStart => exact ⟨0, Nat.zero_le _, rfl, HB.out, HA.out⟩
    case round =>
      obtain ⟨k, hk, rfl, hb, harr⟩ := hrel
      by_cases hlt : k < r
      · have hbd := fun i (hi : i ≤ r) => wayA_bd (k := k + 1) (n := i) (by omega) (by omega)
        have hbd0 := fun i (hi : i ≤ r) => wayA_bd (k := k) (n := i) (by omega) (by omega)
        have e0 : wayA (k + 1) = sumR (k + 1) (wayA k) := rfl
        rw [e0] at hbd
        have HE := Lib.hid e0
        obtain ⟨T, hT⟩ : ∃ T, wayA k = T := ⟨_, rfl⟩
        rw [hT] at harr hbd hbd0 HE
        rw [← partR_first (k + 1) T] at harr
        have HD := Lib.hid hbd
        have HD0 := Lib.hid hbd0
        clear hT hbd hbd0 e0
        go_wp2
        go_loopw [6] (fun i wr => ∃ m : Nat, k + 1 ≤ m ∧ m ≤ r + 1 ∧ i = .int .i64 m ∧ Below w.heap.size w wr ∧ Arr wr w.heap.size 3 (rowOf r (partR (k + 1) T m))) (fun i _ => r + 1 - (intOf i).toNat)
        case atStart => exact ⟨k + 1, Nat.le_refl _, by omega, rfl, hb, harr⟩
        clear hb harr
        case round =>
          obtain ⟨m, hm1, hm2, rfl, hb, harr⟩ := hrel
          by_cases hm : m ≤ r
          · obtain ⟨d, rfl⟩ : ∃ d, m = k + 1 + d := ⟨m - (k + 1), by omega⟩
            have hwa := harr.cell (rowOf_get (k := d) (f := partR (k + 1) T (k + 1 + d)) (by omega))
            have hwb := harr.cell (rowOf_get (k := k + 1 + d) (f := partR (k + 1) T (k + 1 + d)) hm)
            rw [partR_less (by omega)] at hwa
            rw [partR_not (Nat.le_refl _)] at hwb
            have hbs := HD.out (k + 1 + d) hm
            have hba := HD.out d (by omega)
            have hbb := HD0.out (k + 1 + d) hm
            have hs1 : sumR (k + 1) T (k + 1 + d) = T (k + 1 + d) + sumR (k + 1) T d := by
              rw [sumR_at (by omega) (by omega), Nat.add_sub_cancel_left]
            obtain ⟨a, ha⟩ : ∃ a, sumR (k + 1) T d = a := ⟨_, rfl⟩
            obtain ⟨b, hb'⟩ : ∃ b, T (k + 1 + d) = b := ⟨_, rfl⟩
            rw [ha] at hwa hba hs1
            rw [hb'] at hwb hbb hs1
            rw [hs1] at hbs
            have HS := Lib.hid hs1
            have HST := Lib.hid (partR_set (k + 1) r (k + 1 + d) T)
            have hfk := harr.frozen (k + 1 + d)
            have HAR := Lib.hid harr
            clear harr ha hb' hs1
            obtain ⟨hbs1, hbs2⟩ := hbs
            go_wp2
            go_region
            go_wp2
            go_roundw
            case rel => (first | exact ⟨k + 1 + d + 1, by omega, by omega, by go_num, (below_drewN hb 1).setCell (Nat.le_refl _) _, by rw [← HST.out, HS.out]; exact (HAR.out.keep rfl).set _ _⟩ | ((repeat apply Exists.intro); refine ⟨?_, rfl⟩; exact ⟨k + 1 + d + 1, by omega, by omega, by go_num, (below_drewN hb 1).setCell (Nat.le_refl _) _, by rw [← HST.out, HS.out]; exact (HAR.out.keep rfl).set _ _⟩))
            case measure => simp [intOf]; omega
          · rw [partR_done (by omega), ← HE.out] at harr
            go_wp2
            go_roundw
            case rel => exact ⟨k + 1, by omega, by go_num, hb, harr⟩
            case measure => simp [intOf]; omega
      · obtain rfl : k = r := by omega
        have hc := harr.cell (rowOf_get (f := wayA k) (Nat.le_refl k))
        rw [HV.out] at hc
        clear harr
        go_wp2
        go_ret2
        exact ⟨rfl, hb⟩

set_option maxHeartbeats 1000000 in
theorem impl_CountAllCuts (rod : Int) (w : World) (q : Bool) (hq : inB rod 1 60 = q) (v : Int) (hv : wayA rod.toNat rod.toNat = v) :
    Calls Try.prog 35 #[.int .i64 rod] w (RetI (numA q v) q w) := by
  have HQ := Lib.hid hq
  cases q
  · clear hq hv
    go_enter Try.func35, Try.ntmps35
    go_wp2_with (go_at_call 78; refine (isRod_any _ _ _ HQ.out).mono ?_; rintro e w' ⟨rfl, rfl⟩)
    go_ret2
    exact ⟨rfl, Below.refl _ _⟩
  · have h := inB_true.1 hq
    obtain ⟨r, rfl⟩ : ∃ r : Nat, rod = (r : Int) := ⟨rod.toNat, by omega⟩
    rw [Int.toNat_natCast] at hv
    have hall := all_cuts r
    rw [hv] at hall
    have hf : fromE (List.replicate r (0 : Int)) 1 = tabE (List.replicate r 0) r := by
      unfold fromE
      rw [List.length_replicate, Nat.add_sub_cancel]
    rw [← hf] at hall
    have HV := Lib.hid hall
    have hr0 : 1 ≤ r := by omega
    have hr : r ≤ 60 := by omega
    have HP := Lib.hid (show ∀ (k : Nat) u, (List.replicate r (0 : Int))[k]? = some u → 0 ≤ u ∧ u ≤ 1000 by
      intro k u hu
      rw [List.getElem?_replicate] at hu
      split at hu
      · injection hu with hu; omega
      · cases hu)
    have HLN := Lib.hid (show (List.replicate r (0 : Int)).length = r from List.length_replicate)
    have hmk := fun W : World => (show (Instr.makeSlice 22 (.int .i64 (r : Int)) (.int .i64 (r : Int))).run Try.prog W = .ok (.slice (some ⟨W.heap.size, 0, none⟩) r r) (W.alloc (.cells (madeCells #[.int .i64 0] r) 3)) from
      run_make_row' 22 3 (.int .i64 0) 8 Try.underlying22 int_info rfl .i64 .i64 r (by omega) (by omega) W)
    obtain ⟨W, hW⟩ : ∃ W, w.alloc (.cells (madeCells #[.int .i64 0] r) 3) = W := ⟨_, rfl⟩
    have HSG := Lib.hid (show Seg W 0 W.heap.size (some ⟨w.heap.size, 0, none⟩) (List.replicate r 0) by
      rw [← hW]; exact ((arr_new w 3 r).own (Nat.zero_le _) (arr_new w 3 r).lt).seg)
    have HB := Lib.hid (show Below w.heap.size w W by rw [← hW]; exact (Below.refl _ _).alloc (Nat.le_refl _) _)
    clear hq hv h hall hf
    go_enter Try.func35, Try.ntmps35
    go_wp2_with fail
    refine (isRod_any _ _ _ HQ.out).mono ?_
    rintro e w' ⟨rfl, rfl⟩
    go_wp2_with fail
    clear hmk hW
    refine (bestCutsOf_any _ r r (List.replicate r 0) r 0 W.heap.size W HLN.out hr0 hr HSG.out (Nat.le_refl _) HP.out hr).mono ?_
    rintro e w1 ⟨A1, c1, rfl, h1, hb⟩
    rw [HV.out]
    have hfd := field_count (fromE (List.replicate r 0) 1 r).worth A1 (fromE (List.replicate r 0) 1 r).first.length c1 v
    clear h1
    go_wp2
    go_ret2
    exact ⟨rfl, HB.out.trans (hb.mono HB.out.size)⟩
end Go.Proofs.Ythlhpddfifpkeab

/-
  What both programs answer of items that are always packed.
  Conditions: lists of at most 1048576 items.
-/
import Derived.Test.YtmgloknghoeheaaSuE
import Derived.Test.YtmgloknghoeheaaSuR
import Derived.Test.YtmgloknghoeheaaSuW
import Derived.Test.YtmgloknghoeheaaHas
namespace Go.Proofs.Ytmgloknghoeheaa
set_option linter.unusedVariables false
open Go.RowKit

/-- The items below 'j' that are in all lists. -/
def alwK (L : List (List Int)) : Nat → List Int
  | 0 => []
  | j + 1 => alwK L j ++ (if L.all (fun c => decide ((j : Int) ∈ c)) = true then [(j : Int)] else [])
theorem alwK_yes {L : List (List Int)} {j : Nat} (h : L.all (fun c => decide ((j : Int) ∈ c)) = true) : alwK L (j + 1) = alwK L j ++ [(j : Int)] := by rw [alwK, if_pos h]
theorem alwK_no {L : List (List Int)} {j : Nat} (h : L.all (fun c => decide ((j : Int) ∈ c)) = false) : alwK L (j + 1) = alwK L j := by rw [alwK, if_neg (by rw [h]; decide), List.append_nil]
theorem alwK_len (L : List (List Int)) (j : Nat) : (alwK L j).length ≤ j := by
  induction j with
  | zero => exact Nat.le_refl _
  | succ j ih =>
    rw [alwK, List.length_append]
    split
    · simp only [List.length_singleton]; omega
    · simp only [List.length_nil]; omega
def alwI (ts : List (Int × Int × Int)) (W B : Int) : List Int := alwK (bestL (valI ts) (allC ts W B)).1 ts.length
theorem alwI_len {ts : List (Int × Int × Int)} {W B : Int} (h : askI ts W B = true) : (alwI ts W B).length ≤ 10 :=
  Nat.le_trans (alwK_len _ _) (goodI_ok (askI_true.1 h).1).len
theorem all_next {L : List (List Int)} {k : Nat} {x : List Int} (v : Int) (h : L[k]? = some x) : (L.take (k + 1)).all (fun c => decide (v ∈ c)) = ((L.take k).all (fun c => decide (v ∈ c)) && decide (v ∈ x)) := by
  rw [take_snocI h, List.all_append]; simp

set_option maxRecDepth 100000 in
set_option maxHeartbeats 2000000 in
theorem spec_AlwaysPacked (A : Option Addr) (n c : Nat) (W B : Int) (ts : List (Int × Int × Int)) (lo hi : Nat) (w : World) (hn : ts.length = n) (hlen : n ≤ 1048576) (hs : Seg w lo hi A (flat3 ts)) (hB : hi ≤ w.heap.size) (q : Bool) (hq : askI ts W B = q) :
    Calls Try.prog 44 #[.slice A n c, .agg #[.int .i64 W, .int .i64 B]] w (RetL q (someN q (alwI ts W B)) w) := by
  have HN := Lib.hid hn
  have HB0 := Lib.hid ((Below.refl w.heap.size w).alloc (Nat.le_refl _) (.cells #[.int .i64 W, .int .i64 B] 34))
  have HC0 := Lib.hid (new_at w (.cells #[.int .i64 W, .int .i64 B] 34) rfl)
  have HS0 := Lib.hid (hs.below HB0.out hB)
  have HQ := Lib.hid hq
  cases q
  · clear hn hq hs
    go_enter Try.func44, Try.ntmps44
    go_wp2_with fail
    refine (suAsked_any A n c W B ts lo hi _ HN.out hlen HS0.out (by simp; omega) _ HQ.out).mono ?_
    rintro e w1 ⟨rfl, hb1⟩
    have HB1 := Lib.hid (HB0.out.trans (hb1.mono (by simp)))
    go_wp2
    go_ret2
    exact ⟨none, 0, 0, rfl, rfl, Own.nil_, HB1.out⟩
  · obtain ⟨hg, hW, hBB⟩ := askI_true.1 hq
    have HG := Lib.hid (goodI_ok hg)
    clear hn hq hs hg
    go_enter Try.func44, Try.ntmps44
    go_wp2_with fail
    refine (suAsked_any A n c W B ts lo hi _ HN.out hlen HS0.out (by simp; omega) _ HQ.out).mono ?_
    rintro e w1 ⟨rfl, hb1⟩
    have HB1 := Lib.hid (HB0.out.trans (hb1.mono (by simp)))
    have hcc := (hb1.block w.heap.size (by simp)).trans HC0.out
    have HC1 := Lib.hid hcc
    have k0 := cell_of hcc 0
    have k1 := cell_of hcc 1
    have HS1 := Lib.hid (HS0.out.below hb1 (by simp; omega))
    have hz1 := hb1.size
    have hz1' : w.heap.size < w1.heap.size := by simp at hz1; omega
    clear hb1 hcc hz1
    obtain ⟨i0, hi0, hz0, hz1, hz2⟩ := info_parts int_info
    have hn10 : n ≤ 10 := by rw [← HN.out]; exact HG.out.len
    have HIL := Lib.hid (show alwI ts W B = alwK (bestL (valI ts) (allC ts W B)).1 n by rw [alwI, HN.out])
    go_wp2_with fail
    refine (suBest_any A n c W B ts lo hi _ HN.out HG.out hW.1 hBB.1 HS1.out (by omega)).mono ?_
    rintro e w2 ⟨A2, n2, c2, vs, rfl, hl, hr, hb2⟩
    have hz2' := hb2.size
    have HB2 := Lib.hid (HB1.out.trans (hb2.mono (by omega)))
    have HL := Lib.hid hl
    have HR := Lib.hid hr
    have hn2b : n2 ≤ 1024 := by rw [← HL.out]; exact Nat.le_trans (bestL_len _ _) (allC_few HG.out W B)
    have HMEM := Lib.hid (show ∀ xs ∈ (bestL (valI ts) (allC ts W B)).1, xs.length ≤ 10 from fun xs hx => Nat.le_trans (incI_len (allC_mem hW.1 hBB.1 ((bestL_all (valI ts) (allC ts W B)).1 xs |>.1 hx).1).1) HG.out.len)
    obtain ⟨LL, hLL⟩ : ∃ LL, (bestL (valI ts) (allC ts W B)).1 = LL := ⟨_, rfl⟩
    rw [hLL] at HL HR HMEM HIL
    clear hb2 hl hr k0 k1 hLL
    go_wp2
    go_loopw [8, 9, 10, 12, 25, 28, 29, 30] (fun o _ _ _ i _ _ _ wr => ∃ j : Nat, j ≤ n ∧ i = .int .i64 j ∧ Below w2.heap.size w2 wr ∧ wr.ownsRow w2.heap.size 3 1 o (alwK LL j).length ((alwK LL j).map (Value.int .i64))) (fun _ _ _ _ i _ _ _ _ => n - (intOf i).toNat)
    case atStart => exact ⟨0, Nat.zero_le _, rfl, Below.refl _ _, World.ownsRow_nil _ _ _ _⟩
    case round =>
      rename World => wr
      obtain ⟨j, hj, rfl, hbr, hown⟩ := hrel
      obtain ⟨Ba, da, rfl⟩ := ownsRow_form hown
      obtain ⟨na, hna⟩ : ∃ na, (alwK LL j).length = na := ⟨_, rfl⟩
      rw [hna] at hown ⊢
      have hna10 : na ≤ 10 := by rw [← hna]; exact Nat.le_trans (alwK_len _ _) (by omega)
      have HNA := Lib.hid hna
      have HOWN := Lib.hid hown
      have HBR0 := Lib.hid hbr
      have HBR := Lib.hid (HB2.out.trans (hbr.mono (by omega)))
      have hsr : w.heap.size ≤ wr.heap.size := by have := hbr.size; omega
      have hsr2 := hbr.size
      clear hna
      by_cases hlt : j < n
      · clear hown hbr
        go_wp2
        go_loopw [10, 12, 30] (fun a _ i wz => ∃ k : Nat, k ≤ n2 ∧ i = .int .i64 k ∧ a = .bool ((LL.take k).all fun c => decide ((j : Int) ∈ c)) ∧ wz = wr) (fun _ _ i _ => n2 - (intOf i).toNat)
        case atStart => exact ⟨0, Nat.zero_le _, rfl, rfl, rfl⟩
        case round =>
          obtain ⟨k, hk, rfl, rfl, rfl⟩ := hrel
          by_cases hlk : k < n2
          · obtain ⟨xs, hx⟩ : ∃ xs, LL[k]? = some xs := ⟨_, List.getElem?_eq_getElem (by rw [HL.out]; exact hlk)⟩
            obtain ⟨g, Bx, dx, rfl, hg1, hg2, hgc, hgo⟩ := HR.out.at_ hx
            have hgc' := (HBR0.out.cell (by exact hg2)).trans hgc
            have hx10 := HMEM.out xs (List.mem_of_getElem? hx)
            have HNX := Lib.hid (all_next (j : Int) hx)
            have HGS := Lib.hid ((hgo.below HBR0.out (Nat.le_refl _)).seg)
            obtain ⟨nx, hnx⟩ : ∃ nx, xs.length = nx := ⟨_, rfl⟩
            rw [hnx] at hgc' hx10
            have HXL := Lib.hid hnx
            obtain ⟨a0, ha0⟩ : ∃ a0, (LL.take k).all (fun c => decide ((j : Int) ∈ c)) = a0 := ⟨_, rfl⟩
            rw [ha0] at HNX ⊢
            clear hx hgc hgo hnx ha0
            cases a0
            · go_wp2
              go_roundw
              case rel => exact ⟨k + 1, by omega, by go_num, by rw [HNX.out]; rfl, (by first | rfl | trivial)⟩
              case measure => simp [intOf]; omega
            · obtain ⟨h0, hh0⟩ : ∃ h0, decide ((j : Int) ∈ xs) = h0 := ⟨_, rfl⟩
              rw [hh0] at HNX
              have HH := Lib.hid hh0
              clear hh0
              go_wp2_with fail
              refine (l1Has_any Bx nx dx xs (j : Int) _ _ _ HXL.out (by omega) HGS.out _ HH.out).mono ?_
              rintro e w' ⟨rfl, rfl⟩
              go_wp2
              go_roundw
              case rel => exact ⟨k + 1, by omega, by go_num, by rw [HNX.out]; rfl, (by first | rfl | trivial)⟩
              case measure => simp [intOf]; omega
          · obtain rfl : k = n2 := by omega
            have HE := Lib.hid (show LL.take k = LL by rw [← HL.out, List.take_length])
            rw [HE.out]
            obtain ⟨a0, ha0⟩ : ∃ a0, LL.all (fun c => decide ((j : Int) ∈ c)) = a0 := ⟨_, rfl⟩
            rw [ha0]
            have HA0 := Lib.hid ha0
            clear ha0
            cases a0
            · have HNJ := Lib.hid (alwK_no HA0.out)
              go_wp2
              go_roundw
              case rel => exact ⟨j + 1, by omega, by go_num, HBR0.out, by rw [HNJ.out, HNA.out]; exact HOWN.out⟩
              case measure => simp [intOf]; omega
            · have HNJ := Lib.hid (alwK_yes HA0.out)
              have HOW1 := Lib.hid (HOWN.out.alloc (.cells #[.int .i64 (j : Int)] 3))
              have HSJ := Lib.hid (seg_one wr (j : Int) 3)
              have HLT := Lib.hid HOWN.out.lt
              go_wp2_with (at_builtin; refine wpList_append_seg _ rfl _ _ 31 rfl w2.heap.size 3 i0 Try.underlying31 hi0 hz0 hz1 hz2 _ na _ rfl HOW1.out _ 1 1 [(j : Int)] _ _ rfl rfl HSJ.out (by omega) (by simp; omega) ?_; intro v3 w3 hown3 hgr3; obtain ⟨A3, c3, rfl⟩ := ownsRow_form hown3; have HO3 := Lib.hid hown3; have HB3 := Lib.hid ((HBR0.out.alloc HBR0.out.size _).grown hgr3 (by simp; omega) (fun g' hg' => (HLT.out g' hg').1)); clear hown3 hgr3)
              go_roundw
              case rel => exact ⟨j + 1, by omega, by go_num, HB3.out, by rw [HNJ.out, List.length_append, HNA.out, List.map_append]; exact HO3.out⟩
              case measure => simp [intOf]; omega
      · obtain rfl : j = n := by omega
        clear hown hbr
        have HFO := Lib.hid (ownsRow_own (ys := alwK LL j) (by rw [HNA.out]; exact HOWN.out)).2
        go_wp2
        go_ret2
        exact ⟨Ba, na, da, rfl, by rw [← HNA.out, ← HIL.out]; rfl, by have h9 := HFO.out.more (lo' := w.heap.size) (by omega) (Nat.le_refl _); rw [← HIL.out] at h9; exact h9, HBR.out⟩

set_option maxRecDepth 100000 in
set_option maxHeartbeats 2000000 in
theorem impl_AlwaysPacked (A : Option Addr) (n c : Nat) (W B : Int) (ts : List (Int × Int × Int)) (lo hi : Nat) (w : World) (hn : ts.length = n) (hlen : n ≤ 1048576) (hs : Seg w lo hi A (flat3 ts)) (hB : hi ≤ w.heap.size) (q : Bool) (hq : askI ts W B = q) :
    Calls Try.prog 45 #[.slice A n c, .agg #[.int .i64 W, .int .i64 B]] w (RetL q (someN q (alwI ts W B)) w) := by
  have HN := Lib.hid hn
  have HB0 := Lib.hid ((Below.refl w.heap.size w).alloc (Nat.le_refl _) (.cells #[.int .i64 W, .int .i64 B] 34))
  have HC0 := Lib.hid (new_at w (.cells #[.int .i64 W, .int .i64 B] 34) rfl)
  have HS0 := Lib.hid (hs.below HB0.out hB)
  have HQ := Lib.hid hq
  cases q
  · clear hn hq hs
    go_enter Try.func45, Try.ntmps45
    go_wp2_with fail
    refine (luggage_no A n c W B ts lo hi _ HN.out hlen HS0.out (by simp; omega) HQ.out).mono ?_
    rintro e w1 ⟨rfl, hb1⟩
    have HB1 := Lib.hid (HB0.out.trans (hb1.mono (by simp)))
    go_wp2
    go_ret2
    exact ⟨none, 0, 0, rfl, rfl, Own.nil_, HB1.out.alloc HB1.out.size _⟩
  · obtain ⟨hg, hW, hBB⟩ := askI_true.1 hq
    have HG := Lib.hid (goodI_ok hg)
    have hW4 : 0 ≤ W ∧ W ≤ 4000 := by omega
    have hB4 : 0 ≤ B ∧ B ≤ 4000 := by omega
    clear hn hq hs hg
    go_enter Try.func45, Try.ntmps45
    go_wp2_with fail
    refine (luggage_yes A n c W B ts lo hi _ HN.out hlen HS0.out (by simp; omega) HQ.out).mono ?_
    rintro e w1 ⟨rfl, hb1⟩
    have hz1' : w.heap.size < w1.heap.size := by have := hb1.size; simp at this; omega
    have HB1 := Lib.hid (HB0.out.trans (hb1.mono (by simp)))
    have hb1b := (Below.refl w1.heap.size w1).alloc (Nat.le_refl _) (.cells #[.slice A n c, .int .i64 W, .int .i64 B] 62)
    have HB2 := Lib.hid (HB1.out.trans (hb1b.mono HB1.out.size))
    have HS1 := Lib.hid (HS0.out.below hb1 (by simp; omega))
    have HS2 := Lib.hid (HS1.out.below hb1b (by omega))
    have HL2 := Lib.hid (new_at w1 (.cells #[.slice A n c, .int .i64 W, .int .i64 B] 62) rfl)
    clear hb1 hb1b
    obtain ⟨i0, hi0, hz0, hz1, hz2⟩ := info_parts int_info
    have hn10 : n ≤ 10 := by rw [← HN.out]; exact HG.out.len
    have HIL := Lib.hid (show alwI ts W B = alwK (bestL (valI ts) (allC ts W B)).1 n by rw [alwI, HN.out])
    have HALW := Lib.hid (show ∀ j : Nat, j < n → ((bestL (valI ts) (allC ts W B)).1.all fun c => decide ((j : Int) ∈ c)) = decide ((topI (restI ts [(j : Int)]) W B).1 < (topI ts W B).1) from fun j hj => by
      rw [Bool.eq_iff_iff, List.all_eq_true]
      simp only [decide_eq_true_eq]
      exact always_same (by rw [HN.out]; exact hj) HG.out hW.1 hBB.1)
    go_wp2_with fail
    refine (best_any A n c W B ts lo hi _ HN.out HG.out hW4 hB4 HS2.out (by simp; omega)).mono ?_
    rintro e w3 ⟨Af, nf, cf, rfl, _, _, hb3⟩
    have hz3 : w1.heap.size < w3.heap.size := by have := hb3.size; simp at this; omega
    have HL3 := Lib.hid ((hb3.block w1.heap.size (by simp)).trans HL2.out)
    have HB3 := Lib.hid (HB2.out.trans (hb3.mono HB2.out.size))
    have HS3 := Lib.hid (HS2.out.below hb3 (by simp; omega))
    have hfw := field_worth (topI ts W B).1 Af nf cf ((topI ts W B).2.2 : Nat)
    obtain ⟨t0, ht0⟩ : ∃ t0, (topI ts W B).1 = t0 := ⟨_, rfl⟩
    rw [ht0] at HALW hfw ⊢
    obtain ⟨LL, hLL⟩ : ∃ LL, (bestL (valI ts) (allC ts W B)).1 = LL := ⟨_, rfl⟩
    rw [hLL] at HALW HIL
    clear hb3 ht0 hLL
    go_wp2
    clear hfw
    go_loopw [9, 10, 24] (fun o _ i wr => ∃ j : Nat, j ≤ n ∧ i = .int .i64 j ∧ Below w3.heap.size w3 wr ∧ wr.ownsRow w3.heap.size 3 1 o (alwK LL j).length ((alwK LL j).map (Value.int .i64))) (fun _ _ i _ => n - (intOf i).toNat)
    case atStart => exact ⟨0, Nat.zero_le _, rfl, Below.refl _ _, World.ownsRow_nil _ _ _ _⟩
    case round =>
      obtain ⟨j, hj, rfl, hbr, hown⟩ := hrel
      obtain ⟨Ba, da, rfl⟩ := ownsRow_form hown
      obtain ⟨na, hna⟩ : ∃ na, (alwK LL j).length = na := ⟨_, rfl⟩
      rw [hna] at hown ⊢
      have hna10 : na ≤ 10 := by rw [← hna]; exact Nat.le_trans (alwK_len _ _) (by omega)
      have HNA := Lib.hid hna
      have HOWN := Lib.hid hown
      have HBR0 := Lib.hid hbr
      have hsr := hbr.size
      clear hna
      by_cases hlt : j < n
      · have hlug := (hbr.block w1.heap.size hz3).trans HL3.out
        have l0 := cell_of hlug 0
        have l1 := cell_of hlug 1
        have l2 := cell_of hlug 2
        have HBJ := Lib.hid ((Below.refl wr.heap.size wr).alloc (Nat.le_refl _) (.cells #[.int .i64 (j : Int)] 3))
        have HSJ := Lib.hid (seg_one wr (j : Int) 3)
        have HSR := Lib.hid ((HS3.out.below hbr (by omega)).below HBJ.out (by omega))
        have HTEST := Lib.hid (HALW.out j hlt)
        have hokr := restI_ok HG.out [(j : Int)]
        have HOKR := Lib.hid hokr
        clear hown hbr hlug hokr
        go_wp2_with fail
        refine (without_lug A _ n c 1 1 W B ts [(j : Int)] _ _ _ _ _ HN.out HG.out rfl (by omega) HSR.out (by simp; omega) HSJ.out (Nat.le_refl _)).mono ?_
        rintro e w5 ⟨A5, n5, c5, rfl, hn5, ho5, hb5⟩
        have HN5 := Lib.hid hn5
        have HO5 := Lib.hid ho5
        have HB5 := Lib.hid (HBJ.out.trans (hb5.mono HBJ.out.size))
        have hz5 : wr.heap.size ≤ w5.heap.size := HB5.out.size
        clear hb5 hn5 ho5 l0 l1 l2
        go_wp2_with fail
        refine (best_any A5 n5 c5 W B (restI ts [(j : Int)]) _ _ _ HN5.out HOKR.out hW4 hB4 HO5.out.seg (Nat.le_refl _)).mono ?_
        rintro e w6 ⟨A6, n6, c6, rfl, _, _, hb6⟩
        have HB6 := Lib.hid (HB5.out.trans (hb6.mono hz5))
        have hz6 : wr.heap.size ≤ w6.heap.size := HB6.out.size
        have hfw := field_worth (topI (restI ts [(j : Int)]) W B).1 A6 n6 c6 ((topI (restI ts [(j : Int)]) W B).2.2 : Nat)
        obtain ⟨t1, ht1⟩ : ∃ t1, (topI (restI ts [(j : Int)]) W B).1 = t1 := ⟨_, rfl⟩
        rw [ht1] at HTEST hfw ⊢
        have HB36 := Lib.hid (HBR0.out.trans (HB6.out.mono hsr))
        have HOW6 := Lib.hid (row_below HOWN.out HB6.out)
        clear hb6 ht1
        by_cases hd : t1 < t0
        · have hdt : decide (t1 < t0) = true := decide_eq_true hd
          have HNJ := Lib.hid (alwK_yes (HTEST.out.trans hdt))
          have HOW1 := Lib.hid (HOW6.out.alloc (.cells #[.int .i64 (j : Int)] 3))
          have HSK := Lib.hid (seg_one w6 (j : Int) 3)
          have HLT := Lib.hid HOW6.out.lt
          go_wp2_with (at_builtin; refine wpList_append_seg _ rfl _ _ 31 rfl w3.heap.size 3 i0 Try.underlying31 hi0 hz0 hz1 hz2 _ na _ rfl HOW1.out _ 1 1 [(j : Int)] _ _ rfl rfl HSK.out (by omega) (by simp; omega) ?_; intro v3 w7 hown3 hgr3; obtain ⟨A3, c3, rfl⟩ := ownsRow_form hown3; have HO3 := Lib.hid hown3; have HB7 := Lib.hid ((HB36.out.alloc HB36.out.size _).grown hgr3 (by simp; omega) (fun g' hg' => (HLT.out g' hg').1)); clear hown3 hgr3)
          go_roundw
          case rel => exact ⟨j + 1, by omega, by go_num, HB7.out, by rw [HNJ.out, List.length_append, HNA.out, List.map_append]; exact HO3.out⟩
          case measure => simp [intOf]; omega
        · have hdt : decide (t1 < t0) = false := decide_eq_false hd
          have HNJ := Lib.hid (alwK_no (HTEST.out.trans hdt))
          go_wp2
          go_roundw
          case rel => exact ⟨j + 1, by omega, by go_num, HB36.out, by rw [HNJ.out, HNA.out]; exact HOW6.out⟩
          case measure => simp [intOf]; omega
      · obtain rfl : j = n := by omega
        have HBF := Lib.hid (HB3.out.trans (hbr.mono (by omega)))
        clear hown hbr
        have HFO := Lib.hid (ownsRow_own (ys := alwK LL j) (by rw [HNA.out]; exact HOWN.out)).2
        go_wp2
        go_ret2
        exact ⟨Ba, na, da, rfl, by rw [← HNA.out, ← HIL.out]; rfl, by have h9 := HFO.out.more (lo' := w.heap.size) (by omega) (Nat.le_refl _); rw [← HIL.out] at h9; exact h9, HBF.out⟩

end Go.Proofs.Ytmgloknghoeheaa

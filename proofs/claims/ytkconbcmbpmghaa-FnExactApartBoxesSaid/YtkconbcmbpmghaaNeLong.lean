/-
  The checking program's longest nest, and boxes apart.
  Conditions: the list has at most 1048576 boxes.
-/
import Derived.Test.YtkconbcmbpmghaaMost
namespace Go.Proofs.Ytkconbcmbpmghaa
set_option linter.unusedVariables false
open Go.RowKit

/-- What is left to go on with, among the first 'i'. -/
def leftC (tog : Int → Int → Bool) (n i : Nat) (bg : List Int) : List Int := ((below n).take i).filter fun x => bg.all fun b => tog b x
theorem leftC_all (tog : Int → Int → Bool) (n : Nat) (bg : List Int) : leftC tog n n bg = candsC tog (below n) bg := by
  rw [leftC, List.take_of_length_le (by rw [below_length]; exact Nat.le_refl _), candsC]
theorem leftC_next (tog : Int → Int → Bool) {n i : Nat} (bg : List Int) (hi : i < n) : leftC tog n (i + 1) bg = leftC tog n i bg ++ (if (bg.all fun b => tog b (i : Int)) = true then [(i : Int)] else []) :=
  filter_take _ (below_at hi)

/-- The best so far: what goes on from some, among the first 'i'. -/
def bestC (tog : Int → Int → Bool) (f n i : Nat) (bg : List Int) : List Int :=
  bg ++ (leftC tog n i bg).foldl (stepW fun k => mostT tog f ((candsC tog (below n) bg).filter (tog k))) []
theorem bestC_zero (tog : Int → Int → Bool) (f n : Nat) (bg : List Int) : bestC tog f n 0 bg = bg := by simp [bestC, leftC]
theorem bestC_end (tog : Int → Int → Bool) (f n : Nat) (bg : List Int) : bestC tog f n n bg = bg ++ mostT tog (f + 1) (candsC tog (below n) bg) := by rw [bestC, leftC_all]; rfl
theorem bestC_skip {tog : Int → Int → Bool} {f n i : Nat} {bg : List Int} (hi : i < n) (h : (bg.all fun b => tog b (i : Int)) = false) : bestC tog f n (i + 1) bg = bestC tog f n i bg := by
  rw [bestC, leftC_next tog bg hi, if_neg (by simp [h]), List.append_nil]; rfl
theorem bestC_take {tog : Int → Int → Bool} {f n i : Nat} {bg : List Int} (hi : i < n) (h : (bg.all fun b => tog b (i : Int)) = true) :
    bestC tog f n (i + 1) bg = (if (bestC tog f n i bg).length < ((bg ++ [(i : Int)]) ++ mostT tog f (candsC tog (below n) (bg ++ [(i : Int)]))).length then (bg ++ [(i : Int)]) ++ mostT tog f (candsC tog (below n) (bg ++ [(i : Int)])) else bestC tog f n i bg) := by
  rw [bestC, leftC_next tog bg hi, if_pos h, List.foldl_append, candsC_snoc]
  generalize hm : (leftC tog n i bg).foldl (stepW fun k => mostT tog f ((candsC tog (below n) bg).filter (tog k))) [] = m
  have e : bestC tog f n i bg = bg ++ m := by rw [bestC, hm]
  rw [e]
  simp only [List.foldl_cons, List.foldl_nil]
  obtain ⟨r, hr⟩ : ∃ r, mostT tog f ((candsC tog (below n) bg).filter (tog (i : Int))) = r := ⟨_, rfl⟩
  rw [stepW]
  simp only [hr, List.length_append, List.length_cons, List.length_nil]
  by_cases hc : m.length ≤ r.length
  · rw [if_pos hc, if_pos (by omega)]
    simp
  · rw [if_neg hc, if_neg (by omega)]
theorem bestC_length (tog : Int → Int → Bool) (f n i : Nat) (bg : List Int) : (bestC tog f n i bg).length ≤ bg.length + f + 1 := by
  rw [bestC, List.length_append]
  have := foldW_length (f := f) (g := fun k => mostT tog f ((candsC tog (below n) bg).filter (tog k))) (fun k => mostT_length _ _ _) (leftC tog n i bg) [] (by simp)
  omega

/-- The last one tells all. -/
def lastOk (tog : Int → Int → Bool) (n : Nat) (bg : List Int) : Prop :=
  ∀ (l : Int) (i : Nat), bg.getLast? = some l → i < n → (bg.all fun b => tog b (i : Int)) = tog l (i : Int)

theorem lastOk_nil (tog : Int → Int → Bool) (n : Nat) : lastOk tog n [] := fun l i h => by cases h
theorem lastOk_snoc {bs : List (Int × Int × Int)} {n : Nat} {bg : List Int} {k : Int} (hk : (bg.all fun b => togL bs b k) = true) : lastOk (togL bs) n (bg ++ [k]) := by
  intro l i hl hi
  rw [List.getLast?_append] at hl
  simp at hl
  subst hl
  rw [List.all_append]
  cases h : togL bs k (i : Int)
  · simp [h]
  · have : (bg.all fun b => togL bs b (i : Int)) = true := by
      rw [List.all_eq_true] at hk ⊢
      intro b hb
      exact togL_trans (hk b hb) h
    rw [this]
    simp [h]

theorem cands_less {tog : Int → Int → Bool} (hself : ∀ i, tog i i = false) {n i f : Nat} {bg : List Int} (hi : i < n) (h : (bg.all fun b => tog b (i : Int)) = true) (hf : (candsC tog (below n) bg).length ≤ f + 1) :
    (candsC tog (below n) (bg ++ [(i : Int)])).length ≤ f := by
  have hm : (i : Int) ∈ candsC tog (below n) bg := by
    rw [candsC, List.mem_filter]
    exact ⟨List.mem_of_getElem? (below_at hi), h⟩
  have := filter_less (p := tog (i : Int)) hm (hself _)
  rw [candsC_snoc]
  omega

theorem cands_le (tog : Int → Int → Bool) (n : Nat) (bg : List Int) : (candsC tog (below n) bg).length ≤ n := by
  have := List.length_filter_le (fun i => bg.all fun b => tog b i) (below n)
  rw [below_length] at this
  exact this

/-- A list in new memory of its own is answered. -/
def RetO (ys : List Int) (w : World) (e : Ending) (w' : World) : Prop := ∃ A' n' c', e = .returned (.slice A' n' c') ∧ ys.length = n' ∧ Own w' w.heap.size w'.heap.size A' ys ∧ Below w.heap.size w w'

theorem own_snoc {w : World} {base T m c : Nat} {A : Option Addr} {bg : List Int} {i : Int} (hm : bg.length = m) (h : w.ownsRow base T 1 (.slice A (m + 1) c) (m + 1) (bg.map (Value.int .i64) ++ [i].map (Value.int .i64))) : Own w base w.heap.size A (bg ++ [i]) := by
  refine (ownsRow_own (ys := bg ++ [i]) (T := T) (n := m + 1) (c := c) ?_).2
  rw [List.length_append, hm, List.map_append]
  exact h

set_option maxRecDepth 100000 in
set_option maxHeartbeats 4000000 in
theorem neLongest_body (A P : Option Addr) (n c m d : Nat) (bs : List (Int × Int × Int)) (bg : List Int) (lo hi lo' hi' : Nat) (w : World) (best other : Nat → List Int) (hn : bs.length = n) (hn7 : n ≤ 7) (hm : bg.length = m) (hm100 : m ≤ 100)
    (hbg : ∀ x ∈ bg, 0 ≤ x ∧ x < (n : Int)) (hlast : lastOk (togL bs) n bg) (hs : Seg w lo' hi' P bg) (hB : hi' ≤ w.heap.size) (hsb : Seg w lo hi A (flat3 bs)) (hBb : hi ≤ w.heap.size)
    (h0 : best 0 = bg) (hskip : ∀ i, i < n → (bg.all fun b => togL bs b (i : Int)) = false → best (i + 1) = best i)
    (htake : ∀ i, i < n → (bg.all fun b => togL bs b (i : Int)) = true → best (i + 1) = if (best i).length < (other i).length then other i else best i)
    (hol : ∀ i, (other i).length ≤ 200)
    (hrec : ∀ i, i < n → (bg.all fun b => togL bs b (i : Int)) = true → ∀ (P : Option Addr) (m d lo' hi' : Nat) (w : World), (bg ++ [(i : Int)]).length = m → Seg w lo' hi' P (bg ++ [(i : Int)]) → hi' ≤ w.heap.size → Seg w lo hi A (flat3 bs) → hi ≤ w.heap.size →
      Calls Try.prog 73 #[.slice A n c, .slice P m d] w (RetO (other i) w)) :
    Calls Try.prog 73 #[.slice A n c, .slice P m d] w (RetO (best n) w) := by
  obtain ⟨i0, hi0, hz0, hz1, hz2⟩ := info_parts int_info
  have HN := Lib.hid hn
  have HM := Lib.hid hm
  have HBG := Lib.hid hbg
  have HLAST := Lib.hid hlast
  have HS := Lib.hid hs
  have HSB := Lib.hid hsb
  have H0 := Lib.hid h0
  have HSKIP := Lib.hid hskip
  have HTAKE := Lib.hid htake
  have HOL := Lib.hid hol
  have HREC := Lib.hid hrec
  clear hn hm hbg hlast hs hsb h0 hskip htake hol hrec
  go_enter Try.func73, Try.ntmps73
  go_wp2_with fail
  refine (l1Own_any P m d bg lo' hi' _ HM.out (by omega) HS.out hB).mono ?_
  rintro e w1 ⟨A1, c1, rfl, hown1, hb1⟩
  have HOWN1 := Lib.hid (ownsRow_own (ys := bg) (by rw [HM.out]; exact hown1)).2
  have HBB1 := Lib.hid hb1
  clear hown1 hb1
  go_wp2
  go_loopw [5, 14] (fun v ix wr => ∃ i : Nat, i ≤ n ∧ ix = .int .i64 (i : Int) ∧ Below w.heap.size w wr ∧ ∃ Ab lb cb, v = .slice Ab lb cb ∧ (best i).length = lb ∧ Own wr w.heap.size wr.heap.size Ab (best i)) (fun _ ix _ => n - (intOf ix).toNat)
  case atStart => exact ⟨0, Nat.zero_le _, rfl, HBB1.out, A1, m, c1, rfl, by rw [H0.out]; exact HM.out, by rw [H0.out]; exact HOWN1.out⟩
  case round =>
    obtain ⟨i, hi2, rfl, hb, Ab, lb, cb, rfl, hlb, hown⟩ := hrel
    have hz := hb.size
    have HB := Lib.hid hb
    have HLB := Lib.hid hlb
    have HOW := Lib.hid hown
    clear hlb hown
    by_cases hlt : i < n
    · obtain ⟨b, off, x, y, z, rfl, _, hbh, hx, c0, c1', c2'⟩ := (HSB.out.below hb hBb).tri (k := i) (by rw [HN.out]; exact hlt)
      have HXI := Lib.hid hx
      have hwo := (Below.refl wr.heap.size wr).alloc (Nat.le_refl _) (.cells #[.int .i64 x, .int .i64 y, .int .i64 z] 33)
      have hba := BoxAt.of (new_at wr (.cells #[.int .i64 x, .int .i64 y, .int .i64 z] 33) rfl)
      obtain ⟨wo, hwoe⟩ : ∃ wo, wr.alloc (.cells #[.int .i64 x, .int .i64 y, .int .i64 z] 33) = wo := ⟨_, rfl⟩
      rw [hwoe] at hwo hba
      have HWO := Lib.hid hwoe
      have HWB := Lib.hid hwo
      have HBO := Lib.hid (Below.refl wo.heap.size wo)
      have HBW := Lib.hid (HB.out.trans (hwo.mono hz))
      obtain ⟨gi, hgi⟩ : ∃ gi, gi = wr.heap.size := ⟨_, rfl⟩
      rw [← hgi] at hba
      have HGI := Lib.hid hgi
      clear hwoe hwo hx hgi
      rcases Nat.eq_zero_or_pos m with hm0 | hmp
      · have hbg0 : bg = [] := List.eq_nil_of_length_eq_zero (by rw [HM.out]; exact hm0)
        have HALL := Lib.hid (show (bg.all fun b => togL bs b (i : Int)) = true by rw [hbg0]; rfl)
        have hmd : decide ((m : Int) > 0) = false := by rw [decide_eq_false_iff_not]; omega
        have hmd2 : decide (0 < (m : Int)) = false := hmd
        have hmd3 : decide (0 < m) = false := by rw [decide_eq_false_iff_not]; omega
        have hmd4 : ¬ 0 < m := by omega
        clear hbg0 hba hm0
        go_wp2_with fail
        rw [HWO.out]
        refine wp_region_held_drew (S := (fun wq => Below wo.heap.size wo wq)) (by kernel_rfl) (below_drewN HBO.out 1) (fun hH0 => ?_)
        refine wpAnyH_take (i := 0) (v := ?_) (ops_at rfl) (by kernel_rfl) (by kernel_rfl) (by kernel_rfl) (fun _ _ _ h => h) (Or.inl ⟨by rfl, ?yb0⟩) (by assumption) ?nb0
        case yb0 => (intro wS hSw; (try dsimp only at hSw); go_simp; try rfl)
        try simp only [Act.put, List.setIfInBounds_toArray, List.set_cons_zero, List.set_cons_succ]
        refine wpAnyH_take (i := 1) (v := ?_) (ops_at rfl) (by kernel_rfl) (by kernel_rfl) (by kernel_rfl) (fun _ _ _ h => h) (Or.inl ⟨by rfl, ?yb1⟩) (by assumption) ?nb1
        case yb1 => (intro wS hSw; (try dsimp only at hSw); go_simp; try rfl)
        try simp only [Act.put, List.setIfInBounds_toArray, List.set_cons_zero, List.set_cons_succ]
        refine wpAnyH_take (i := 2) (v := ?_) (ops_at rfl) (by kernel_rfl) (by kernel_rfl) (by kernel_rfl) (fun _ _ _ h => h) (Or.inl ⟨by rfl, ?yb2⟩) (by assumption) ?nb2
        case yb2 => (intro wS hSw; (try dsimp only at hSw); go_simp; try rfl)
        try simp only [Act.put, List.setIfInBounds_toArray, List.set_cons_zero, List.set_cons_succ]
        refine wpAnyH_take (i := 3) (v := undef) (ops_at rfl) (by kernel_rfl) (by kernel_rfl) (by kernel_rfl) (fun _ _ _ h => h) (Or.inr ⟨by rfl, rfl⟩) (by assumption) ?_
        try simp only [Act.put, List.setIfInBounds_toArray, List.set_cons_zero, List.set_cons_succ]
        refine wpAnyH_take (i := 4) (v := undef) (ops_at rfl) (by kernel_rfl) (by kernel_rfl) (by kernel_rfl) (fun _ _ _ h => h) (Or.inr ⟨by rfl, rfl⟩) (by assumption) ?_
        try simp only [Act.put, List.setIfInBounds_toArray, List.set_cons_zero, List.set_cons_succ]
        refine wpAnyH_take (i := 5) (v := undef) (ops_at rfl) (by kernel_rfl) (by kernel_rfl) (by kernel_rfl) (fun _ _ _ h => h) (Or.inr ⟨by rfl, rfl⟩) (by assumption) ?_
        try simp only [Act.put, List.setIfInBounds_toArray, List.set_cons_zero, List.set_cons_succ]
        refine wpAnyH_take (i := 6) (v := undef) (ops_at rfl) (by kernel_rfl) (by kernel_rfl) (by kernel_rfl) (fun _ _ _ h => h) (Or.inr ⟨by rfl, rfl⟩) (by assumption) ?_
        try simp only [Act.put, List.setIfInBounds_toArray, List.set_cons_zero, List.set_cons_succ]
        refine wpAnyH_take (i := 7) (v := undef) (ops_at rfl) (by kernel_rfl) (by kernel_rfl) (by kernel_rfl) (fun _ _ _ h => h) (Or.inr ⟨by rfl, rfl⟩) (by assumption) ?_
        try simp only [Act.put, List.setIfInBounds_toArray, List.set_cons_zero, List.set_cons_succ]
        refine wpAnyH_take (i := 8) (v := undef) (ops_at rfl) (by kernel_rfl) (by kernel_rfl) (by kernel_rfl) (fun _ _ _ h => h) (Or.inr ⟨by rfl, rfl⟩) (by assumption) ?_
        try simp only [Act.put, List.setIfInBounds_toArray, List.set_cons_zero, List.set_cons_succ]
        refine wpAnyH_take (i := 9) (v := undef) (ops_at rfl) (by kernel_rfl) (by kernel_rfl) (by kernel_rfl) (fun _ _ _ h => h) (Or.inr ⟨by rfl, rfl⟩) (by assumption) ?_
        try simp only [Act.put, List.setIfInBounds_toArray, List.set_cons_zero, List.set_cons_succ]
        refine wpAnyH_take (i := 10) (v := undef) (ops_at rfl) (by kernel_rfl) (by kernel_rfl) (by kernel_rfl) (fun _ _ _ h => h) (Or.inr ⟨by rfl, rfl⟩) (by assumption) ?_
        try simp only [Act.put, List.setIfInBounds_toArray, List.set_cons_zero, List.set_cons_succ]
        refine wpAnyH_take (i := 11) (v := undef) (ops_at rfl) (by kernel_rfl) (by kernel_rfl) (by kernel_rfl) (fun _ _ _ h => h) (Or.inr ⟨by rfl, rfl⟩) (by assumption) ?_
        try simp only [Act.put, List.setIfInBounds_toArray, List.set_cons_zero, List.set_cons_succ]
        refine wpAnyH_take (i := 12) (v := undef) (ops_at rfl) (by kernel_rfl) (by kernel_rfl) (by kernel_rfl) (fun _ _ _ h => h) (Or.inr ⟨by rfl, rfl⟩) (by assumption) ?_
        try simp only [Act.put, List.setIfInBounds_toArray, List.set_cons_zero, List.set_cons_succ]
        refine wpAnyH_take (i := 13) (v := undef) (ops_at rfl) (by kernel_rfl) (by kernel_rfl) (by kernel_rfl) (fun _ _ _ h => h) (Or.inr ⟨by rfl, rfl⟩) (by assumption) ?_
        try simp only [Act.put, List.setIfInBounds_toArray, List.set_cons_zero, List.set_cons_succ]
        refine wpAnyH_take (i := 14) (v := ?_) (ops_at rfl) (by kernel_rfl) (by kernel_rfl) (by kernel_rfl) (fun _ _ _ h => h) (Or.inl ⟨by rfl, ?yb14⟩) (by assumption) ?nb14
        case yb14 => (intro wS hSw; (try dsimp only at hSw); go_simp; try rfl)
        try simp only [Act.put, List.setIfInBounds_toArray, List.set_cons_zero, List.set_cons_succ]
        refine wpAnyH_done (by kernel_rfl) ?_ _
        clear hmd hmd2 hmd3 hmd4
        have hzd : wo.drew.heap.size = wo.heap.size := rfl
        have hbc := HBW.out.trans (hH0.mono HBW.out.size)
        have hbw := (HWB.out.trans (hH0.mono HWB.out.size))
        have hzc := hbc.size
        have HBC := Lib.hid hbc
        have HPS := Lib.hid (HS.out.below hbc hB)
        have HSC := Lib.hid (HSB.out.below hbc hBb)
        have HOC := Lib.hid ((HOW.out.below hbw (Nat.le_refl _)).more (Nat.le_refl _) hbw.size)
        clear hbc hbw
        go_wp2_with fail
        refine (l1Own_any P m d bg lo' hi' _ HM.out (by omega) HPS.out (by omega)).mono ?_
        rintro e w2 ⟨A2, c2, rfl, hown2, hb2⟩
        have hz2' := hb2.size
        have HOW2 := Lib.hid (hown2.alloc (.cells #[.int .i64 (i : Int)] 3))
        have HS1 := Lib.hid (seg_one w2 (i : Int) 3)
        have HLT2 := Lib.hid hown2.lt
        have HBB2 := Lib.hid hb2
        clear hown2 hb2
        go_wp2_with (at_builtin; refine wpList_append_seg _ rfl _ _ 39 rfl _ 3 i0 Try.underlying39 hi0 hz0 hz1 hz2 _ m _ rfl HOW2.out _ 1 1 [(i : Int)] _ _ rfl rfl HS1.out (by omega) (by simp; omega) ?_; intro v3 w3 hown3 hgr3; obtain ⟨A3, c3, rfl⟩ := ownsRow_form hown3; have hb3 := ((HBB2.out.alloc hz2' (.cells #[.int .i64 (i : Int)] 3)).grown hgr3 (by simp; omega) (fun g' hg' => (HLT2.out g' hg').1)); have HZ3 := Lib.hid hb3.size; have HB3 := Lib.hid (HBC.out.trans (hb3.mono hzc)); have HO3 := Lib.hid (HOC.out.below hb3 (Nat.le_refl _)); have HR3 := Lib.hid (own_snoc HM.out hown3).seg; clear hown3 hgr3 hb3)
        refine (HREC.out i hlt HALL.out A3 (m + 1) c3 _ _ w3 (by rw [List.length_append, HM.out]; rfl) HR3.out (Nat.le_refl _) (HSB.out.below HB3.out hBb) (by have := HB3.out.size; omega)).mono ?_
        rintro e w4 ⟨A4, n4, c4, rfl, hl4, hown4, hb4⟩
        have HB4 := Lib.hid (HB3.out.trans (hb4.mono HB3.out.size))
        have HO4 := Lib.hid ((HO3.out.more (Nat.le_refl _) HZ3.out).below hb4 (Nat.le_refl _))
        have HZ4 := Lib.hid hb4.size
        have HL4 := Lib.hid hl4
        have HN4 := Lib.hid (hown4.more (lo' := w.heap.size) (by have := HB3.out.size; omega) (Nat.le_refl _))
        have h4le : n4 ≤ 200 := by rw [← hl4]; exact HOL.out i
        clear hl4 hown4 hb4
        by_cases hlong : lb < n4
        · have hlong' : (lb : Int) < (n4 : Int) := by omega
          have HTK := Lib.hid (show best (i + 1) = other i by rw [HTAKE.out i hlt HALL.out, if_pos (by rw [HLB.out, HL4.out]; exact hlong)])
          go_wp2
          go_roundw
          case rel => exact ⟨i + 1, by omega, by go_num, HB4.out, A4, n4, c4, rfl, by rw [HTK.out]; exact HL4.out, by rw [HTK.out]; exact HN4.out⟩
          case measure => simp [intOf]; omega
        · have hlong' : ¬ (lb : Int) < (n4 : Int) := by omega
          have HTK := Lib.hid (show best (i + 1) = best i by rw [HTAKE.out i hlt HALL.out, if_neg (by rw [HLB.out, HL4.out]; exact hlong)])
          go_wp2
          go_roundw
          case rel => exact ⟨i + 1, by omega, by go_num, HB4.out, Ab, lb, cb, rfl, by rw [HTK.out]; exact HLB.out, by rw [HTK.out]; exact HO4.out.more (Nat.le_refl _) HZ4.out⟩
          case measure => simp [intOf]; omega
      · obtain ⟨p, hp⟩ : ∃ p, m = p + 1 := ⟨m - 1, by omega⟩
        have hpl : bg[p]? = some (bg[p]'(by rw [HM.out]; omega)) := List.getElem?_eq_getElem _
        have hlr := HBG.out _ (List.mem_of_getElem? hpl)
        obtain ⟨ln, hln⟩ : ∃ ln : Nat, bg[p]'(by rw [HM.out]; omega) = (ln : Int) := ⟨(bg[p]'(by rw [HM.out]; omega)).toNat, by omega⟩
        rw [hln] at hpl hlr
        have hlst : bg.getLast? = some (ln : Int) := by rw [List.getLast?_eq_getElem?, HM.out, hp, show p + 1 - 1 = p by omega]; exact hpl
        have HEQ := Lib.hid (HLAST.out (ln : Int) i hlst hlt)
        obtain ⟨gq, oq, lq, rfl, _, hqh, hlq, hcq⟩ := HS.out.at_ (k := p) (by rw [HM.out]; omega)
        obtain rfl : (ln : Int) = lq := by rw [hpl] at hlq; injection hlq
        have hcl : wo.cell? ⟨gq, oq + p, none⟩ = some (.int .i64 (ln : Int)) := (HBW.out.cell (by exact Nat.lt_of_lt_of_le hqh hB)).trans hcq
        obtain ⟨b2, off2, x', y', z', hA, _, _, hx', d0, d1, d2⟩ := (HSB.out.below HBW.out hBb).tri (k := ln) (by rw [HN.out]; omega)
        obtain ⟨rfl, rfl⟩ : b = b2 ∧ off = off2 := by injection hA with hA; injection hA with h1 h2; exact ⟨h1, h2⟩
        obtain ⟨a0, a1, a2⟩ := hba
        obtain ⟨f, hf⟩ : ∃ f, fitT (x', y', z') (x, y, z) = f := ⟨_, rfl⟩
        have HF := Lib.hid hf
        have HALLF := Lib.hid (show (bg.all fun b => togL bs b (i : Int)) = f by rw [HEQ.out, togL, ← hf]; exact fitL_at hx' HXI.out)
        have hmd : decide ((m : Int) > 0) = true := by rw [decide_eq_true_iff]; omega
        have hwr : IntKind.i64.wrap ((m : Int) - 1) = (p : Int) := by
          have h : ((m : Int) - 1) = (p : Int) := by omega
          rw [h, IntKind.wrap_i64]
          omega
        have hpm : (p : Int) < (m : Int) := by omega
        have hp0 : (0 : Int) ≤ (p : Int) := by omega
        have hlnn : (ln : Int) < (n : Int) := hlr.2
        have HPP := Lib.hid hp
        clear hp hpl hln hlst hlq hcq hA hx' hf
        cases f
        · go_wp2_with fail
          rw [HWO.out, ← HGI.out]
          refine wp_region_held_drew (S := (fun wq => Below wo.heap.size wo wq ∧ wq.cell? ⟨b, off + ln * 3, none⟩ = some (.int .i64 x') ∧ wq.cell? ⟨b, off + ln * 3 + 1, none⟩ = some (.int .i64 y') ∧ wq.cell? ⟨b, off + ln * 3 + 2, none⟩ = some (.int .i64 z') ∧ wq.cell? ⟨gi, 0, none⟩ = some (.int .i64 x) ∧ wq.cell? ⟨gi, 1, none⟩ = some (.int .i64 y) ∧ wq.cell? ⟨gi, 2, none⟩ = some (.int .i64 z) ∧ wq.cell? ⟨gq, oq + p, none⟩ = some (.int .i64 (ln : Int)))) (by kernel_rfl) ⟨below_drewN HBO.out 1, d0, d1, d2, a0, a1, a2, hcl⟩ (fun hH0 => ?_)
          refine wpAnyH_take (i := 0) (v := ?_) (ops_at rfl) (by kernel_rfl) (by kernel_rfl) (by kernel_rfl) (fun _ _ _ h => h) (Or.inl ⟨by rfl, ?ya0⟩) (by assumption) ?na0
          case ya0 => (intro wS hSw; (try dsimp only at hSw); go_simp; try rfl)
          try simp only [Act.put, List.setIfInBounds_toArray, List.set_cons_zero, List.set_cons_succ]
          refine wpAnyH_take (i := 1) (v := ?_) (ops_at rfl) (by kernel_rfl) (by kernel_rfl) (by kernel_rfl) (fun _ _ _ h => h) (Or.inl ⟨by rfl, ?ya1⟩) (by assumption) ?na1
          case ya1 => (intro wS hSw; (try dsimp only at hSw); go_simp; try rfl)
          try simp only [Act.put, List.setIfInBounds_toArray, List.set_cons_zero, List.set_cons_succ]
          refine wpAnyH_take (i := 2) (v := ?_) (ops_at rfl) (by kernel_rfl) (by kernel_rfl) (by kernel_rfl) (fun _ _ _ h => h) (Or.inl ⟨by rfl, ?ya2⟩) (by assumption) ?na2
          case ya2 => (intro wS hSw; (try dsimp only at hSw); go_simp; try rfl)
          try simp only [Act.put, List.setIfInBounds_toArray, List.set_cons_zero, List.set_cons_succ]
          refine wpAnyH_take (i := 3) (v := ?_) (ops_at rfl) (by kernel_rfl) (by kernel_rfl) (by kernel_rfl) (fun _ _ _ h => h) (Or.inl ⟨by rfl, ?ya3⟩) (by assumption) ?na3
          case ya3 => (intro wS hSw; (try dsimp only at hSw); go_simp; try rfl)
          try simp only [Act.put, List.setIfInBounds_toArray, List.set_cons_zero, List.set_cons_succ]
          refine wpAnyH_take (i := 4) (v := ?_) (ops_at rfl) (by kernel_rfl) (by kernel_rfl) (by kernel_rfl) (fun _ _ _ h => h) (Or.inl ⟨by rfl, ?ya4⟩) (by assumption) ?na4
          case ya4 => (intro wS hSw; (try dsimp only at hSw); go_simp; try rfl)
          try simp only [Act.put, List.setIfInBounds_toArray, List.set_cons_zero, List.set_cons_succ]
          refine wpAnyH_take (i := 5) (v := ?_) (ops_at rfl) (by kernel_rfl) (by kernel_rfl) (by kernel_rfl) (fun _ _ _ h => h) (Or.inl ⟨by rfl, ?ya5⟩) (by assumption) ?na5
          case ya5 => (intro wS hSw; (try dsimp only at hSw); go_simp; try rfl)
          try simp only [Act.put, List.setIfInBounds_toArray, List.set_cons_zero, List.set_cons_succ]
          refine wpAnyH_take (i := 6) (v := ?_) (ops_at rfl) (by kernel_rfl) (by kernel_rfl) (by kernel_rfl) (fun _ _ _ h => h) (Or.inl ⟨by rfl, ?ya6⟩) (by assumption) ?na6
          case ya6 => (intro wS hSw; (try dsimp only at hSw); go_simp; try rfl)
          try simp only [Act.put, List.setIfInBounds_toArray, List.set_cons_zero, List.set_cons_succ]
          refine wpAnyH_take (i := 7) (v := ?_) (ops_at rfl) (by kernel_rfl) (by kernel_rfl) (by kernel_rfl) (fun _ _ _ h => h) (Or.inl ⟨by rfl, ?ya7⟩) (by assumption) ?na7
          case ya7 => (intro wS hSw; (try dsimp only at hSw); go_simp; try rfl)
          try simp only [Act.put, List.setIfInBounds_toArray, List.set_cons_zero, List.set_cons_succ]
          refine wpAnyH_take (i := 8) (v := ?_) (ops_at rfl) (by kernel_rfl) (by kernel_rfl) (by kernel_rfl) (fun _ _ _ h => h) (Or.inl ⟨by rfl, ?ya8⟩) (by assumption) ?na8
          case ya8 => (intro wS hSw; (try dsimp only at hSw); go_simp; try rfl)
          try simp only [Act.put, List.setIfInBounds_toArray, List.set_cons_zero, List.set_cons_succ]
          refine wpAnyH_take (i := 9) (v := ?_) (ops_at rfl) (by kernel_rfl) (by kernel_rfl) (by kernel_rfl) (fun _ _ _ h => h) (Or.inl ⟨by rfl, ?ya9⟩) (by assumption) ?na9
          case ya9 => (intro wS hSw; (try dsimp only at hSw); go_simp; try rfl)
          try simp only [Act.put, List.setIfInBounds_toArray, List.set_cons_zero, List.set_cons_succ]
          refine wpAnyH_take (i := 10) (v := ?_) (ops_at rfl) (by kernel_rfl) (by kernel_rfl) (by kernel_rfl) (fun _ _ _ h => h) (Or.inl ⟨by rfl, ?ya10⟩) (by assumption) ?na10
          case ya10 => (intro wS hSw; (try dsimp only at hSw); go_simp; try rfl)
          try simp only [Act.put, List.setIfInBounds_toArray, List.set_cons_zero, List.set_cons_succ]
          refine wpAnyH_take (i := 11) (v := ?_) (ops_at rfl) (by kernel_rfl) (by kernel_rfl) (by kernel_rfl) (fun _ _ _ h => h) (Or.inl ⟨by rfl, ?ya11⟩) (by assumption) ?na11
          case ya11 => (intro wS hSw; (try dsimp only at hSw); go_simp; try rfl)
          try simp only [Act.put, List.setIfInBounds_toArray, List.set_cons_zero, List.set_cons_succ]
          refine wpAnyH_ready (rs := [12]) (by kernel_rfl) (by simp) ?_
          refine AllReadyH.cons (ops_at rfl) (fun K hK => ?_) AllReadyH.nil
          go_simp
          refine (neFits_any _ _ _ _ _ _ _ _ HF.out).mono ?_
          rintro e w1 ⟨rfl, hb1⟩
          refine hK.out _ _ ⟨(hH0.1).trans (hb1.mono (hH0.1).size), (hb1.cell (by have := cell_lt hH0.2.1; exact this)).trans hH0.2.1, (hb1.cell (by have := cell_lt hH0.2.2.1; exact this)).trans hH0.2.2.1, (hb1.cell (by have := cell_lt hH0.2.2.2.1; exact this)).trans hH0.2.2.2.1, (hb1.cell (by have := cell_lt hH0.2.2.2.2.1; exact this)).trans hH0.2.2.2.2.1, (hb1.cell (by have := cell_lt hH0.2.2.2.2.2.1; exact this)).trans hH0.2.2.2.2.2.1, (hb1.cell (by have := cell_lt hH0.2.2.2.2.2.2.1; exact this)).trans hH0.2.2.2.2.2.2.1, (hb1.cell (by have := cell_lt hH0.2.2.2.2.2.2.2; exact this)).trans hH0.2.2.2.2.2.2.2⟩ (fun hHa12 => ?_)
          clear hK K
          refine wpAnyH_take (i := 13) (v := ?_) (ops_at rfl) (by kernel_rfl) (by kernel_rfl) (by kernel_rfl) (fun _ _ _ h => h) (Or.inl ⟨by rfl, ?ya13⟩) (by assumption) ?na13
          case ya13 => (intro wS hSw; (try dsimp only at hSw); go_simp; try rfl)
          try simp only [Act.put, List.setIfInBounds_toArray, List.set_cons_zero, List.set_cons_succ]
          refine wpAnyH_take (i := 14) (v := ?_) (ops_at rfl) (by kernel_rfl) (by kernel_rfl) (by kernel_rfl) (fun _ _ _ h => h) (Or.inl ⟨by rfl, ?ya14⟩) (by assumption) ?na14
          case ya14 => (intro wS hSw; (try dsimp only at hSw); go_simp; try rfl)
          try simp only [Act.put, List.setIfInBounds_toArray, List.set_cons_zero, List.set_cons_succ]
          refine wpAnyH_done (by kernel_rfl) ?_ _
          go_wp2
          go_roundw
          case rel => exact ⟨i + 1, by omega, by go_num, HBW.out.trans (hHa12.1.mono HBW.out.size), Ab, lb, cb, rfl, by rw [HSKIP.out i hlt HALLF.out]; exact HLB.out, by rw [HSKIP.out i hlt HALLF.out]; exact ((HOW.out.below HWB.out (Nat.le_refl _)).below (hHa12.1.mono HWB.out.size) (Nat.le_refl _)).more (Nat.le_refl _) (Nat.le_trans HWB.out.size hHa12.1.size)⟩
          case measure => simp [intOf]; omega
        · have HALL := Lib.hid HALLF.out
          go_wp2_with fail
          rw [HWO.out, ← HGI.out]
          refine wp_region_held_drew (S := (fun wq => Below wo.heap.size wo wq ∧ wq.cell? ⟨b, off + ln * 3, none⟩ = some (.int .i64 x') ∧ wq.cell? ⟨b, off + ln * 3 + 1, none⟩ = some (.int .i64 y') ∧ wq.cell? ⟨b, off + ln * 3 + 2, none⟩ = some (.int .i64 z') ∧ wq.cell? ⟨gi, 0, none⟩ = some (.int .i64 x) ∧ wq.cell? ⟨gi, 1, none⟩ = some (.int .i64 y) ∧ wq.cell? ⟨gi, 2, none⟩ = some (.int .i64 z) ∧ wq.cell? ⟨gq, oq + p, none⟩ = some (.int .i64 (ln : Int)))) (by kernel_rfl) ⟨below_drewN HBO.out 1, d0, d1, d2, a0, a1, a2, hcl⟩ (fun hH0 => ?_)
          refine wpAnyH_take (i := 0) (v := ?_) (ops_at rfl) (by kernel_rfl) (by kernel_rfl) (by kernel_rfl) (fun _ _ _ h => h) (Or.inl ⟨by rfl, ?yc0⟩) (by assumption) ?nc0
          case yc0 => (intro wS hSw; (try dsimp only at hSw); go_simp; try rfl)
          try simp only [Act.put, List.setIfInBounds_toArray, List.set_cons_zero, List.set_cons_succ]
          refine wpAnyH_take (i := 1) (v := ?_) (ops_at rfl) (by kernel_rfl) (by kernel_rfl) (by kernel_rfl) (fun _ _ _ h => h) (Or.inl ⟨by rfl, ?yc1⟩) (by assumption) ?nc1
          case yc1 => (intro wS hSw; (try dsimp only at hSw); go_simp; try rfl)
          try simp only [Act.put, List.setIfInBounds_toArray, List.set_cons_zero, List.set_cons_succ]
          refine wpAnyH_take (i := 2) (v := ?_) (ops_at rfl) (by kernel_rfl) (by kernel_rfl) (by kernel_rfl) (fun _ _ _ h => h) (Or.inl ⟨by rfl, ?yc2⟩) (by assumption) ?nc2
          case yc2 => (intro wS hSw; (try dsimp only at hSw); go_simp; try rfl)
          try simp only [Act.put, List.setIfInBounds_toArray, List.set_cons_zero, List.set_cons_succ]
          refine wpAnyH_take (i := 3) (v := ?_) (ops_at rfl) (by kernel_rfl) (by kernel_rfl) (by kernel_rfl) (fun _ _ _ h => h) (Or.inl ⟨by rfl, ?yc3⟩) (by assumption) ?nc3
          case yc3 => (intro wS hSw; (try dsimp only at hSw); go_simp; try rfl)
          try simp only [Act.put, List.setIfInBounds_toArray, List.set_cons_zero, List.set_cons_succ]
          refine wpAnyH_take (i := 4) (v := ?_) (ops_at rfl) (by kernel_rfl) (by kernel_rfl) (by kernel_rfl) (fun _ _ _ h => h) (Or.inl ⟨by rfl, ?yc4⟩) (by assumption) ?nc4
          case yc4 => (intro wS hSw; (try dsimp only at hSw); go_simp; try rfl)
          try simp only [Act.put, List.setIfInBounds_toArray, List.set_cons_zero, List.set_cons_succ]
          refine wpAnyH_take (i := 5) (v := ?_) (ops_at rfl) (by kernel_rfl) (by kernel_rfl) (by kernel_rfl) (fun _ _ _ h => h) (Or.inl ⟨by rfl, ?yc5⟩) (by assumption) ?nc5
          case yc5 => (intro wS hSw; (try dsimp only at hSw); go_simp; try rfl)
          try simp only [Act.put, List.setIfInBounds_toArray, List.set_cons_zero, List.set_cons_succ]
          refine wpAnyH_take (i := 6) (v := ?_) (ops_at rfl) (by kernel_rfl) (by kernel_rfl) (by kernel_rfl) (fun _ _ _ h => h) (Or.inl ⟨by rfl, ?yc6⟩) (by assumption) ?nc6
          case yc6 => (intro wS hSw; (try dsimp only at hSw); go_simp; try rfl)
          try simp only [Act.put, List.setIfInBounds_toArray, List.set_cons_zero, List.set_cons_succ]
          refine wpAnyH_take (i := 7) (v := ?_) (ops_at rfl) (by kernel_rfl) (by kernel_rfl) (by kernel_rfl) (fun _ _ _ h => h) (Or.inl ⟨by rfl, ?yc7⟩) (by assumption) ?nc7
          case yc7 => (intro wS hSw; (try dsimp only at hSw); go_simp; try rfl)
          try simp only [Act.put, List.setIfInBounds_toArray, List.set_cons_zero, List.set_cons_succ]
          refine wpAnyH_take (i := 8) (v := ?_) (ops_at rfl) (by kernel_rfl) (by kernel_rfl) (by kernel_rfl) (fun _ _ _ h => h) (Or.inl ⟨by rfl, ?yc8⟩) (by assumption) ?nc8
          case yc8 => (intro wS hSw; (try dsimp only at hSw); go_simp; try rfl)
          try simp only [Act.put, List.setIfInBounds_toArray, List.set_cons_zero, List.set_cons_succ]
          refine wpAnyH_take (i := 9) (v := ?_) (ops_at rfl) (by kernel_rfl) (by kernel_rfl) (by kernel_rfl) (fun _ _ _ h => h) (Or.inl ⟨by rfl, ?yc9⟩) (by assumption) ?nc9
          case yc9 => (intro wS hSw; (try dsimp only at hSw); go_simp; try rfl)
          try simp only [Act.put, List.setIfInBounds_toArray, List.set_cons_zero, List.set_cons_succ]
          refine wpAnyH_take (i := 10) (v := ?_) (ops_at rfl) (by kernel_rfl) (by kernel_rfl) (by kernel_rfl) (fun _ _ _ h => h) (Or.inl ⟨by rfl, ?yc10⟩) (by assumption) ?nc10
          case yc10 => (intro wS hSw; (try dsimp only at hSw); go_simp; try rfl)
          try simp only [Act.put, List.setIfInBounds_toArray, List.set_cons_zero, List.set_cons_succ]
          refine wpAnyH_take (i := 11) (v := ?_) (ops_at rfl) (by kernel_rfl) (by kernel_rfl) (by kernel_rfl) (fun _ _ _ h => h) (Or.inl ⟨by rfl, ?yc11⟩) (by assumption) ?nc11
          case yc11 => (intro wS hSw; (try dsimp only at hSw); go_simp; try rfl)
          try simp only [Act.put, List.setIfInBounds_toArray, List.set_cons_zero, List.set_cons_succ]
          refine wpAnyH_ready (rs := [12]) (by kernel_rfl) (by simp) ?_
          refine AllReadyH.cons (ops_at rfl) (fun K hK => ?_) AllReadyH.nil
          go_simp
          refine (neFits_any _ _ _ _ _ _ _ _ HF.out).mono ?_
          rintro e w1 ⟨rfl, hb1⟩
          refine hK.out _ _ ⟨(hH0.1).trans (hb1.mono (hH0.1).size), (hb1.cell (by have := cell_lt hH0.2.1; exact this)).trans hH0.2.1, (hb1.cell (by have := cell_lt hH0.2.2.1; exact this)).trans hH0.2.2.1, (hb1.cell (by have := cell_lt hH0.2.2.2.1; exact this)).trans hH0.2.2.2.1, (hb1.cell (by have := cell_lt hH0.2.2.2.2.1; exact this)).trans hH0.2.2.2.2.1, (hb1.cell (by have := cell_lt hH0.2.2.2.2.2.1; exact this)).trans hH0.2.2.2.2.2.1, (hb1.cell (by have := cell_lt hH0.2.2.2.2.2.2.1; exact this)).trans hH0.2.2.2.2.2.2.1, (hb1.cell (by have := cell_lt hH0.2.2.2.2.2.2.2; exact this)).trans hH0.2.2.2.2.2.2.2⟩ (fun hHc12 => ?_)
          clear hK K
          refine wpAnyH_take (i := 13) (v := ?_) (ops_at rfl) (by kernel_rfl) (by kernel_rfl) (by kernel_rfl) (fun _ _ _ h => h) (Or.inl ⟨by rfl, ?yc13⟩) (by assumption) ?nc13
          case yc13 => (intro wS hSw; (try dsimp only at hSw); go_simp; try rfl)
          try simp only [Act.put, List.setIfInBounds_toArray, List.set_cons_zero, List.set_cons_succ]
          refine wpAnyH_take (i := 14) (v := ?_) (ops_at rfl) (by kernel_rfl) (by kernel_rfl) (by kernel_rfl) (fun _ _ _ h => h) (Or.inl ⟨by rfl, ?yc14⟩) (by assumption) ?nc14
          case yc14 => (intro wS hSw; (try dsimp only at hSw); go_simp; try rfl)
          try simp only [Act.put, List.setIfInBounds_toArray, List.set_cons_zero, List.set_cons_succ]
          refine wpAnyH_done (by kernel_rfl) ?_ _
          clear hmd hwr
          have hbc := HBW.out.trans (hHc12.1.mono HBW.out.size)
          have hbw := (HWB.out.trans (hHc12.1.mono HWB.out.size))
          have hzc := hbc.size
          have HBC := Lib.hid hbc
          have HPS := Lib.hid (HS.out.below hbc hB)
          have HSC := Lib.hid (HSB.out.below hbc hBb)
          have HOC := Lib.hid ((HOW.out.below hbw (Nat.le_refl _)).more (Nat.le_refl _) hbw.size)
          clear hbc hbw
          go_wp2_with fail
          refine (l1Own_any (some ⟨gq, oq, none⟩) m d bg lo' hi' _ HM.out (by omega) HPS.out (by omega)).mono ?_
          rintro e w2 ⟨A2, c2, rfl, hown2, hb2⟩
          have hz2' := hb2.size
          have HOW2 := Lib.hid (hown2.alloc (.cells #[.int .i64 (i : Int)] 3))
          have HS1 := Lib.hid (seg_one w2 (i : Int) 3)
          have HLT2 := Lib.hid hown2.lt
          have HBB2 := Lib.hid hb2
          clear hown2 hb2
          go_wp2_with (at_builtin; refine wpList_append_seg _ rfl _ _ 39 rfl _ 3 i0 Try.underlying39 hi0 hz0 hz1 hz2 _ m _ rfl HOW2.out _ 1 1 [(i : Int)] _ _ rfl rfl HS1.out (by omega) (by simp; omega) ?_; intro v3 w3 hown3 hgr3; obtain ⟨A3, c3, rfl⟩ := ownsRow_form hown3; have hb3 := ((HBB2.out.alloc hz2' (.cells #[.int .i64 (i : Int)] 3)).grown hgr3 (by simp; omega) (fun g' hg' => (HLT2.out g' hg').1)); have HZ3 := Lib.hid hb3.size; have HB3 := Lib.hid (HBC.out.trans (hb3.mono hzc)); have HO3 := Lib.hid (HOC.out.below hb3 (Nat.le_refl _)); have HR3 := Lib.hid (own_snoc HM.out hown3).seg; clear hown3 hgr3 hb3)
          refine (HREC.out i hlt HALL.out A3 (m + 1) c3 _ _ w3 (by rw [List.length_append, HM.out]; rfl) HR3.out (Nat.le_refl _) (HSB.out.below HB3.out hBb) (by have := HB3.out.size; omega)).mono ?_
          rintro e w4 ⟨A4, n4, c4, rfl, hl4, hown4, hb4⟩
          have HB4 := Lib.hid (HB3.out.trans (hb4.mono HB3.out.size))
          have HO4 := Lib.hid ((HO3.out.more (Nat.le_refl _) HZ3.out).below hb4 (Nat.le_refl _))
          have HZ4 := Lib.hid hb4.size
          have HL4 := Lib.hid hl4
          have HN4 := Lib.hid (hown4.more (lo' := w.heap.size) (by have := HB3.out.size; omega) (Nat.le_refl _))
          have h4le : n4 ≤ 200 := by rw [← hl4]; exact HOL.out i
          clear hl4 hown4 hb4
          by_cases hlong : lb < n4
          · have hlong' : (lb : Int) < (n4 : Int) := by omega
            have HTK := Lib.hid (show best (i + 1) = other i by rw [HTAKE.out i hlt HALL.out, if_pos (by rw [HLB.out, HL4.out]; exact hlong)])
            go_wp2
            go_roundw
            case rel => exact ⟨i + 1, by omega, by go_num, HB4.out, A4, n4, c4, rfl, by rw [HTK.out]; exact HL4.out, by rw [HTK.out]; exact HN4.out⟩
            case measure => simp [intOf]; omega
          · have hlong' : ¬ (lb : Int) < (n4 : Int) := by omega
            have HTK := Lib.hid (show best (i + 1) = best i by rw [HTAKE.out i hlt HALL.out, if_neg (by rw [HLB.out, HL4.out]; exact hlong)])
            go_wp2
            go_roundw
            case rel => exact ⟨i + 1, by omega, by go_num, HB4.out, Ab, lb, cb, rfl, by rw [HTK.out]; exact HLB.out, by rw [HTK.out]; exact HO4.out.more (Nat.le_refl _) HZ4.out⟩
            case measure => simp [intOf]; omega
    · obtain rfl : i = n := by omega
      go_wp2
      go_ret
      exact ⟨Ab, lb, cb, rfl, HLB.out, HOW.out, HB.out⟩

set_option maxHeartbeats 1000000 in
theorem neLongest_any (A : Option Addr) (n c : Nat) (bs : List (Int × Int × Int)) (hn : bs.length = n) (hn7 : n ≤ 7) (f : Nat) :
    ∀ (bg : List Int) (P : Option Addr) (m d : Nat) (lo hi lo' hi' : Nat) (w : World), bg.length = m → m + f ≤ 20 → (candsC (togL bs) (below n) bg).length ≤ f → (∀ x ∈ bg, 0 ≤ x ∧ x < (n : Int)) → lastOk (togL bs) n bg → Seg w lo' hi' P bg → hi' ≤ w.heap.size → Seg w lo hi A (flat3 bs) → hi ≤ w.heap.size →
      Calls Try.prog 73 #[.slice A n c, .slice P m d] w (RetO (bg ++ mostT (togL bs) f (candsC (togL bs) (below n) bg)) w) := by
  have nocand : ∀ (bg : List Int) i, i < n → (bg.all fun b => togL bs b (i : Int)) = true → (i : Int) ∈ candsC (togL bs) (below n) bg := by
    intro bg i hi h
    rw [candsC, List.mem_filter]
    exact ⟨List.mem_of_getElem? (below_at hi), h⟩
  induction f with
  | zero =>
    intro bg P m d lo hi lo' hi' w hm hmf hc hx hl hs hB hsb hBb
    have he : candsC (togL bs) (below n) bg = [] := List.eq_nil_of_length_eq_zero (by omega)
    have h := neLongest_body A P n c m d bs bg lo hi lo' hi' w (fun _ => bg) (fun _ => []) hn hn7 hm (by omega) hx hl hs hB hsb hBb rfl (fun _ _ _ => rfl)
      (fun i hi h => by have := nocand bg i hi h; rw [he] at this; cases this) (fun _ => by simp) (fun i hi h => by have := nocand bg i hi h; rw [he] at this; cases this)
    simpa [mostT] using h
  | succ f ih =>
    intro bg P m d lo hi lo' hi' w hm hmf hc hx hl hs hB hsb hBb
    have h := neLongest_body A P n c m d bs bg lo hi lo' hi' w (fun i => bestC (togL bs) f n i bg) (fun i => (bg ++ [(i : Int)]) ++ mostT (togL bs) f (candsC (togL bs) (below n) (bg ++ [(i : Int)]))) hn hn7 hm (by omega) hx hl hs hB hsb hBb (bestC_zero _ _ _ _)
      (fun i hin h => bestC_skip hin h) (fun i hin h => bestC_take hin h) (fun i => by
        have := mostT_length (togL bs) f (candsC (togL bs) (below n) (bg ++ [(i : Int)]))
        simp only [List.length_append, List.length_cons, List.length_nil]
        omega)
      (fun i hin h P2 m2 d2 lo2 hi2 w2 hm2 hs2 hB2 hsb2 hBb2 => ih (bg ++ [(i : Int)]) P2 m2 d2 lo hi lo2 hi2 w2 hm2 (by rw [← hm2, List.length_append, hm]; simp; omega) (cands_less (togL_self bs) hin h hc) (fun x hxm => by
        rcases List.mem_append.1 hxm with hxm | hxm
        · exact hx x hxm
        · rw [List.mem_singleton.1 hxm]; omega) (lastOk_snoc h) hs2 hB2 hsb2 hBb2)
    rw [bestC_end] at h
    exact h
end Go.Proofs.Ytkconbcmbpmghaa

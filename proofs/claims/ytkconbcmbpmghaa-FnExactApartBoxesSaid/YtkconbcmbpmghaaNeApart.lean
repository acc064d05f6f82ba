/-
  The checking program's boxes apart; both laws' contracts.
  Conditions: the list has at most 1048576 boxes.
-/
import Derived.Test.YtkconbcmbpmghaaNeLong
namespace Go.Proofs.Ytkconbcmbpmghaa
set_option linter.unusedVariables false
open Go.RowKit

def apartB (bs : List (Int × Int × Int)) (i : Nat) (b : Int) : Bool := (!fitL bs b.toNat i) && !fitL bs i b.toNat
/-- Where the search goes on. -/
def fromN (bg : List Int) : Nat := match bg.getLast? with
  | none => 0
  | some l => l.toNat + 1
theorem fromN_snoc (bg : List Int) (i : Nat) : fromN (bg ++ [(i : Int)]) = i + 1 := by simp [fromN]
/-- All are before that. -/
def upTo (n : Nat) (bg : List Int) : Prop := ∀ b ∈ bg, 0 ≤ b ∧ b < (n : Int) ∧ b < (fromN bg : Int)
theorem upTo_nil (n : Nat) : upTo n [] := fun b h => by cases h
theorem upTo_snoc {n i : Nat} {bg : List Int} (h : upTo n bg) (hi : i < n) (hf : fromN bg ≤ i) : upTo n (bg ++ [(i : Int)]) := by
  intro b hb
  rw [fromN_snoc]
  rcases List.mem_append.1 hb with hb | hb
  · have := h b hb
    omega
  · rw [List.mem_singleton.1 hb]
    omega
theorem apart_all {bs : List (Int × Int × Int)} {n i : Nat} {bg : List Int} (h : upTo n bg) (hf : fromN bg ≤ i) : (bg.all fun b => togA bs b (i : Int)) = bg.all (apartB bs i) := by
  have hc : ∀ b ∈ bg, togA bs b (i : Int) = apartB bs i b := by
    intro b hb
    have := h b hb
    rw [togA, apartB, decide_eq_true (by omega : b < (i : Int)), Bool.true_and]
    rfl
  rw [Bool.eq_iff_iff, List.all_eq_true, List.all_eq_true]
  exact ⟨fun hh b hb => by rw [← hc b hb]; exact hh b hb, fun hh b hb => by rw [hc b hb]; exact hh b hb⟩
theorem apart_before {bs : List (Int × Int × Int)} {n i : Nat} {bg : List Int} (h : upTo n bg) (hf : i < fromN bg) : (bg.all fun b => togA bs b (i : Int)) = false := by
  unfold fromN at hf
  split at hf
  · omega
  · rename_i l hl
    have hm := List.mem_of_getLast? hl
    have := h l hm
    refine List.all_eq_false.2 ⟨l, hm, ?_⟩
    rw [togA, decide_eq_false (by omega), Bool.false_and]
    simp
theorem all_next {bg : List Int} {p : Int → Bool} {j : Nat} {b : Int} (h : bg[j]? = some b) : (bg.take (j + 1)).all p = ((bg.take j).all p && p b) := by
  rw [take_snoc h, List.all_append]; simp

set_option maxRecDepth 100000 in
set_option maxHeartbeats 4000000 in
theorem neApart_body (A P : Option Addr) (n c m d : Nat) (bs : List (Int × Int × Int)) (bg : List Int) (lo hi lo' hi' : Nat) (w : World) (best other : Nat → List Int) (hn : bs.length = n) (hn7 : n ≤ 7) (hm : bg.length = m) (hm100 : m ≤ 100)
    (hup : upTo n bg) (hs : Seg w lo' hi' P bg) (hB : hi' ≤ w.heap.size) (hsb : Seg w lo hi A (flat3 bs)) (hBb : hi ≤ w.heap.size)
    (h0 : best 0 = bg) (hskip : ∀ i, i < n → (bg.all fun b => togA bs b (i : Int)) = false → best (i + 1) = best i)
    (htake : ∀ i, i < n → (bg.all fun b => togA bs b (i : Int)) = true → best (i + 1) = if (best i).length < (other i).length then other i else best i)
    (hol : ∀ i, (other i).length ≤ 200)
    (hrec : ∀ i, i < n → (bg.all fun b => togA bs b (i : Int)) = true → ∀ (P : Option Addr) (m d lo' hi' : Nat) (w : World), (bg ++ [(i : Int)]).length = m → Seg w lo' hi' P (bg ++ [(i : Int)]) → hi' ≤ w.heap.size → Seg w lo hi A (flat3 bs) → hi ≤ w.heap.size →
      Calls Try.prog 77 #[.slice A n c, .slice P m d] w (RetO (other i) w)) :
    Calls Try.prog 77 #[.slice A n c, .slice P m d] w (RetO (best n) w) := by
  obtain ⟨i0, hi0, hz0, hz1, hz2⟩ := info_parts int_info
  have hfrn : fromN bg ≤ n := by
    unfold fromN
    split
    · omega
    · rename_i l hl
      have := hup l (List.mem_of_getLast? hl)
      omega
  have hbf : ∀ i, i ≤ fromN bg → best i = bg := by
    intro i
    induction i with
    | zero => intro _; exact h0
    | succ i ih => intro hi; rw [hskip i (by omega) (apart_before hup (by omega))]; exact ih (by omega)
  have HN := Lib.hid hn
  have HM := Lib.hid hm
  have HUP := Lib.hid hup
  have HS := Lib.hid hs
  have HSB := Lib.hid hsb
  have HBF := Lib.hid (hbf _ (Nat.le_refl _))
  have HSKIP := Lib.hid hskip
  have HTAKE := Lib.hid htake
  have HOL := Lib.hid hol
  have HREC := Lib.hid hrec
  obtain ⟨fr, hfr⟩ : ∃ fr, fromN bg = fr := ⟨_, rfl⟩
  have HFR := Lib.hid hfr
  rw [hfr] at hfrn HBF
  have HLS := Lib.hid (show ∀ p, m = p + 1 → bg[p]? = some ((fr : Int) - 1) from fun p hp => by
    obtain ⟨l, hl⟩ : ∃ l, bg.getLast? = some l := by
      rcases h : bg.getLast? with _ | l
      · rw [List.getLast?_eq_none_iff] at h
        rw [h] at hm
        simp at hm
        omega
      · exact ⟨l, rfl⟩
    have h1 := hup l (List.mem_of_getLast? hl)
    rw [fromN, hl] at hfr
    rw [List.getLast?_eq_getElem?, hm, hp, show p + 1 - 1 = p by omega] at hl
    rw [hl]
    congr 1
    simp only at hfr
    omega)
  have HFZ := Lib.hid (show m = 0 → fr = 0 from fun h => by
    have : bg = [] := List.eq_nil_of_length_eq_zero (by omega)
    rw [← hfr, this]
    rfl)
  clear hn hm hup hs hsb h0 hskip htake hol hrec hbf hfr
  have loop : True := trivial
  go_enter Try.func77, Try.ntmps77
  go_wp2_with fail
  refine (l1Own_any P m d bg lo' hi' _ HM.out (by omega) HS.out hB).mono ?_
  rintro e w1 ⟨A1, c1, rfl, hown1, hb1⟩
  have HOWN1 := Lib.hid (ownsRow_own (ys := bg) (by rw [HM.out]; exact hown1)).2
  have HBB1 := Lib.hid hb1
  clear hown1 hb1
  rcases Nat.eq_zero_or_pos m with hm0 | hmp
  · have hmd : decide ((m : Int) > 0) = false := by rw [decide_eq_false_iff_not]; omega
    have hmd2 : decide (0 < (m : Int)) = false := hmd
    have hmd3 : decide (0 < m) = false := by rw [decide_eq_false_iff_not]; omega
    have hmd4 : ¬ 0 < m := by omega
    obtain rfl : fr = 0 := HFZ.out hm0
    have HM0 := Lib.hid hm0
    clear hm0
    go_wp2
    go_loopw [5, 8] (fun v ix wr => ∃ i : Nat, 0 ≤ i ∧ i ≤ n ∧ ix = .int .i64 (i : Int) ∧ Below w.heap.size w wr ∧ ∃ Ab lb cb, v = .slice Ab lb cb ∧ (best i).length = lb ∧ Own wr w.heap.size wr.heap.size Ab (best i)) (fun _ ix _ => n - (intOf ix).toNat)
    case atStart => exact ⟨0, Nat.le_refl _, hfrn, by first | rfl | (congr 1; omega), HBB1.out, A1, m, c1, rfl, by rw [HBF.out]; exact HM.out, by rw [HBF.out]; exact HOWN1.out⟩
    case round =>
      obtain ⟨i, hfi, hi2, rfl, hb, Ab, lb, cb, rfl, hlb, hown⟩ := hrel
      obtain ⟨wr0, hwr0⟩ : ∃ wr0, wr0 = wr := ⟨_, rfl⟩
      subst hwr0
      have hz := hb.size
      have HB := Lib.hid hb
      have HLB := Lib.hid hlb
      have HOW := Lib.hid hown
      clear hlb hown
      by_cases hlt : i < n
      · have HEQ := Lib.hid (apart_all (bs := bs) (i := i) HUP.out (by rw [HFR.out]; exact hfi))
        obtain ⟨b, off, x, y, z, rfl, _, hbh, hx, c0, c1', c2'⟩ := (HSB.out.below hb hBb).tri (k := i) (by rw [HN.out]; exact hlt)
        have HXI := Lib.hid hx
        clear hx
        go_wp2
        go_loopw [9, 34] (fun fv jx wr => ∃ j : Nat, ∃ q : Bool, j ≤ m ∧ jx = .int .i64 (j : Int) ∧ fv = .bool q ∧ (bg.take j).all (apartB bs i) = q ∧ Below wr0.heap.size wr0 wr) (fun _ jx _ => m - (intOf jx).toNat)
        case atStart => exact ⟨0, true, Nat.zero_le _, rfl, rfl, by simp, Below.refl _ _⟩
        case round =>
          obtain ⟨j, q, hj, rfl, rfl, hq, hbj⟩ := hrel
          obtain ⟨wo, hwo⟩ : ∃ wo, wo = wr := ⟨_, rfl⟩
          subst hwo
          have HQ := Lib.hid hq
          have HBJ := Lib.hid hbj
          have HBO := Lib.hid (Below.refl wo.heap.size wo)
          have HBW := Lib.hid (HB.out.trans (hbj.mono hz))
          clear hq
          by_cases hlj : j < m
          · exact absurd hlj (by have := HM0.out; omega)
          · obtain rfl : m = j := by omega
            have HALLQ := Lib.hid (show (bg.all fun b => togA bs b (i : Int)) = q by rw [HEQ.out, ← HQ.out, List.take_of_length_le (by rw [HM.out]; exact Nat.le_refl _)])
            cases q
            · go_wp2
              go_roundw
              case rel => exact ⟨i + 1, by omega, by omega, by go_num, HBW.out, Ab, lb, cb, rfl, by rw [HSKIP.out i hlt HALLQ.out]; exact HLB.out, by rw [HSKIP.out i hlt HALLQ.out]; exact (HOW.out.below HBJ.out (Nat.le_refl _)).more (Nat.le_refl _) HBJ.out.size⟩
              case measure => simp [intOf]; omega
            · have HALL := Lib.hid HALLQ.out
              have hbc := HBW.out
              have hbw := HBJ.out
              have hzc := hbc.size
              have HBC := Lib.hid hbc
              have HPS := Lib.hid (HS.out.below hbc hB)
              have HSC := Lib.hid (HSB.out.below hbc hBb)
              have HOC := Lib.hid ((HOW.out.below hbw (Nat.le_refl _)).more (Nat.le_refl _) hbw.size)
              clear hbc hbw
              go_wp2_with fail
              refine (l1Own_any P m d bg lo' hi' _ HM.out (by omega) HPS.out (by omega)).mono ?_
              rintro e w2 ⟨A2, c2, rfl, hown2, hb2⟩
              have hz2' := hb2.size
              have HOW2 := Lib.hid (hown2.alloc (.cells #[.int .i64 (i : Int)] 3))
              have HS1 := Lib.hid (seg_one w2 (i : Int) 3)
              have HLT2 := Lib.hid hown2.lt
              have HBB2 := Lib.hid hb2
              clear hown2 hb2
              go_wp2_with (at_builtin; refine wpList_append_seg _ rfl _ _ 39 rfl _ 3 i0 Try.underlying39 hi0 hz0 hz1 hz2 _ m _ rfl HOW2.out _ 1 1 [(i : Int)] _ _ rfl rfl HS1.out (by omega) (by simp; omega) ?_; intro v3 w3 hown3 hgr3; obtain ⟨A3, c3, rfl⟩ := ownsRow_form hown3; have hb3 := ((HBB2.out.alloc hz2' (.cells #[.int .i64 (i : Int)] 3)).grown hgr3 (by simp; omega) (fun g' hg' => (HLT2.out g' hg').1)); have HZ3 := Lib.hid hb3.size; have HB3 := Lib.hid (HBC.out.trans (hb3.mono hzc)); have HO3 := Lib.hid (HOC.out.below hb3 (Nat.le_refl _)); have HR3 := Lib.hid (own_snoc HM.out hown3).seg; clear hown3 hgr3 hb3)
              refine (HREC.out i hlt HALL.out A3 (m + 1) c3 _ _ w3 (by rw [List.length_append, HM.out]; rfl) HR3.out (Nat.le_refl _) (HSB.out.below HB3.out hBb) (by have := HB3.out.size; omega)).mono ?_
              rintro e w4 ⟨A4, n4, c4, rfl, hl4, hown4, hb4⟩
              have HB4 := Lib.hid (HB3.out.trans (hb4.mono HB3.out.size))
              have HO4 := Lib.hid ((HO3.out.more (Nat.le_refl _) HZ3.out).below hb4 (Nat.le_refl _))
              have HZ4 := Lib.hid hb4.size
              have HL4 := Lib.hid hl4
              have HN4 := Lib.hid (hown4.more (lo' := w.heap.size) (by have := HB3.out.size; omega) (Nat.le_refl _))
              have h4le : n4 ≤ 200 := by rw [← hl4]; exact HOL.out i
              clear hl4 hown4 hb4
              by_cases hlong : lb < n4
              · have hlong' : (lb : Int) < (n4 : Int) := by omega
                have HTK := Lib.hid (show best (i + 1) = other i by rw [HTAKE.out i hlt HALL.out, if_pos (by rw [HLB.out, HL4.out]; exact hlong)])
                go_wp2
                go_roundw
                case rel => exact ⟨i + 1, by omega, by omega, by go_num, HB4.out, A4, n4, c4, rfl, by rw [HTK.out]; exact HL4.out, by rw [HTK.out]; exact HN4.out⟩
                case measure => simp [intOf]; omega
              · have hlong' : ¬ (lb : Int) < (n4 : Int) := by omega
                have HTK := Lib.hid (show best (i + 1) = best i by rw [HTAKE.out i hlt HALL.out, if_neg (by rw [HLB.out, HL4.out]; exact hlong)])
                go_wp2
                go_roundw
                case rel => exact ⟨i + 1, by omega, by omega, by go_num, HB4.out, Ab, lb, cb, rfl, by rw [HTK.out]; exact HLB.out, by rw [HTK.out]; exact HO4.out.more (Nat.le_refl _) HZ4.out⟩
                case measure => simp [intOf]; omega
      · obtain rfl : i = n := by omega
        go_wp2
        go_ret
        exact ⟨Ab, lb, cb, rfl, HLB.out, HOW.out, HB.out⟩
  · obtain ⟨p, hp⟩ : ∃ p, m = p + 1 := ⟨m - 1, by omega⟩
    obtain ⟨gq, oq, lq, rfl, _, hqh, hlq, hcq⟩ := HS.out.at_ (k := p) (by rw [HM.out]; omega)
    obtain rfl : (fr : Int) - 1 = lq := by rw [HLS.out p hp] at hlq; injection hlq
    have hcl : w1.cell? ⟨gq, oq + p, none⟩ = some (.int .i64 ((fr : Int) - 1)) := (HBB1.out.cell (by exact Nat.lt_of_lt_of_le hqh hB)).trans hcq
    have hfr1 : 1 ≤ fr := by
      have := HUP.out _ (List.mem_of_getElem? hlq)
      omega
    have hmd : decide ((m : Int) > 0) = true := by rw [decide_eq_true_iff]; omega
    have hwr : IntKind.i64.wrap ((m : Int) - 1) = (p : Int) := by
      have h : ((m : Int) - 1) = (p : Int) := by omega
      rw [h, IntKind.wrap_i64]
      omega
    have hwr2 : IntKind.i64.wrap ((fr : Int) - 1 + 1) = (fr : Int) := by
      have h : ((fr : Int) - 1 + 1) = (fr : Int) := by omega
      rw [h, IntKind.wrap_i64]
      omega
    have hpm : (p : Int) < (m : Int) := by omega
    have hp0 : (0 : Int) ≤ (p : Int) := by omega
    have HPP := Lib.hid hp
    clear hlq hcq hp
    go_wp2
    go_loopw [5, 8] (fun v ix wr => ∃ i : Nat, fr ≤ i ∧ i ≤ n ∧ ix = .int .i64 (i : Int) ∧ Below w.heap.size w wr ∧ ∃ Ab lb cb, v = .slice Ab lb cb ∧ (best i).length = lb ∧ Own wr w.heap.size wr.heap.size Ab (best i)) (fun _ ix _ => n - (intOf ix).toNat)
    case atStart => exact ⟨fr, Nat.le_refl _, hfrn, by first | rfl | (congr 1; omega), HBB1.out, A1, m, c1, rfl, by rw [HBF.out]; exact HM.out, by rw [HBF.out]; exact HOWN1.out⟩
    case round =>
      obtain ⟨i, hfi, hi2, rfl, hb, Ab, lb, cb, rfl, hlb, hown⟩ := hrel
      obtain ⟨wr0, hwr0⟩ : ∃ wr0, wr0 = wr := ⟨_, rfl⟩
      subst hwr0
      have hz := hb.size
      have HB := Lib.hid hb
      have HLB := Lib.hid hlb
      have HOW := Lib.hid hown
      clear hlb hown
      by_cases hlt : i < n
      · have HEQ := Lib.hid (apart_all (bs := bs) (i := i) HUP.out (by rw [HFR.out]; exact hfi))
        obtain ⟨b, off, x, y, z, rfl, _, hbh, hx, c0, c1', c2'⟩ := (HSB.out.below hb hBb).tri (k := i) (by rw [HN.out]; exact hlt)
        have HXI := Lib.hid hx
        clear hx
        go_wp2
        go_loopw [9, 34] (fun fv jx wr => ∃ j : Nat, ∃ q : Bool, j ≤ m ∧ jx = .int .i64 (j : Int) ∧ fv = .bool q ∧ (bg.take j).all (apartB bs i) = q ∧ Below wr0.heap.size wr0 wr) (fun _ jx _ => m - (intOf jx).toNat)
        case atStart => exact ⟨0, true, Nat.zero_le _, rfl, rfl, by simp, Below.refl _ _⟩
        case round =>
          obtain ⟨j, q, hj, rfl, rfl, hq, hbj⟩ := hrel
          obtain ⟨wo, hwo⟩ : ∃ wo, wo = wr := ⟨_, rfl⟩
          subst hwo
          have HQ := Lib.hid hq
          have HBJ := Lib.hid hbj
          have HBO := Lib.hid (Below.refl wo.heap.size wo)
          have HBW := Lib.hid (HB.out.trans (hbj.mono hz))
          clear hq
          by_cases hlj : j < m
          · obtain ⟨gq2, oq2, lq2, hAq, _, _, hlq2, hcq2⟩ := (HS.out.below HBW.out hB).at_ (k := j) (by rw [HM.out]; exact hlj)
            try (obtain ⟨rfl, rfl⟩ : gq = gq2 ∧ oq = oq2 := by injection hAq with hAq; injection hAq with h1 h2; exact ⟨h1, h2⟩)
            try subst hAq
            have hlr := HUP.out _ (List.mem_of_getElem? hlq2)
            obtain ⟨ln, rfl⟩ : ∃ ln : Nat, lq2 = (ln : Int) := ⟨lq2.toNat, by omega⟩
            have HNXT := Lib.hid (all_next (p := apartB bs i) hlq2)
            obtain ⟨b3, off3, x', y', z', hA, _, _, hx', d0, d1, d2⟩ := (HSB.out.below HBW.out hBb).tri (k := ln) (by rw [HN.out]; omega)
            obtain ⟨rfl, rfl⟩ : b = b3 ∧ off = off3 := by injection hA with hA; injection hA with h1 h2; exact ⟨h1, h2⟩
            obtain ⟨b4, off4, x2, y2, z2, hA4, _, _, hx4, a0, a1, a2⟩ := (HSB.out.below HBW.out hBb).tri (k := i) (by rw [HN.out]; exact hlt)
            obtain ⟨rfl, rfl⟩ : b = b4 ∧ off = off4 := by injection hA4 with hA; injection hA with h1 h2; exact ⟨h1, h2⟩
            obtain ⟨rfl, rfl, rfl⟩ : x = x2 ∧ y = y2 ∧ z = z2 := by have h := HXI.out.symm.trans hx4; injection h with h; injection h with e1 e2; injection e2 with e2 e3; exact ⟨e1, e2, e3⟩
            obtain ⟨f, hf⟩ : ∃ f, fitT (x', y', z') (x, y, z) = f := ⟨_, rfl⟩
            obtain ⟨f2, hf2⟩ : ∃ f2, fitT (x, y, z) (x', y', z') = f2 := ⟨_, rfl⟩
            have HF := Lib.hid hf
            have HF2 := Lib.hid hf2
            have HAP := Lib.hid (show apartB bs i (ln : Int) = ((!f) && !f2) by rw [apartB, show (ln : Int).toNat = ln from rfl, fitL_at hx' HXI.out, fitL_at HXI.out hx', hf, hf2])
            have hlnn : (ln : Int) < (n : Int) := hlr.2.1
            have hin : (i : Int) < (n : Int) := by omega
            have hjm : (j : Int) < (m : Int) := by omega
            clear hlq2 hA hA4 hx' hx4 hf hf2
            cases q
            · go_wp2_with fail
              refine wp_region_held_drew (S := (fun wq => Below wo.heap.size wo wq)) (by kernel_rfl) (below_drewN HBO.out 1) (fun hH0 => ?_)
              refine wpAnyH_take (i := 0) (v := ?_) (ops_at rfl) (by kernel_rfl) (by kernel_rfl) (by kernel_rfl) (fun _ _ _ h => h) (Or.inl ⟨by rfl, ?yb0⟩) (by assumption) ?nb0
              case yb0 => (intro wS hSw; (try dsimp only at hSw); go_simp; try rfl)
              try simp only [Act.put, List.setIfInBounds_toArray, List.set_cons_zero, List.set_cons_succ]
              refine wpAnyH_take (i := 1) (v := ?_) (ops_at rfl) (by kernel_rfl) (by kernel_rfl) (by kernel_rfl) (fun _ _ _ h => h) (Or.inl ⟨by rfl, ?yb1⟩) (by assumption) ?nb1
              case yb1 => (intro wS hSw; (try dsimp only at hSw); go_simp; try rfl)
              try simp only [Act.put, List.setIfInBounds_toArray, List.set_cons_zero, List.set_cons_succ]
              refine wpAnyH_take (i := 2) (v := undef) (ops_at rfl) (by kernel_rfl) (by kernel_rfl) (by kernel_rfl) (fun _ _ _ h => h) (Or.inr ⟨by rfl, rfl⟩) (by assumption) ?_
              try simp only [Act.put, List.setIfInBounds_toArray, List.set_cons_zero, List.set_cons_succ]
              refine wpAnyH_take (i := 3) (v := undef) (ops_at rfl) (by kernel_rfl) (by kernel_rfl) (by kernel_rfl) (fun _ _ _ h => h) (Or.inr ⟨by rfl, rfl⟩) (by assumption) ?_
              try simp only [Act.put, List.setIfInBounds_toArray, List.set_cons_zero, List.set_cons_succ]
              refine wpAnyH_take (i := 4) (v := undef) (ops_at rfl) (by kernel_rfl) (by kernel_rfl) (by kernel_rfl) (fun _ _ _ h => h) (Or.inr ⟨by rfl, rfl⟩) (by assumption) ?_
              try simp only [Act.put, List.setIfInBounds_toArray, List.set_cons_zero, List.set_cons_succ]
              refine wpAnyH_take (i := 5) (v := undef) (ops_at rfl) (by kernel_rfl) (by kernel_rfl) (by kernel_rfl) (fun _ _ _ h => h) (Or.inr ⟨by rfl, rfl⟩) (by assumption) ?_
              try simp only [Act.put, List.setIfInBounds_toArray, List.set_cons_zero, List.set_cons_succ]
              refine wpAnyH_take (i := 6) (v := undef) (ops_at rfl) (by kernel_rfl) (by kernel_rfl) (by kernel_rfl) (fun _ _ _ h => h) (Or.inr ⟨by rfl, rfl⟩) (by assumption) ?_
              try simp only [Act.put, List.setIfInBounds_toArray, List.set_cons_zero, List.set_cons_succ]
              refine wpAnyH_take (i := 7) (v := undef) (ops_at rfl) (by kernel_rfl) (by kernel_rfl) (by kernel_rfl) (fun _ _ _ h => h) (Or.inr ⟨by rfl, rfl⟩) (by assumption) ?_
              try simp only [Act.put, List.setIfInBounds_toArray, List.set_cons_zero, List.set_cons_succ]
              refine wpAnyH_take (i := 8) (v := undef) (ops_at rfl) (by kernel_rfl) (by kernel_rfl) (by kernel_rfl) (fun _ _ _ h => h) (Or.inr ⟨by rfl, rfl⟩) (by assumption) ?_
              try simp only [Act.put, List.setIfInBounds_toArray, List.set_cons_zero, List.set_cons_succ]
              refine wpAnyH_take (i := 9) (v := undef) (ops_at rfl) (by kernel_rfl) (by kernel_rfl) (by kernel_rfl) (fun _ _ _ h => h) (Or.inr ⟨by rfl, rfl⟩) (by assumption) ?_
              try simp only [Act.put, List.setIfInBounds_toArray, List.set_cons_zero, List.set_cons_succ]
              refine wpAnyH_take (i := 10) (v := undef) (ops_at rfl) (by kernel_rfl) (by kernel_rfl) (by kernel_rfl) (fun _ _ _ h => h) (Or.inr ⟨by rfl, rfl⟩) (by assumption) ?_
              try simp only [Act.put, List.setIfInBounds_toArray, List.set_cons_zero, List.set_cons_succ]
              refine wpAnyH_take (i := 11) (v := undef) (ops_at rfl) (by kernel_rfl) (by kernel_rfl) (by kernel_rfl) (fun _ _ _ h => h) (Or.inr ⟨by rfl, rfl⟩) (by assumption) ?_
              try simp only [Act.put, List.setIfInBounds_toArray, List.set_cons_zero, List.set_cons_succ]
              refine wpAnyH_take (i := 12) (v := ?_) (ops_at rfl) (by kernel_rfl) (by kernel_rfl) (by kernel_rfl) (fun _ _ _ h => h) (Or.inl ⟨by rfl, ?yb12⟩) (by assumption) ?nb12
              case yb12 => (intro wS hSw; (try dsimp only at hSw); go_simp; try rfl)
              try simp only [Act.put, List.setIfInBounds_toArray, List.set_cons_zero, List.set_cons_succ]
              refine wpAnyH_take (i := 13) (v := ?_) (ops_at rfl) (by kernel_rfl) (by kernel_rfl) (by kernel_rfl) (fun _ _ _ h => h) (Or.inl ⟨by rfl, ?yb13⟩) (by assumption) ?nb13
              case yb13 => (intro wS hSw; (try dsimp only at hSw); go_simp; try rfl)
              try simp only [Act.put, List.setIfInBounds_toArray, List.set_cons_zero, List.set_cons_succ]
              refine wpAnyH_take (i := 14) (v := undef) (ops_at rfl) (by kernel_rfl) (by kernel_rfl) (by kernel_rfl) (fun _ _ _ h => h) (Or.inr ⟨by rfl, rfl⟩) (by assumption) ?_
              try simp only [Act.put, List.setIfInBounds_toArray, List.set_cons_zero, List.set_cons_succ]
              refine wpAnyH_take (i := 15) (v := undef) (ops_at rfl) (by kernel_rfl) (by kernel_rfl) (by kernel_rfl) (fun _ _ _ h => h) (Or.inr ⟨by rfl, rfl⟩) (by assumption) ?_
              try simp only [Act.put, List.setIfInBounds_toArray, List.set_cons_zero, List.set_cons_succ]
              refine wpAnyH_take (i := 16) (v := undef) (ops_at rfl) (by kernel_rfl) (by kernel_rfl) (by kernel_rfl) (fun _ _ _ h => h) (Or.inr ⟨by rfl, rfl⟩) (by assumption) ?_
              try simp only [Act.put, List.setIfInBounds_toArray, List.set_cons_zero, List.set_cons_succ]
              refine wpAnyH_take (i := 17) (v := undef) (ops_at rfl) (by kernel_rfl) (by kernel_rfl) (by kernel_rfl) (fun _ _ _ h => h) (Or.inr ⟨by rfl, rfl⟩) (by assumption) ?_
              try simp only [Act.put, List.setIfInBounds_toArray, List.set_cons_zero, List.set_cons_succ]
              refine wpAnyH_take (i := 18) (v := undef) (ops_at rfl) (by kernel_rfl) (by kernel_rfl) (by kernel_rfl) (fun _ _ _ h => h) (Or.inr ⟨by rfl, rfl⟩) (by assumption) ?_
              try simp only [Act.put, List.setIfInBounds_toArray, List.set_cons_zero, List.set_cons_succ]
              refine wpAnyH_take (i := 19) (v := undef) (ops_at rfl) (by kernel_rfl) (by kernel_rfl) (by kernel_rfl) (fun _ _ _ h => h) (Or.inr ⟨by rfl, rfl⟩) (by assumption) ?_
              try simp only [Act.put, List.setIfInBounds_toArray, List.set_cons_zero, List.set_cons_succ]
              refine wpAnyH_take (i := 20) (v := undef) (ops_at rfl) (by kernel_rfl) (by kernel_rfl) (by kernel_rfl) (fun _ _ _ h => h) (Or.inr ⟨by rfl, rfl⟩) (by assumption) ?_
              try simp only [Act.put, List.setIfInBounds_toArray, List.set_cons_zero, List.set_cons_succ]
              refine wpAnyH_take (i := 21) (v := undef) (ops_at rfl) (by kernel_rfl) (by kernel_rfl) (by kernel_rfl) (fun _ _ _ h => h) (Or.inr ⟨by rfl, rfl⟩) (by assumption) ?_
              try simp only [Act.put, List.setIfInBounds_toArray, List.set_cons_zero, List.set_cons_succ]
              refine wpAnyH_take (i := 22) (v := undef) (ops_at rfl) (by kernel_rfl) (by kernel_rfl) (by kernel_rfl) (fun _ _ _ h => h) (Or.inr ⟨by rfl, rfl⟩) (by assumption) ?_
              try simp only [Act.put, List.setIfInBounds_toArray, List.set_cons_zero, List.set_cons_succ]
              refine wpAnyH_take (i := 23) (v := undef) (ops_at rfl) (by kernel_rfl) (by kernel_rfl) (by kernel_rfl) (fun _ _ _ h => h) (Or.inr ⟨by rfl, rfl⟩) (by assumption) ?_
              try simp only [Act.put, List.setIfInBounds_toArray, List.set_cons_zero, List.set_cons_succ]
              refine wpAnyH_take (i := 24) (v := ?_) (ops_at rfl) (by kernel_rfl) (by kernel_rfl) (by kernel_rfl) (fun _ _ _ h => h) (Or.inl ⟨by rfl, ?yb24⟩) (by assumption) ?nb24
              case yb24 => (intro wS hSw; (try dsimp only at hSw); go_simp; try rfl)
              try simp only [Act.put, List.setIfInBounds_toArray, List.set_cons_zero, List.set_cons_succ]
              refine wpAnyH_take (i := 25) (v := ?_) (ops_at rfl) (by kernel_rfl) (by kernel_rfl) (by kernel_rfl) (fun _ _ _ h => h) (Or.inl ⟨by rfl, ?yb25⟩) (by assumption) ?nb25
              case yb25 => (intro wS hSw; (try dsimp only at hSw); go_simp; try rfl)
              try simp only [Act.put, List.setIfInBounds_toArray, List.set_cons_zero, List.set_cons_succ]
              refine wpAnyH_done (by kernel_rfl) ?_ _
              go_wp2
              go_roundw
              case rel => exact ⟨j + 1, false, by omega, by go_num, rfl, by rw [HNXT.out, HQ.out, Bool.false_and], HBJ.out.trans (hH0.mono HBJ.out.size)⟩
              case measure => simp [intOf]; omega
            · cases f
              · go_wp2_with fail
                refine wp_region_held_drew (S := (fun wq => Below wo.heap.size wo wq ∧ wq.cell? ⟨b, off + ln * 3, none⟩ = some (.int .i64 x') ∧ wq.cell? ⟨b, off + ln * 3 + 1, none⟩ = some (.int .i64 y') ∧ wq.cell? ⟨b, off + ln * 3 + 2, none⟩ = some (.int .i64 z') ∧ wq.cell? ⟨b, off + i * 3, none⟩ = some (.int .i64 x) ∧ wq.cell? ⟨b, off + i * 3 + 1, none⟩ = some (.int .i64 y) ∧ wq.cell? ⟨b, off + i * 3 + 2, none⟩ = some (.int .i64 z))) (by kernel_rfl) ⟨below_drewN HBO.out 1, d0, d1, d2, a0, a1, a2⟩ (fun hH0 => ?_)
                refine wpAnyH_take (i := 0) (v := ?_) (ops_at rfl) (by kernel_rfl) (by kernel_rfl) (by kernel_rfl) (fun _ _ _ h => h) (Or.inl ⟨by rfl, ?yd0⟩) (by assumption) ?nd0
                case yd0 => (intro wS hSw; (try dsimp only at hSw); go_simp; try rfl)
                try simp only [Act.put, List.setIfInBounds_toArray, List.set_cons_zero, List.set_cons_succ]
                refine wpAnyH_take (i := 1) (v := ?_) (ops_at rfl) (by kernel_rfl) (by kernel_rfl) (by kernel_rfl) (fun _ _ _ h => h) (Or.inl ⟨by rfl, ?yd1⟩) (by assumption) ?nd1
                case yd1 => (intro wS hSw; (try dsimp only at hSw); go_simp; try rfl)
                try simp only [Act.put, List.setIfInBounds_toArray, List.set_cons_zero, List.set_cons_succ]
                refine wpAnyH_take (i := 2) (v := ?_) (ops_at rfl) (by kernel_rfl) (by kernel_rfl) (by kernel_rfl) (fun _ _ _ h => h) (Or.inl ⟨by rfl, ?yd2⟩) (by assumption) ?nd2
                case yd2 => (intro wS hSw; (try dsimp only at hSw); go_simp; try rfl)
                try simp only [Act.put, List.setIfInBounds_toArray, List.set_cons_zero, List.set_cons_succ]
                refine wpAnyH_take (i := 3) (v := ?_) (ops_at rfl) (by kernel_rfl) (by kernel_rfl) (by kernel_rfl) (fun _ _ _ h => h) (Or.inl ⟨by rfl, ?yd3⟩) (by assumption) ?nd3
                case yd3 => (intro wS hSw; (try dsimp only at hSw); go_simp; try rfl)
                try simp only [Act.put, List.setIfInBounds_toArray, List.set_cons_zero, List.set_cons_succ]
                refine wpAnyH_take (i := 4) (v := ?_) (ops_at rfl) (by kernel_rfl) (by kernel_rfl) (by kernel_rfl) (fun _ _ _ h => h) (Or.inl ⟨by rfl, ?yd4⟩) (by assumption) ?nd4
                case yd4 => (intro wS hSw; (try dsimp only at hSw); go_simp; try rfl)
                try simp only [Act.put, List.setIfInBounds_toArray, List.set_cons_zero, List.set_cons_succ]
                refine wpAnyH_take (i := 5) (v := ?_) (ops_at rfl) (by kernel_rfl) (by kernel_rfl) (by kernel_rfl) (fun _ _ _ h => h) (Or.inl ⟨by rfl, ?yd5⟩) (by assumption) ?nd5
                case yd5 => (intro wS hSw; (try dsimp only at hSw); go_simp; try rfl)
                try simp only [Act.put, List.setIfInBounds_toArray, List.set_cons_zero, List.set_cons_succ]
                refine wpAnyH_take (i := 6) (v := ?_) (ops_at rfl) (by kernel_rfl) (by kernel_rfl) (by kernel_rfl) (fun _ _ _ h => h) (Or.inl ⟨by rfl, ?yd6⟩) (by assumption) ?nd6
                case yd6 => (intro wS hSw; (try dsimp only at hSw); go_simp; try rfl)
                try simp only [Act.put, List.setIfInBounds_toArray, List.set_cons_zero, List.set_cons_succ]
                refine wpAnyH_take (i := 7) (v := ?_) (ops_at rfl) (by kernel_rfl) (by kernel_rfl) (by kernel_rfl) (fun _ _ _ h => h) (Or.inl ⟨by rfl, ?yd7⟩) (by assumption) ?nd7
                case yd7 => (intro wS hSw; (try dsimp only at hSw); go_simp; try rfl)
                try simp only [Act.put, List.setIfInBounds_toArray, List.set_cons_zero, List.set_cons_succ]
                refine wpAnyH_take (i := 8) (v := ?_) (ops_at rfl) (by kernel_rfl) (by kernel_rfl) (by kernel_rfl) (fun _ _ _ h => h) (Or.inl ⟨by rfl, ?yd8⟩) (by assumption) ?nd8
                case yd8 => (intro wS hSw; (try dsimp only at hSw); go_simp; try rfl)
                try simp only [Act.put, List.setIfInBounds_toArray, List.set_cons_zero, List.set_cons_succ]
                refine wpAnyH_take (i := 9) (v := ?_) (ops_at rfl) (by kernel_rfl) (by kernel_rfl) (by kernel_rfl) (fun _ _ _ h => h) (Or.inl ⟨by rfl, ?yd9⟩) (by assumption) ?nd9
                case yd9 => (intro wS hSw; (try dsimp only at hSw); go_simp; try rfl)
                try simp only [Act.put, List.setIfInBounds_toArray, List.set_cons_zero, List.set_cons_succ]
                refine wpAnyH_ready (rs := [10]) (by kernel_rfl) (by simp) ?_
                refine AllReadyH.cons (ops_at rfl) (fun K hK => ?_) AllReadyH.nil
                go_simp
                refine (neFits_any _ _ _ _ _ _ _ _ HF.out).mono ?_
                rintro e u1 ⟨rfl, hu1⟩
                refine hK.out _ _ ⟨(hH0.1).trans (hu1.mono (hH0.1).size), (hu1.cell (by have := cell_lt hH0.2.1; exact this)).trans hH0.2.1, (hu1.cell (by have := cell_lt hH0.2.2.1; exact this)).trans hH0.2.2.1, (hu1.cell (by have := cell_lt hH0.2.2.2.1; exact this)).trans hH0.2.2.2.1, (hu1.cell (by have := cell_lt hH0.2.2.2.2.1; exact this)).trans hH0.2.2.2.2.1, (hu1.cell (by have := cell_lt hH0.2.2.2.2.2.1; exact this)).trans hH0.2.2.2.2.2.1, (hu1.cell (by have := cell_lt hH0.2.2.2.2.2.2; exact this)).trans hH0.2.2.2.2.2.2⟩ (fun hHd10 => ?_)
                clear hK K
                refine wpAnyH_take (i := 11) (v := ?_) (ops_at rfl) (by kernel_rfl) (by kernel_rfl) (by kernel_rfl) (fun _ _ _ h => h) (Or.inl ⟨by rfl, ?yd11⟩) (by assumption) ?nd11
                case yd11 => (intro wS hSw; (try dsimp only at hSw); go_simp; try rfl)
                try simp only [Act.put, List.setIfInBounds_toArray, List.set_cons_zero, List.set_cons_succ]
                refine wpAnyH_take (i := 12) (v := ?_) (ops_at rfl) (by kernel_rfl) (by kernel_rfl) (by kernel_rfl) (fun _ _ _ h => h) (Or.inl ⟨by rfl, ?yd12⟩) (by assumption) ?nd12
                case yd12 => (intro wS hSw; (try dsimp only at hSw); go_simp; try rfl)
                try simp only [Act.put, List.setIfInBounds_toArray, List.set_cons_zero, List.set_cons_succ]
                refine wpAnyH_take (i := 13) (v := ?_) (ops_at rfl) (by kernel_rfl) (by kernel_rfl) (by kernel_rfl) (fun _ _ _ h => h) (Or.inl ⟨by rfl, ?yd13⟩) (by assumption) ?nd13
                case yd13 => (intro wS hSw; (try dsimp only at hSw); go_simp; try rfl)
                try simp only [Act.put, List.setIfInBounds_toArray, List.set_cons_zero, List.set_cons_succ]
                refine wpAnyH_take (i := 14) (v := ?_) (ops_at rfl) (by kernel_rfl) (by kernel_rfl) (by kernel_rfl) (fun _ _ _ h => h) (Or.inl ⟨by rfl, ?yd14⟩) (by assumption) ?nd14
                case yd14 => (intro wS hSw; (try dsimp only at hSw); go_simp; try rfl)
                try simp only [Act.put, List.setIfInBounds_toArray, List.set_cons_zero, List.set_cons_succ]
                refine wpAnyH_take (i := 15) (v := ?_) (ops_at rfl) (by kernel_rfl) (by kernel_rfl) (by kernel_rfl) (fun _ _ _ h => h) (Or.inl ⟨by rfl, ?yd15⟩) (by assumption) ?nd15
                case yd15 => (intro wS hSw; (try dsimp only at hSw); go_simp; try rfl)
                try simp only [Act.put, List.setIfInBounds_toArray, List.set_cons_zero, List.set_cons_succ]
                refine wpAnyH_take (i := 16) (v := ?_) (ops_at rfl) (by kernel_rfl) (by kernel_rfl) (by kernel_rfl) (fun _ _ _ h => h) (Or.inl ⟨by rfl, ?yd16⟩) (by assumption) ?nd16
                case yd16 => (intro wS hSw; (try dsimp only at hSw); go_simp; try rfl)
                try simp only [Act.put, List.setIfInBounds_toArray, List.set_cons_zero, List.set_cons_succ]
                refine wpAnyH_take (i := 17) (v := ?_) (ops_at rfl) (by kernel_rfl) (by kernel_rfl) (by kernel_rfl) (fun _ _ _ h => h) (Or.inl ⟨by rfl, ?yd17⟩) (by assumption) ?nd17
                case yd17 => (intro wS hSw; (try dsimp only at hSw); go_simp; try rfl)
                try simp only [Act.put, List.setIfInBounds_toArray, List.set_cons_zero, List.set_cons_succ]
                refine wpAnyH_take (i := 18) (v := ?_) (ops_at rfl) (by kernel_rfl) (by kernel_rfl) (by kernel_rfl) (fun _ _ _ h => h) (Or.inl ⟨by rfl, ?yd18⟩) (by assumption) ?nd18
                case yd18 => (intro wS hSw; (try dsimp only at hSw); go_simp; try rfl)
                try simp only [Act.put, List.setIfInBounds_toArray, List.set_cons_zero, List.set_cons_succ]
                refine wpAnyH_take (i := 19) (v := ?_) (ops_at rfl) (by kernel_rfl) (by kernel_rfl) (by kernel_rfl) (fun _ _ _ h => h) (Or.inl ⟨by rfl, ?yd19⟩) (by assumption) ?nd19
                case yd19 => (intro wS hSw; (try dsimp only at hSw); go_simp; try rfl)
                try simp only [Act.put, List.setIfInBounds_toArray, List.set_cons_zero, List.set_cons_succ]
                refine wpAnyH_take (i := 20) (v := ?_) (ops_at rfl) (by kernel_rfl) (by kernel_rfl) (by kernel_rfl) (fun _ _ _ h => h) (Or.inl ⟨by rfl, ?yd20⟩) (by assumption) ?nd20
                case yd20 => (intro wS hSw; (try dsimp only at hSw); go_simp; try rfl)
                try simp only [Act.put, List.setIfInBounds_toArray, List.set_cons_zero, List.set_cons_succ]
                refine wpAnyH_take (i := 21) (v := ?_) (ops_at rfl) (by kernel_rfl) (by kernel_rfl) (by kernel_rfl) (fun _ _ _ h => h) (Or.inl ⟨by rfl, ?yd21⟩) (by assumption) ?nd21
                case yd21 => (intro wS hSw; (try dsimp only at hSw); go_simp; try rfl)
                try simp only [Act.put, List.setIfInBounds_toArray, List.set_cons_zero, List.set_cons_succ]
                refine wpAnyH_ready (rs := [22]) (by kernel_rfl) (by simp) ?_
                refine AllReadyH.cons (ops_at rfl) (fun K hK => ?_) AllReadyH.nil
                go_simp
                refine (neFits_any _ _ _ _ _ _ _ _ HF2.out).mono ?_
                rintro e u2 ⟨rfl, hu2⟩
                refine hK.out _ _ ⟨(hHd10.1).trans (hu2.mono (hHd10.1).size), (hu2.cell (by have := cell_lt hHd10.2.1; exact this)).trans hHd10.2.1, (hu2.cell (by have := cell_lt hHd10.2.2.1; exact this)).trans hHd10.2.2.1, (hu2.cell (by have := cell_lt hHd10.2.2.2.1; exact this)).trans hHd10.2.2.2.1, (hu2.cell (by have := cell_lt hHd10.2.2.2.2.1; exact this)).trans hHd10.2.2.2.2.1, (hu2.cell (by have := cell_lt hHd10.2.2.2.2.2.1; exact this)).trans hHd10.2.2.2.2.2.1, (hu2.cell (by have := cell_lt hHd10.2.2.2.2.2.2; exact this)).trans hHd10.2.2.2.2.2.2⟩ (fun hHd22 => ?_)
                clear hK K
                refine wpAnyH_take (i := 23) (v := ?_) (ops_at rfl) (by kernel_rfl) (by kernel_rfl) (by kernel_rfl) (fun _ _ _ h => h) (Or.inl ⟨by rfl, ?yd23⟩) (by assumption) ?nd23
                case yd23 => (intro wS hSw; (try dsimp only at hSw); go_simp; try rfl)
                try simp only [Act.put, List.setIfInBounds_toArray, List.set_cons_zero, List.set_cons_succ]
                refine wpAnyH_take (i := 24) (v := ?_) (ops_at rfl) (by kernel_rfl) (by kernel_rfl) (by kernel_rfl) (fun _ _ _ h => h) (Or.inl ⟨by rfl, ?yd24⟩) (by assumption) ?nd24
                case yd24 => (intro wS hSw; (try dsimp only at hSw); go_simp; try rfl)
                try simp only [Act.put, List.setIfInBounds_toArray, List.set_cons_zero, List.set_cons_succ]
                refine wpAnyH_take (i := 25) (v := ?_) (ops_at rfl) (by kernel_rfl) (by kernel_rfl) (by kernel_rfl) (fun _ _ _ h => h) (Or.inl ⟨by rfl, ?yd25⟩) (by assumption) ?nd25
                case yd25 => (intro wS hSw; (try dsimp only at hSw); go_simp; try rfl)
                try simp only [Act.put, List.setIfInBounds_toArray, List.set_cons_zero, List.set_cons_succ]
                refine wpAnyH_done (by kernel_rfl) ?_ _
                go_wp2
                go_roundw
                case rel => exact ⟨j + 1, !f2, by omega, by go_num, rfl, by rw [HNXT.out, HQ.out, HAP.out]; rfl, HBJ.out.trans (hHd22.1.mono HBJ.out.size)⟩
                case measure => simp [intOf]; omega
              · go_wp2_with fail
                refine wp_region_held_drew (S := (fun wq => Below wo.heap.size wo wq ∧ wq.cell? ⟨b, off + ln * 3, none⟩ = some (.int .i64 x') ∧ wq.cell? ⟨b, off + ln * 3 + 1, none⟩ = some (.int .i64 y') ∧ wq.cell? ⟨b, off + ln * 3 + 2, none⟩ = some (.int .i64 z') ∧ wq.cell? ⟨b, off + i * 3, none⟩ = some (.int .i64 x) ∧ wq.cell? ⟨b, off + i * 3 + 1, none⟩ = some (.int .i64 y) ∧ wq.cell? ⟨b, off + i * 3 + 2, none⟩ = some (.int .i64 z))) (by kernel_rfl) ⟨below_drewN HBO.out 1, d0, d1, d2, a0, a1, a2⟩ (fun hH0 => ?_)
                refine wpAnyH_take (i := 0) (v := ?_) (ops_at rfl) (by kernel_rfl) (by kernel_rfl) (by kernel_rfl) (fun _ _ _ h => h) (Or.inl ⟨by rfl, ?yc0⟩) (by assumption) ?nc0
                case yc0 => (intro wS hSw; (try dsimp only at hSw); go_simp; try rfl)
                try simp only [Act.put, List.setIfInBounds_toArray, List.set_cons_zero, List.set_cons_succ]
                refine wpAnyH_take (i := 1) (v := ?_) (ops_at rfl) (by kernel_rfl) (by kernel_rfl) (by kernel_rfl) (fun _ _ _ h => h) (Or.inl ⟨by rfl, ?yc1⟩) (by assumption) ?nc1
                case yc1 => (intro wS hSw; (try dsimp only at hSw); go_simp; try rfl)
                try simp only [Act.put, List.setIfInBounds_toArray, List.set_cons_zero, List.set_cons_succ]
                refine wpAnyH_take (i := 2) (v := ?_) (ops_at rfl) (by kernel_rfl) (by kernel_rfl) (by kernel_rfl) (fun _ _ _ h => h) (Or.inl ⟨by rfl, ?yc2⟩) (by assumption) ?nc2
                case yc2 => (intro wS hSw; (try dsimp only at hSw); go_simp; try rfl)
                try simp only [Act.put, List.setIfInBounds_toArray, List.set_cons_zero, List.set_cons_succ]
                refine wpAnyH_take (i := 3) (v := ?_) (ops_at rfl) (by kernel_rfl) (by kernel_rfl) (by kernel_rfl) (fun _ _ _ h => h) (Or.inl ⟨by rfl, ?yc3⟩) (by assumption) ?nc3
                case yc3 => (intro wS hSw; (try dsimp only at hSw); go_simp; try rfl)
                try simp only [Act.put, List.setIfInBounds_toArray, List.set_cons_zero, List.set_cons_succ]
                refine wpAnyH_take (i := 4) (v := ?_) (ops_at rfl) (by kernel_rfl) (by kernel_rfl) (by kernel_rfl) (fun _ _ _ h => h) (Or.inl ⟨by rfl, ?yc4⟩) (by assumption) ?nc4
                case yc4 => (intro wS hSw; (try dsimp only at hSw); go_simp; try rfl)
                try simp only [Act.put, List.setIfInBounds_toArray, List.set_cons_zero, List.set_cons_succ]
                refine wpAnyH_take (i := 5) (v := ?_) (ops_at rfl) (by kernel_rfl) (by kernel_rfl) (by kernel_rfl) (fun _ _ _ h => h) (Or.inl ⟨by rfl, ?yc5⟩) (by assumption) ?nc5
                case yc5 => (intro wS hSw; (try dsimp only at hSw); go_simp; try rfl)
                try simp only [Act.put, List.setIfInBounds_toArray, List.set_cons_zero, List.set_cons_succ]
                refine wpAnyH_take (i := 6) (v := ?_) (ops_at rfl) (by kernel_rfl) (by kernel_rfl) (by kernel_rfl) (fun _ _ _ h => h) (Or.inl ⟨by rfl, ?yc6⟩) (by assumption) ?nc6
                case yc6 => (intro wS hSw; (try dsimp only at hSw); go_simp; try rfl)
                try simp only [Act.put, List.setIfInBounds_toArray, List.set_cons_zero, List.set_cons_succ]
                refine wpAnyH_take (i := 7) (v := ?_) (ops_at rfl) (by kernel_rfl) (by kernel_rfl) (by kernel_rfl) (fun _ _ _ h => h) (Or.inl ⟨by rfl, ?yc7⟩) (by assumption) ?nc7
                case yc7 => (intro wS hSw; (try dsimp only at hSw); go_simp; try rfl)
                try simp only [Act.put, List.setIfInBounds_toArray, List.set_cons_zero, List.set_cons_succ]
                refine wpAnyH_take (i := 8) (v := ?_) (ops_at rfl) (by kernel_rfl) (by kernel_rfl) (by kernel_rfl) (fun _ _ _ h => h) (Or.inl ⟨by rfl, ?yc8⟩) (by assumption) ?nc8
                case yc8 => (intro wS hSw; (try dsimp only at hSw); go_simp; try rfl)
                try simp only [Act.put, List.setIfInBounds_toArray, List.set_cons_zero, List.set_cons_succ]
                refine wpAnyH_take (i := 9) (v := ?_) (ops_at rfl) (by kernel_rfl) (by kernel_rfl) (by kernel_rfl) (fun _ _ _ h => h) (Or.inl ⟨by rfl, ?yc9⟩) (by assumption) ?nc9
                case yc9 => (intro wS hSw; (try dsimp only at hSw); go_simp; try rfl)
                try simp only [Act.put, List.setIfInBounds_toArray, List.set_cons_zero, List.set_cons_succ]
                refine wpAnyH_ready (rs := [10]) (by kernel_rfl) (by simp) ?_
                refine AllReadyH.cons (ops_at rfl) (fun K hK => ?_) AllReadyH.nil
                go_simp
                refine (neFits_any _ _ _ _ _ _ _ _ HF.out).mono ?_
                rintro e u1 ⟨rfl, hu1⟩
                refine hK.out _ _ ⟨(hH0.1).trans (hu1.mono (hH0.1).size), (hu1.cell (by have := cell_lt hH0.2.1; exact this)).trans hH0.2.1, (hu1.cell (by have := cell_lt hH0.2.2.1; exact this)).trans hH0.2.2.1, (hu1.cell (by have := cell_lt hH0.2.2.2.1; exact this)).trans hH0.2.2.2.1, (hu1.cell (by have := cell_lt hH0.2.2.2.2.1; exact this)).trans hH0.2.2.2.2.1, (hu1.cell (by have := cell_lt hH0.2.2.2.2.2.1; exact this)).trans hH0.2.2.2.2.2.1, (hu1.cell (by have := cell_lt hH0.2.2.2.2.2.2; exact this)).trans hH0.2.2.2.2.2.2⟩ (fun hHc10 => ?_)
                clear hK K
                refine wpAnyH_take (i := 11) (v := ?_) (ops_at rfl) (by kernel_rfl) (by kernel_rfl) (by kernel_rfl) (fun _ _ _ h => h) (Or.inl ⟨by rfl, ?yc11⟩) (by assumption) ?nc11
                case yc11 => (intro wS hSw; (try dsimp only at hSw); go_simp; try rfl)
                try simp only [Act.put, List.setIfInBounds_toArray, List.set_cons_zero, List.set_cons_succ]
                refine wpAnyH_take (i := 12) (v := ?_) (ops_at rfl) (by kernel_rfl) (by kernel_rfl) (by kernel_rfl) (fun _ _ _ h => h) (Or.inl ⟨by rfl, ?yc12⟩) (by assumption) ?nc12
                case yc12 => (intro wS hSw; (try dsimp only at hSw); go_simp; try rfl)
                try simp only [Act.put, List.setIfInBounds_toArray, List.set_cons_zero, List.set_cons_succ]
                refine wpAnyH_take (i := 13) (v := ?_) (ops_at rfl) (by kernel_rfl) (by kernel_rfl) (by kernel_rfl) (fun _ _ _ h => h) (Or.inl ⟨by rfl, ?yc13⟩) (by assumption) ?nc13
                case yc13 => (intro wS hSw; (try dsimp only at hSw); go_simp; try rfl)
                try simp only [Act.put, List.setIfInBounds_toArray, List.set_cons_zero, List.set_cons_succ]
                refine wpAnyH_take (i := 14) (v := undef) (ops_at rfl) (by kernel_rfl) (by kernel_rfl) (by kernel_rfl) (fun _ _ _ h => h) (Or.inr ⟨by rfl, rfl⟩) (by assumption) ?_
                try simp only [Act.put, List.setIfInBounds_toArray, List.set_cons_zero, List.set_cons_succ]
                refine wpAnyH_take (i := 15) (v := undef) (ops_at rfl) (by kernel_rfl) (by kernel_rfl) (by kernel_rfl) (fun _ _ _ h => h) (Or.inr ⟨by rfl, rfl⟩) (by assumption) ?_
                try simp only [Act.put, List.setIfInBounds_toArray, List.set_cons_zero, List.set_cons_succ]
                refine wpAnyH_take (i := 16) (v := undef) (ops_at rfl) (by kernel_rfl) (by kernel_rfl) (by kernel_rfl) (fun _ _ _ h => h) (Or.inr ⟨by rfl, rfl⟩) (by assumption) ?_
                try simp only [Act.put, List.setIfInBounds_toArray, List.set_cons_zero, List.set_cons_succ]
                refine wpAnyH_take (i := 17) (v := undef) (ops_at rfl) (by kernel_rfl) (by kernel_rfl) (by kernel_rfl) (fun _ _ _ h => h) (Or.inr ⟨by rfl, rfl⟩) (by assumption) ?_
                try simp only [Act.put, List.setIfInBounds_toArray, List.set_cons_zero, List.set_cons_succ]
                refine wpAnyH_take (i := 18) (v := undef) (ops_at rfl) (by kernel_rfl) (by kernel_rfl) (by kernel_rfl) (fun _ _ _ h => h) (Or.inr ⟨by rfl, rfl⟩) (by assumption) ?_
                try simp only [Act.put, List.setIfInBounds_toArray, List.set_cons_zero, List.set_cons_succ]
                refine wpAnyH_take (i := 19) (v := undef) (ops_at rfl) (by kernel_rfl) (by kernel_rfl) (by kernel_rfl) (fun _ _ _ h => h) (Or.inr ⟨by rfl, rfl⟩) (by assumption) ?_
                try simp only [Act.put, List.setIfInBounds_toArray, List.set_cons_zero, List.set_cons_succ]
                refine wpAnyH_take (i := 20) (v := undef) (ops_at rfl) (by kernel_rfl) (by kernel_rfl) (by kernel_rfl) (fun _ _ _ h => h) (Or.inr ⟨by rfl, rfl⟩) (by assumption) ?_
                try simp only [Act.put, List.setIfInBounds_toArray, List.set_cons_zero, List.set_cons_succ]
                refine wpAnyH_take (i := 21) (v := undef) (ops_at rfl) (by kernel_rfl) (by kernel_rfl) (by kernel_rfl) (fun _ _ _ h => h) (Or.inr ⟨by rfl, rfl⟩) (by assumption) ?_
                try simp only [Act.put, List.setIfInBounds_toArray, List.set_cons_zero, List.set_cons_succ]
                refine wpAnyH_take (i := 22) (v := undef) (ops_at rfl) (by kernel_rfl) (by kernel_rfl) (by kernel_rfl) (fun _ _ _ h => h) (Or.inr ⟨by rfl, rfl⟩) (by assumption) ?_
                try simp only [Act.put, List.setIfInBounds_toArray, List.set_cons_zero, List.set_cons_succ]
                refine wpAnyH_take (i := 23) (v := undef) (ops_at rfl) (by kernel_rfl) (by kernel_rfl) (by kernel_rfl) (fun _ _ _ h => h) (Or.inr ⟨by rfl, rfl⟩) (by assumption) ?_
                try simp only [Act.put, List.setIfInBounds_toArray, List.set_cons_zero, List.set_cons_succ]
                refine wpAnyH_take (i := 24) (v := ?_) (ops_at rfl) (by kernel_rfl) (by kernel_rfl) (by kernel_rfl) (fun _ _ _ h => h) (Or.inl ⟨by rfl, ?yc24⟩) (by assumption) ?nc24
                case yc24 => (intro wS hSw; (try dsimp only at hSw); go_simp; try rfl)
                try simp only [Act.put, List.setIfInBounds_toArray, List.set_cons_zero, List.set_cons_succ]
                refine wpAnyH_take (i := 25) (v := ?_) (ops_at rfl) (by kernel_rfl) (by kernel_rfl) (by kernel_rfl) (fun _ _ _ h => h) (Or.inl ⟨by rfl, ?yc25⟩) (by assumption) ?nc25
                case yc25 => (intro wS hSw; (try dsimp only at hSw); go_simp; try rfl)
                try simp only [Act.put, List.setIfInBounds_toArray, List.set_cons_zero, List.set_cons_succ]
                refine wpAnyH_done (by kernel_rfl) ?_ _
                go_wp2
                go_roundw
                case rel => exact ⟨j + 1, false, by omega, by go_num, rfl, by rw [HNXT.out, HQ.out, HAP.out]; rfl, HBJ.out.trans (hHc10.1.mono HBJ.out.size)⟩
                case measure => simp [intOf]; omega
          · obtain rfl : m = j := by omega
            have HALLQ := Lib.hid (show (bg.all fun b => togA bs b (i : Int)) = q by rw [HEQ.out, ← HQ.out, List.take_of_length_le (by rw [HM.out]; exact Nat.le_refl _)])
            cases q
            · go_wp2
              go_roundw
              case rel => exact ⟨i + 1, by omega, by omega, by go_num, HBW.out, Ab, lb, cb, rfl, by rw [HSKIP.out i hlt HALLQ.out]; exact HLB.out, by rw [HSKIP.out i hlt HALLQ.out]; exact (HOW.out.below HBJ.out (Nat.le_refl _)).more (Nat.le_refl _) HBJ.out.size⟩
              case measure => simp [intOf]; omega
            · have HALL := Lib.hid HALLQ.out
              have hbc := HBW.out
              have hbw := HBJ.out
              have hzc := hbc.size
              have HBC := Lib.hid hbc
              have HPS := Lib.hid (HS.out.below hbc hB)
              have HSC := Lib.hid (HSB.out.below hbc hBb)
              have HOC := Lib.hid ((HOW.out.below hbw (Nat.le_refl _)).more (Nat.le_refl _) hbw.size)
              clear hbc hbw
              go_wp2_with fail
              refine (l1Own_any (some ⟨gq, oq, none⟩) m d bg lo' hi' _ HM.out (by omega) HPS.out (by omega)).mono ?_
              rintro e w2 ⟨A2, c2, rfl, hown2, hb2⟩
              have hz2' := hb2.size
              have HOW2 := Lib.hid (hown2.alloc (.cells #[.int .i64 (i : Int)] 3))
              have HS1 := Lib.hid (seg_one w2 (i : Int) 3)
              have HLT2 := Lib.hid hown2.lt
              have HBB2 := Lib.hid hb2
              clear hown2 hb2
              go_wp2_with (at_builtin; refine wpList_append_seg _ rfl _ _ 39 rfl _ 3 i0 Try.underlying39 hi0 hz0 hz1 hz2 _ m _ rfl HOW2.out _ 1 1 [(i : Int)] _ _ rfl rfl HS1.out (by omega) (by simp; omega) ?_; intro v3 w3 hown3 hgr3; obtain ⟨A3, c3, rfl⟩ := ownsRow_form hown3; have hb3 := ((HBB2.out.alloc hz2' (.cells #[.int .i64 (i : Int)] 3)).grown hgr3 (by simp; omega) (fun g' hg' => (HLT2.out g' hg').1)); have HZ3 := Lib.hid hb3.size; have HB3 := Lib.hid (HBC.out.trans (hb3.mono hzc)); have HO3 := Lib.hid (HOC.out.below hb3 (Nat.le_refl _)); have HR3 := Lib.hid (own_snoc HM.out hown3).seg; clear hown3 hgr3 hb3)
              refine (HREC.out i hlt HALL.out A3 (m + 1) c3 _ _ w3 (by rw [List.length_append, HM.out]; rfl) HR3.out (Nat.le_refl _) (HSB.out.below HB3.out hBb) (by have := HB3.out.size; omega)).mono ?_
              rintro e w4 ⟨A4, n4, c4, rfl, hl4, hown4, hb4⟩
              have HB4 := Lib.hid (HB3.out.trans (hb4.mono HB3.out.size))
              have HO4 := Lib.hid ((HO3.out.more (Nat.le_refl _) HZ3.out).below hb4 (Nat.le_refl _))
              have HZ4 := Lib.hid hb4.size
              have HL4 := Lib.hid hl4
              have HN4 := Lib.hid (hown4.more (lo' := w.heap.size) (by have := HB3.out.size; omega) (Nat.le_refl _))
              have h4le : n4 ≤ 200 := by rw [← hl4]; exact HOL.out i
              clear hl4 hown4 hb4
              by_cases hlong : lb < n4
              · have hlong' : (lb : Int) < (n4 : Int) := by omega
                have HTK := Lib.hid (show best (i + 1) = other i by rw [HTAKE.out i hlt HALL.out, if_pos (by rw [HLB.out, HL4.out]; exact hlong)])
                go_wp2
                go_roundw
                case rel => exact ⟨i + 1, by omega, by omega, by go_num, HB4.out, A4, n4, c4, rfl, by rw [HTK.out]; exact HL4.out, by rw [HTK.out]; exact HN4.out⟩
                case measure => simp [intOf]; omega
              · have hlong' : ¬ (lb : Int) < (n4 : Int) := by omega
                have HTK := Lib.hid (show best (i + 1) = best i by rw [HTAKE.out i hlt HALL.out, if_neg (by rw [HLB.out, HL4.out]; exact hlong)])
                go_wp2
                go_roundw
                case rel => exact ⟨i + 1, by omega, by omega, by go_num, HB4.out, Ab, lb, cb, rfl, by rw [HTK.out]; exact HLB.out, by rw [HTK.out]; exact HO4.out.more (Nat.le_refl _) HZ4.out⟩
                case measure => simp [intOf]; omega
      · obtain rfl : i = n := by omega
        go_wp2
        go_ret
        exact ⟨Ab, lb, cb, rfl, HLB.out, HOW.out, HB.out⟩

set_option maxHeartbeats 1000000 in
theorem neApart_any (A : Option Addr) (n c : Nat) (bs : List (Int × Int × Int)) (hn : bs.length = n) (hn7 : n ≤ 7) (f : Nat) :
    ∀ (bg : List Int) (P : Option Addr) (m d : Nat) (lo hi lo' hi' : Nat) (w : World), bg.length = m → m + f ≤ 20 → (candsC (togA bs) (below n) bg).length ≤ f → upTo n bg → Seg w lo' hi' P bg → hi' ≤ w.heap.size → Seg w lo hi A (flat3 bs) → hi ≤ w.heap.size →
      Calls Try.prog 77 #[.slice A n c, .slice P m d] w (RetO (bg ++ mostT (togA bs) f (candsC (togA bs) (below n) bg)) w) := by
  have nocand : ∀ (bg : List Int) i, i < n → (bg.all fun b => togA bs b (i : Int)) = true → (i : Int) ∈ candsC (togA bs) (below n) bg := by
    intro bg i hi h
    rw [candsC, List.mem_filter]
    exact ⟨List.mem_of_getElem? (below_at hi), h⟩
  induction f with
  | zero =>
    intro bg P m d lo hi lo' hi' w hm hmf hc hl hs hB hsb hBb
    have he : candsC (togA bs) (below n) bg = [] := List.eq_nil_of_length_eq_zero (by omega)
    have h := neApart_body A P n c m d bs bg lo hi lo' hi' w (fun _ => bg) (fun _ => []) hn hn7 hm (by omega) hl hs hB hsb hBb rfl (fun _ _ _ => rfl)
      (fun i hi h => by have := nocand bg i hi h; rw [he] at this; cases this) (fun _ => by simp) (fun i hi h => by have := nocand bg i hi h; rw [he] at this; cases this)
    simpa [mostT] using h
  | succ f ih =>
    intro bg P m d lo hi lo' hi' w hm hmf hc hl hs hB hsb hBb
    have h := neApart_body A P n c m d bs bg lo hi lo' hi' w (fun i => bestC (togA bs) f n i bg) (fun i => (bg ++ [(i : Int)]) ++ mostT (togA bs) f (candsC (togA bs) (below n) (bg ++ [(i : Int)]))) hn hn7 hm (by omega) hl hs hB hsb hBb (bestC_zero _ _ _ _)
      (fun i hin h => bestC_skip hin h) (fun i hin h => bestC_take hin h) (fun i => by
        have := mostT_length (togA bs) f (candsC (togA bs) (below n) (bg ++ [(i : Int)]))
        simp only [List.length_append, List.length_cons, List.length_nil]
        omega)
      (fun i hin h P2 m2 d2 lo2 hi2 w2 hm2 hs2 hB2 hsb2 hBb2 => ih (bg ++ [(i : Int)]) P2 m2 d2 lo hi lo2 hi2 w2 hm2 (by rw [← hm2, List.length_append, hm]; simp; omega) (cands_less (togA_self bs) hin h hc) (upTo_snoc hl hin (by
        rcases Nat.lt_or_ge i (fromN bg) with hx | hx
        · rw [apart_before hl hx] at h; cases h
        · exact hx)) hs2 hB2 hsb2 hBb2)
    rw [bestC_end] at h
    exact h

end Go.Proofs.Ytkconbcmbpmghaa

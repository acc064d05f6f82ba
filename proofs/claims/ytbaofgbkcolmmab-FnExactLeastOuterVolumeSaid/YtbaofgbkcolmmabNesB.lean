/-
  The given program's nestings of least cost, and what it answers of them.
  Conditions: the list has at most 1048576 boxes.
-/
import Derived.Test.YtbaofgbkcolmmabNesS
namespace Go.Proofs.Ytbaofgbkcolmmab
set_option linter.unusedVariables false
open Go.RowKit

theorem take_next {α : Type} {L : List α} {k : Nat} {x : α} (h : L[k]? = some x) : L.take (k + 1) = L.take k ++ [x] := by
  obtain ⟨hk, rfl⟩ := List.getElem?_eq_some_iff.1 h
  exact List.take_succ_eq_append_getElem hk

/-- How many outer boxes a nesting has. -/
def outC (plan : List Int) : Int := ((outerL plan).length : Int)
theorem nesAll_in {bs : List (Int × Int × Int)} {xs : List Int} (h : xs ∈ nesAll bs) : inN bs.length xs ∧ xs.length = bs.length := by
  have := nesF_in bs.length [] (inN_nil _) xs h
  exact ⟨this.1, by rw [this.2]; simp⟩
theorem nesAll_len {bs : List (Int × Int × Int)} (hg : goodN bs = true) : (nesAll bs).length ≤ 2097152 := nesF_few (goodN_at hg).2.1 (goodN_at hg).2.1 _
theorem nesAll_ne (bs : List (Int × Int × Int)) : nesAll bs ≠ [] := nesF_ne _ _
/-- The nestings with the fewest outer boxes. -/
def bestN (bs : List (Int × Int × Int)) : List (List Int) := nesB outC (nesAll bs)
theorem bestN_cons (bs : List (Int × Int × Int)) : ∃ b r, bestN bs = b :: r := nesB_cons (nesAll_ne bs)
theorem bestN_in {bs : List (Int × Int × Int)} {xs : List Int} (h : xs ∈ bestN bs) : inN bs.length xs ∧ xs.length = bs.length := nesB_mem (P := fun xs => inN bs.length xs ∧ xs.length = bs.length) (fun xs hx => nesAll_in hx) xs h

set_option maxRecDepth 100000 in
set_option maxHeartbeats 4000000 in
theorem neBest_any (A : Option Addr) (n c : Nat) (bs : List (Int × Int × Int)) (lo hi : Nat) (w : World) (hn : bs.length = n) (hg : goodN bs = true) (hs : Seg w lo hi A (flat3 bs)) (hB : hi ≤ w.heap.size) :
    Calls Try.prog 45 #[.slice A n c] w (RetRs (bestN bs) w) := by
  have hn7 : n ≤ 7 := by rw [← hn]; exact (goodN_at hg).2.1
  have HN := Lib.hid hn
  have HG := Lib.hid hg
  have HALL := Lib.hid (show nesF bs n [] = nesAll bs by rw [nesAll, hn])
  have HFW := Lib.hid (nesAll_len hg)
  obtain ⟨j0, hj0, hy0, hy1, hy2⟩ := info_parts rowsT_info
  have HIN := Lib.hid (show ∀ xs ∈ nesAll bs, (∀ u ∈ xs, -1 ≤ u) ∧ xs.length = n from fun xs hx => ⟨fun u hu => ((nesAll_in hx).1 u hu).1, by rw [(nesAll_in hx).2, hn]⟩)
  clear hn hg
  go_enter Try.func45, Try.ntmps45
  go_wp2_with fail
  refine (nePlans_any A n c bs lo hi HN.out HG.out n [] 0 0 none 0 0 _ (Nat.add_zero n) rfl hs hB Seg.nil_ (Nat.zero_le _)).mono ?_
  rw [HALL.out]
  rintro e w2 ⟨A2, n2, c2, vs, rfl, hl2, hr2, hb2⟩
  have hz2 := hb2.size
  have HR2 := Lib.hid hr2
  have HL2 := Lib.hid hl2
  have hn2b : n2 ≤ 2097152 := by rw [← hl2]; exact HFW.out
  have HB2 := Lib.hid hb2
  clear hl2 hr2 hb2
  go_wp2
  go_loopw [3, 10] (fun v i wr => ∃ k : Nat, k ≤ n2 ∧ i = .int .i64 k ∧ Below w2.heap.size w2 wr ∧ (∀ b, v.ownBlock = some b → w2.heap.size ≤ b) ∧ ∃ us, Rws wr w.heap.size v (nesB outC ((nesAll bs).take k)) us) (fun _ i _ => n2 - (intOf i).toNat)
  case atStart => exact ⟨0, Nat.zero_le _, rfl, Below.refl _ _, fun b hb => by (cases hb), [], Rws.nil_ _ _⟩
  case round =>
    obtain ⟨k, hk, rfl, hb, hfar, us, hru⟩ := hrel
    have hzr := hb.size
    have HBR := Lib.hid hb
    by_cases hlt : k < n2
    · obtain ⟨xs, hxs⟩ : ∃ xs, (nesAll bs)[k]? = some xs := ⟨_, List.getElem?_eq_getElem (by rw [HL2.out]; exact hlt)⟩
      obtain ⟨g, B, d, rfl, _, hgl, hcx0, hox0⟩ := HR2.out.at_ hxs
      have hcx := (hb.cell (p := ⟨g, k, none⟩) hgl).trans hcx0
      have hox := hox0.below hb (Nat.le_refl _)
      have HT := Lib.hid (take_next hxs)
      have HXI := Lib.hid (HIN.out xs (List.mem_of_getElem? hxs))
      have HMB := Lib.hid (show ∀ ys ∈ nesB outC ((nesAll bs).take k), (∀ u ∈ ys, -1 ≤ u) ∧ ys.length = n from nesB_mem (fun ys hy => HIN.out ys (List.mem_of_mem_take hy)))
      have hVl := nesB_len outC ((nesAll bs).take k)
      have HSN := Lib.hid (nesB_snoc outC ((nesAll bs).take k) xs)
      obtain ⟨V, hV⟩ : ∃ V, nesB outC ((nesAll bs).take k) = V := ⟨_, rfl⟩
      rw [hV] at hru HSN HMB hVl
      have hVb : V.length ≤ 2097152 := by rw [List.length_take] at hVl; omega
      obtain ⟨D, dd, rfl⟩ := hru.form
      have HOX := Lib.hid hox
      obtain ⟨xl, hxl⟩ : ∃ xl, xs.length = xl := ⟨_, rfl⟩
      rw [hxl] at hcx
      have HXL := Lib.hid hxl
      have hxl7 : xl ≤ 7 := by rw [← hxl, HXI.out.2]; exact hn7
      obtain ⟨a, ha⟩ : ∃ a, (outerL xs).length = a := ⟨_, rfl⟩
      have HA := Lib.hid ha
      have HRU0 := Lib.hid hru
      have HFAR0 := Lib.hid hfar
      clear hxs hcx0 hox0 hV hru hox hxl hb hVl ha hfar
      cases V with
      | nil =>
        have HY := Lib.hid (show nesB outC ((nesAll bs).take (k + 1)) = [xs] by rw [HT.out, HSN.out]; rfl)
        have HRU := Lib.hid HRU0.out
        go_wp2_with fail
        refine (neOuter_any B xl d xs _ _ _ HXL.out (by omega) HOX.out.seg (by omega) HXI.out.1).mono ?_
        rintro e w4 ⟨A4, n4, c4, rfl, hl4, _, hb4⟩
        obtain rfl : a = n4 := HA.out.symm.trans hl4
        have hz4 := hb4.size
        have HB4 := Lib.hid (HBR.out.trans (hb4.mono hzr))
        have HOX4 := Lib.hid (HOX.out.below hb4 (by omega))
        have HRU4 := Lib.hid (HRU.out.below hb4)
        clear hl4 hb4
        have H1 := Lib.hid (rws_one (w := w4) (base := w.heap.size) (c := d) (by omega) HXL.out (HOX4.out.more (Nat.le_refl _) (by omega)))
        have HB1' := Lib.hid (HB4.out.alloc (by omega) (.cells #[.slice B xl d] 30))
        go_wp2
        go_roundw
        case rel => exact ⟨k + 1, by omega, by go_num, HB1'.out, fun b hb => by (have hb' : w4.heap.size = b := (by injection hb); omega), _, by rw [HY.out]; exact H1.out⟩
        case measure => simp [intOf]; omega
      | cons b r =>
        have HRU := Lib.hid HRU0.out
        have HBI := Lib.hid (HMB.out b List.mem_cons_self)
        obtain ⟨bl, hbl⟩ : ∃ bl, b.length = bl := ⟨_, rfl⟩
        have hbl7 : bl ≤ 7 := by rw [← hbl, HBI.out.2]; exact hn7
        obtain ⟨bb, hbb⟩ : ∃ bb, (outerL b).length = bb := ⟨_, rfl⟩
        have HBB := Lib.hid hbb
        have HBL := Lib.hid hbl
        clear hbb
        have hrl : r.length + 1 ≤ 2097152 := hVb
        obtain ⟨nv, hnv⟩ : ∃ nv, r.length = nv := ⟨_, rfl⟩
        have HNV := Lib.hid hnv
        have hnv2 : (b :: r).length = nv + 1 := by rw [← hnv]; rfl
        rw [hnv] at hrl
        rw [hnv2] at HRU HFAR0 ⊢
        have HNV2 := Lib.hid hnv2
        clear hnv hVb hnv2
        have hne : (((nv + 1 : Nat) : Int) == 0) = false := by rw [beq_eq_false_iff_ne]; omega
        have hne2 : ((nv : Int) + 1 == 0) = false := by rw [beq_eq_false_iff_ne]; omega
        go_wp2_with fail
        refine (neOuter_any B xl d xs _ _ _ HXL.out (by omega) HOX.out.seg (by omega) HXI.out.1).mono ?_
        rintro e w4 ⟨A4, n4, c4, rfl, hl4, _, hb4⟩
        obtain rfl : a = n4 := HA.out.symm.trans hl4
        have hz4 := hb4.size
        have HB4 := Lib.hid (HBR.out.trans (hb4.mono hzr))
        have HOX4 := Lib.hid (HOX.out.below hb4 (by omega))
        have HRU4 := Lib.hid (HRU.out.below hb4)
        clear hl4 hb4
        obtain ⟨g0, B0, d0, hD0, _, hgl0, hc0, ho0⟩ := HRU4.out.at_ (k := 0) (xs := b) rfl
        rw [HBL.out] at hc0
        subst hD0
        have HO0 := Lib.hid ho0
        clear ho0
        go_wp2_with fail
        refine (neOuter_any B0 bl d0 b _ _ _ HBL.out (by omega) HO0.out.seg (Nat.le_refl _) HBI.out.1).mono ?_
        rintro e w5 ⟨A5, n5, c5, rfl, hl5, _, hb5⟩
        obtain rfl : bb = n5 := HBB.out.symm.trans hl5
        have hz5 := hb5.size
        have HB5 := Lib.hid (HB4.out.trans (hb5.mono (by omega)))
        have HOX5 := Lib.hid (HOX4.out.below hb5 (by omega))
        have HRU5 := Lib.hid (HRU4.out.below hb5)
        clear hl5 hb5
        by_cases hab : a < bb
        · have hd : decide ((a : Int) < (bb : Int)) = true := by simpa using hab
          have hdn : decide (a < bb) = true := by simpa using hab
          have HY := Lib.hid (show nesB outC ((nesAll bs).take (k + 1)) = [xs] by rw [HT.out, HSN.out]; exact stepB_less (by unfold outC; rw [HA.out, HBB.out]; omega))
          have H1 := Lib.hid (rws_one (w := w5) (base := w.heap.size) (c := d) (by omega) HXL.out (HOX5.out.more (Nat.le_refl _) (by omega)))
          have HB1' := Lib.hid (HB5.out.alloc (by omega) (.cells #[.slice B xl d] 30))
          go_wp2
          go_roundw
          case rel => exact ⟨k + 1, by omega, by go_num, HB1'.out, fun b hb => by (have hb' : w5.heap.size = b := (by injection hb); omega), _, by rw [HY.out]; exact H1.out⟩
          case measure => simp [intOf]; omega
        · obtain ⟨g1, B1, d1, hD1, _, hgl1, hc1, ho1⟩ := HRU5.out.at_ (k := 0) (xs := b) rfl
          rw [HBL.out] at hc1
          obtain rfl : g0 = g1 := by (injection hD1 with hD1; injection hD1)
          have HO1 := Lib.hid ho1
          clear ho1 hD1
          have hd : decide ((a : Int) < (bb : Int)) = false := by simpa using hab
          have hdn : decide (a < bb) = false := by simpa using hab
          go_wp2_with fail
          refine (neOuter_any B1 bl d1 b _ _ _ HBL.out (by omega) HO1.out.seg (Nat.le_refl _) HBI.out.1).mono ?_
          rintro e w6 ⟨A6, n6, c6, rfl, hl6, _, hb6⟩
          obtain rfl : bb = n6 := HBB.out.symm.trans hl6
          have hz6 := hb6.size
          have HB6 := Lib.hid (HB5.out.trans (hb6.mono (by omega)))
          have HOX6 := Lib.hid (HOX5.out.below hb6 (by omega))
          have HRU6 := Lib.hid (HRU5.out.below hb6)
          clear hl6 hb6
          by_cases hae : a = bb
          · have heq : ((a : Int) == (bb : Int)) = true := by rw [beq_iff_eq]; omega
            have HY := Lib.hid (show nesB outC ((nesAll bs).take (k + 1)) = b :: r ++ [xs] by rw [HT.out, HSN.out]; exact stepB_same (by unfold outC; rw [HA.out, HBB.out]; omega))
            have hbx := (Below.refl w6.heap.size w6).alloc (Nat.le_refl _) (.cells #[.slice B xl d] 30)
            have HR1 := Lib.hid (HRU6.out.below hbx)
            have H1 := Lib.hid (rws_one (w := w6) (base := w.heap.size) (c := d) (by omega) HXL.out (HOX6.out.more (Nat.le_refl _) (by omega)))
            have HB1' := Lib.hid (HB6.out.alloc (by omega) (.cells #[.slice B xl d] 30))
            have HO1x := Lib.hid (HOX6.out.below hbx (by omega))
            have HRW := Lib.hid (show Rows1 (w6.alloc (.cells #[.slice B xl d] 30)) w.heap.size (Value.slice (some ⟨g0, 0, none⟩) (nv + 1) dd).ownBlock [xs] [.slice B xl d] from ⟨rfl, fun j ys hj => by (have hj0 : j = 0 := (by have := (List.getElem?_eq_some_iff.1 hj).1; simp at this; exact this); subst hj0; obtain rfl : xs = ys := (by simpa using hj); exact ⟨B, d, by rw [HXL.out]; rfl, HO1x.out.more (Nat.le_refl _) (by simp; omega), fun hx g' hB' e => by (have h1 := (HO1x.out.lt_ hx hB').2; have h2 := HFAR0.out g' e; omega)⟩)⟩)
            clear hbx
            go_wp2_with (at_builtin; refine wpList_append_rows _ rfl _ _ 52 rfl w.heap.size 30 j0 Try.underlying52 hj0 hy0 hy1 hy2 _ (nv + 1) _ rfl (by have h := HR1.out.1; rw [HNV2.out] at h; exact h) _ _ 1 _ rfl H1.out.1 (by intro u hu; simp at hu; subst hu; rfl) (by omega) (by simp; omega) ?_; intro v8 w8 hown8 hgr8 hloc8; have HR8 := Lib.hid (HR1.out.app HRW.out (by rw [HNV2.out]; exact hown8) hgr8 hloc8); have HB8 := Lib.hid (HB1'.out.grown hgr8 (by simp; omega) (fun g' hg' => HFAR0.out g' hg')); have HF8 := Lib.hid (show ∀ b, v8.ownBlock = some b → w2.heap.size ≤ b from fun b hb => by (rcases hloc8 with h | h; exact HFAR0.out b (h ▸ hb); rw [h] at hb; injection hb with hb; simp at hb; omega)); clear hown8 hgr8 hloc8)
            go_roundw
            case rel => exact ⟨k + 1, by omega, by go_num, HB8.out, HF8.out, _, by rw [HY.out]; exact HR8.out⟩
            case measure => simp [intOf]; omega
          · have heq : ((a : Int) == (bb : Int)) = false := by rw [beq_eq_false_iff_ne]; omega
            have HY := Lib.hid (show nesB outC ((nesAll bs).take (k + 1)) = b :: r by rw [HT.out, HSN.out]; exact stepB_more (by unfold outC; rw [HA.out, HBB.out]; omega))
            go_wp2
            go_roundw
            case rel => exact ⟨k + 1, by omega, by go_num, HB6.out, HFAR0.out, us, by rw [HY.out]; exact HRU6.out⟩
            case measure => simp [intOf]; omega
    · obtain rfl : k = n2 := by omega
      have HE := Lib.hid (show nesB outC ((nesAll bs).take k) = bestN bs by rw [← HL2.out, List.take_length]; rfl)
      rw [HE.out] at hru
      obtain ⟨D, dd, rfl⟩ := hru.form
      have HRU := Lib.hid hru
      clear hru hb hfar
      go_wp2
      go_ret
      exact ⟨D, _, dd, us, rfl, rfl, HRU.out, HB2.out.trans (HBR.out.mono hz2)⟩
end Go.Proofs.Ytbaofgbkcolmmab

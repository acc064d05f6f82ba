/-
  Both programs' widths of shelves; the specification's heights of shelves.
  Conditions: the lists have at most 1048576 elements.
-/
import Derived.Test.YtmdeijjlcebmaaaIsShelf
import Derived.Test.YtmdeijjlcebmaaaShelfFill
namespace Go.Proofs.Ytmdeijjlcebmaaa
set_option linter.unusedVariables false
open Go.RowKit

section
variable (A D : Option Addr) (n c m d : Nat) (bs : List (Int × Int)) (width : Int) (fs : List Int) (lo hi lo' hi' : Nat) (w : World) (hn : bs.length = n) (hlen : n ≤ 1048576) (hc : n ≤ c) (hm : fs.length = m) (hm2 : m ≤ 1048576)
    (hs : Seg w lo hi A (flat bs)) (hB : hi ≤ w.heap.size) (ho : Seg w lo' hi' D fs) (hB' : hi' ≤ w.heap.size) (p : Bool) (hp : bothB bs width fs = p)
include hn hlen hc hm hm2 hs hB ho hB' hp

set_option maxHeartbeats 2000000 in
theorem spec_ShelfWidths :
    Calls Try.prog 22 #[.slice A n c, .int .i64 width, .slice D m d] w (RetL p (listL p (widthsK bs (natsOf fs))) w) := by
  obtain ⟨i0, hi0, hz0, hz1, hz2⟩ := info_parts int_info
  have HN := Lib.hid hn
  have HM := Lib.hid hm
  have HP := Lib.hid hp
  cases p
  · clear hn hm hp
    go_enter Try.func22, Try.ntmps22
    go_wp2_with fail
    refine (shBoth_any _ _ _ _ _ _ bs width fs lo hi lo' hi' _ HN.out hlen hc HM.out hm2 hs hB ho hB' _ HP.out).mono ?_
    rintro e w1 ⟨rfl, hb1⟩
    go_wp2
    go_ret2
    exact ⟨_, _, _, rfl, rfl, Own.nil_, hb1⟩
  · obtain ⟨ha, hri, hfu⟩ := bothB_at hp
    rw [hn] at hri
    obtain ⟨h1, h12, hbk, hw1, hw2⟩ := askedK_at ha
    rw [hn] at h1 h12
    obtain ⟨b, off, _, _, rfl, _⟩ := hs.book (k := 0) (by omega)
    have HRR := Lib.hid hri
    have HRI := Lib.hid (rise_of hri)
    have HG := Lib.hid (goodK_part (asked_good ha))
    have HQL : Hid ((natsOf fs).length = m) := by rw [natsOf_length]; exact hm
    have hm12 : m ≤ 12 := by have := HRI.out.len; rw [HQL.out] at this; omega
    clear hn hm hp ha hri hfu hbk
    go_enter Try.func22, Try.ntmps22
    go_wp2_with fail
    refine (shBoth_any _ _ _ _ _ _ bs width fs lo hi lo' hi' _ HN.out hlen hc HM.out hm2 hs hB ho hB' _ HP.out).mono ?_
    rintro e w0 ⟨rfl, hb0⟩
    go_wp2_with fail
    refine (shParts_any b off n c m d _ fs lo' hi' _ hc h12 HM.out (ho.below hb0 hB') (Nat.le_trans hB' hb0.size) HRR.out).mono ?_
    rintro e w1 ⟨A1, c1, rfl, hown, hb1'⟩
    rw [HQL.out] at hown ⊢
    have hb1 := hb0.trans (hb1'.mono hb0.size)
    have hz01 := hb0.size
    have hz11 := hb1'.size
    clear hb1' hb0
    go_wp2
    go_loopw [8, 10, 11, 12, 13, 23] (fun v _ _ _ _ i wr => ∃ k : Nat, k ≤ m ∧ i = .int .i64 k ∧ Below w1.heap.size w1 wr ∧ wr.ownsRow w1.heap.size 3 1 v k (((widthsK bs (natsOf fs)).take k).map (Value.int .i64))) (fun _ _ _ _ _ i _ => m - (intOf i).toNat)
    case atStart => exact ⟨0, Nat.zero_le _, rfl, Below.refl _ _, World.ownsRow_nil _ _ _ _⟩
    case round =>
      obtain ⟨k, hk, rfl, hb, hrow⟩ := hrel
      have hsz := hb.size
      obtain ⟨A', c', rfl⟩ := ownsRow_form hrow
      by_cases hlt : k < m
      · have hkq : k < (natsOf fs).length := by rw [HQL.out]; exact hlt
        obtain ⟨g, rfl, hg1, hg2, hcg⟩ := parts_cell hown hlt
        have hcw := (hb.cell (p := ⟨g, k, none⟩) (by exact hg2)).trans hcg
        have hbb := hb1.trans (hb.mono hb1.size)
        obtain ⟨p1, p2, p3⟩ := part_facts HN.out HRI.out HG.out hkq (hs.below hbb hB)
        have hat := widths_at bs hkq
        obtain ⟨pt, hpt⟩ : ∃ pt, partK bs (natsOf fs) k = pt := ⟨_, rfl⟩
        obtain ⟨p, hp⟩ : ∃ p, (natsOf fs).getD k 0 = p := ⟨_, rfl⟩
        obtain ⟨r, hr⟩ : ∃ r, endOf n (natsOf fs) k = r := ⟨_, rfl⟩
        rw [hp, hr] at hcw p1
        rw [hp] at p3
        rw [hpt] at p1 p2 p3 hat
        have P1 := Lib.hid p1
        have P2 := Lib.hid p2
        have P3 := Lib.hid p3
        have HT := Lib.hid (take_snoc hat)
        clear hp hr hpt p1 p2 p3 hcg hat
        go_wp2_with fail
        refine (shThick_any _ _ _ pt lo hi _ P1.out P3.out (Nat.le_trans hB hbb.size) P2.out).mono ?_
        rintro e w2 ⟨rfl, hb2⟩
        have hb2' := hb.trans (hb2.mono hb.size)
        obtain ⟨s1, hs1⟩ : ∃ s, (ths pt).sum = s := ⟨_, rfl⟩
        obtain ⟨s2, hs2⟩ : ∃ s, mostOf (ths pt) = s := ⟨_, rfl⟩
        obtain ⟨s3, hs3⟩ : ∃ s, mostOf (tls pt) = s := ⟨_, rfl⟩
        rw [hs1] at HT
        rw [hs1, hs2, hs3]
        clear hs1 hs2 hs3
        have hrow2 : Hid (w2.ownsRow w1.heap.size 3 1 (.slice A' k c') k (((widthsK bs (natsOf fs)).take k).map (Value.int .i64))) := row_below hrow hb2
        have hzz2 := hb2.size
        clear hrow
        go_wp2_with (at_builtin; refine wpList_append_own _ rfl _ _ 23 rfl w1.heap.size 3 i0 (.int .i64 0) 1 8 Try.underlying23 hi0 hz0 hz1 hz2 rfl (by decide) _ _ _ rfl (hrow2.out.alloc _) ⟨w2.heap.size, 0, none⟩ 1 1 [.int .i64 s1] rfl rfl (one_new _ _ _) (by intro u hu; simp at hu; subst hu; rfl) (by unfold maxLen; omega) (by omega) (by simp; omega) ?_; intro v' w3 hown3 hgrow _)
        have hb3 : Below w1.heap.size w1 w3 := ((hb2'.alloc (by omega) _).grown hgrow (by simp; omega) (fun g' hg' => by have := (hrow2.out.lt g' hg').1; omega))
        go_roundw
        case rel => exact ⟨k + 1, by omega, by go_num, hb3, by rw [HT.out, List.map_append]; exact hown3⟩
        case measure => simp [intOf]; omega
      · obtain rfl : k = m := by omega
        have hll : (widthsK bs (natsOf fs)).length = k := by rw [widths_length]; exact HQL.out
        rw [List.take_of_length_le (by rw [hll]; exact Nat.le_refl _)] at hrow
        have ho2 := ownsRow_own (ys := widthsK bs (natsOf fs)) (by rw [hll]; exact hrow)
        have HO := Lib.hid ho2
        clear hll hrow
        go_wp2
        go_ret2
        exact ⟨_, _, _, rfl, HO.out.1, HO.out.2.more (by omega) (Nat.le_refl _), hb1.trans (hb.mono hb1.size)⟩

set_option maxHeartbeats 2000000 in
theorem spec_ShelfHeights :
    Calls Try.prog 17 #[.slice A n c, .int .i64 width, .slice D m d] w (RetL p (listL p (heightsK bs (natsOf fs))) w) := by
  obtain ⟨i0, hi0, hz0, hz1, hz2⟩ := info_parts int_info
  have HN := Lib.hid hn
  have HM := Lib.hid hm
  have HP := Lib.hid hp
  cases p
  · clear hn hm hp
    go_enter Try.func17, Try.ntmps17
    go_wp2_with fail
    refine (shBoth_any _ _ _ _ _ _ bs width fs lo hi lo' hi' _ HN.out hlen hc HM.out hm2 hs hB ho hB' _ HP.out).mono ?_
    rintro e w1 ⟨rfl, hb1⟩
    go_wp2
    go_ret2
    exact ⟨_, _, _, rfl, rfl, Own.nil_, hb1⟩
  · obtain ⟨ha, hri, hfu⟩ := bothB_at hp
    rw [hn] at hri
    obtain ⟨h1, h12, hbk, hw1, hw2⟩ := askedK_at ha
    rw [hn] at h1 h12
    obtain ⟨b, off, _, _, rfl, _⟩ := hs.book (k := 0) (by omega)
    have HRR := Lib.hid hri
    have HRI := Lib.hid (rise_of hri)
    have HG := Lib.hid (goodK_part (asked_good ha))
    have HQL : Hid ((natsOf fs).length = m) := by rw [natsOf_length]; exact hm
    have hm12 : m ≤ 12 := by have := HRI.out.len; rw [HQL.out] at this; omega
    clear hn hm hp ha hri hfu hbk
    go_enter Try.func17, Try.ntmps17
    go_wp2_with fail
    refine (shBoth_any _ _ _ _ _ _ bs width fs lo hi lo' hi' _ HN.out hlen hc HM.out hm2 hs hB ho hB' _ HP.out).mono ?_
    rintro e w0 ⟨rfl, hb0⟩
    go_wp2_with fail
    refine (shParts_any b off n c m d _ fs lo' hi' _ hc h12 HM.out (ho.below hb0 hB') (Nat.le_trans hB' hb0.size) HRR.out).mono ?_
    rintro e w1 ⟨A1, c1, rfl, hown, hb1'⟩
    rw [HQL.out] at hown ⊢
    have hb1 := hb0.trans (hb1'.mono hb0.size)
    have hz01 := hb0.size
    have hz11 := hb1'.size
    clear hb1' hb0
    go_wp2
    go_loopw [8, 10, 11, 12, 13, 23] (fun v _ _ _ _ i wr => ∃ k : Nat, k ≤ m ∧ i = .int .i64 k ∧ Below w1.heap.size w1 wr ∧ wr.ownsRow w1.heap.size 3 1 v k (((heightsK bs (natsOf fs)).take k).map (Value.int .i64))) (fun _ _ _ _ _ i _ => m - (intOf i).toNat)
    case atStart => exact ⟨0, Nat.zero_le _, rfl, Below.refl _ _, World.ownsRow_nil _ _ _ _⟩
    case round =>
      obtain ⟨k, hk, rfl, hb, hrow⟩ := hrel
      have hsz := hb.size
      obtain ⟨A', c', rfl⟩ := ownsRow_form hrow
      by_cases hlt : k < m
      · have hkq : k < (natsOf fs).length := by rw [HQL.out]; exact hlt
        obtain ⟨g, rfl, hg1, hg2, hcg⟩ := parts_cell hown hlt
        have hcw := (hb.cell (p := ⟨g, k, none⟩) (by exact hg2)).trans hcg
        have hbb := hb1.trans (hb.mono hb1.size)
        obtain ⟨p1, p2, p3⟩ := part_facts HN.out HRI.out HG.out hkq (hs.below hbb hB)
        have hat := heights_at bs hkq
        obtain ⟨pt, hpt⟩ : ∃ pt, partK bs (natsOf fs) k = pt := ⟨_, rfl⟩
        obtain ⟨p, hp⟩ : ∃ p, (natsOf fs).getD k 0 = p := ⟨_, rfl⟩
        obtain ⟨r, hr⟩ : ∃ r, endOf n (natsOf fs) k = r := ⟨_, rfl⟩
        rw [hp, hr] at hcw p1
        rw [hp] at p3
        rw [hpt] at p1 p2 p3 hat
        have P1 := Lib.hid p1
        have P2 := Lib.hid p2
        have P3 := Lib.hid p3
        have HT := Lib.hid (take_snoc hat)
        clear hp hr hpt p1 p2 p3 hcg hat
        go_wp2_with fail
        refine (shThick_any _ _ _ pt lo hi _ P1.out P3.out (Nat.le_trans hB hbb.size) P2.out).mono ?_
        rintro e w2 ⟨rfl, hb2⟩
        have hb2' := hb.trans (hb2.mono hb.size)
        obtain ⟨s1, hs1⟩ : ∃ s, (ths pt).sum = s := ⟨_, rfl⟩
        obtain ⟨s2, hs2⟩ : ∃ s, mostOf (ths pt) = s := ⟨_, rfl⟩
        obtain ⟨s3, hs3⟩ : ∃ s, mostOf (tls pt) = s := ⟨_, rfl⟩
        rw [hs3] at HT
        rw [hs1, hs2, hs3]
        clear hs1 hs2 hs3
        have hrow2 : Hid (w2.ownsRow w1.heap.size 3 1 (.slice A' k c') k (((heightsK bs (natsOf fs)).take k).map (Value.int .i64))) := row_below hrow hb2
        have hzz2 := hb2.size
        clear hrow
        go_wp2_with (at_builtin; refine wpList_append_own _ rfl _ _ 23 rfl w1.heap.size 3 i0 (.int .i64 0) 1 8 Try.underlying23 hi0 hz0 hz1 hz2 rfl (by decide) _ _ _ rfl (hrow2.out.alloc _) ⟨w2.heap.size, 0, none⟩ 1 1 [.int .i64 s3] rfl rfl (one_new _ _ _) (by intro u hu; simp at hu; subst hu; rfl) (by unfold maxLen; omega) (by omega) (by simp; omega) ?_; intro v' w3 hown3 hgrow _)
        have hb3 : Below w1.heap.size w1 w3 := ((hb2'.alloc (by omega) _).grown hgrow (by simp; omega) (fun g' hg' => by have := (hrow2.out.lt g' hg').1; omega))
        go_roundw
        case rel => exact ⟨k + 1, by omega, by go_num, hb3, by rw [HT.out, List.map_append]; exact hown3⟩
        case measure => simp [intOf]; omega
      · obtain rfl : k = m := by omega
        have hll : (heightsK bs (natsOf fs)).length = k := by rw [heights_length]; exact HQL.out
        rw [List.take_of_length_le (by rw [hll]; exact Nat.le_refl _)] at hrow
        have ho2 := ownsRow_own (ys := heightsK bs (natsOf fs)) (by rw [hll]; exact hrow)
        have HO := Lib.hid ho2
        clear hll hrow
        go_wp2
        go_ret2
        exact ⟨_, _, _, rfl, HO.out.1, HO.out.2.more (by omega) (Nat.le_refl _), hb1.trans (hb.mono hb1.size)⟩

set_option maxHeartbeats 2000000 in
theorem impl_ShelfWidths :
    Calls Try.prog 23 #[.slice A n c, .int .i64 width, .slice D m d] w (RetL p (listL p (widthsK bs (natsOf fs))) w) := by
  have HN := Lib.hid hn
  have HM := Lib.hid hm
  have HP := Lib.hid hp
  cases p
  · clear hn hm hp
    go_enter Try.func23, Try.ntmps23
    go_wp2_with fail
    refine (shelvingOf_any _ _ _ _ _ _ bs width fs lo hi lo' hi' _ HN.out hlen hc HM.out hm2 hs hB ho hB' _ HP.out).mono ?_
    rintro e w1 ⟨v0, v1, v2, v3, v4, v5, v6, v7, v8, v9, v10, v11, v12, rfl, hsl, hb1⟩
    clear hsl
    go_wp2
    go_ret2
    exact ⟨_, _, _, rfl, rfl, Own.nil_, hb1.alloc hb1.size _⟩
  · obtain ⟨b, off, _, _, rfl, _⟩ := hs.book (k := 0) (by have := (askedK_at (bothB_at hp).1).1; omega)
    clear hn hm hp
    go_enter Try.func23, Try.ntmps23
    go_wp2_with fail
    refine (shelvingOf_any _ _ _ _ _ _ bs width fs lo hi lo' hi' _ HN.out hlen hc HM.out hm2 hs hB ho hB' _ HP.out).mono ?_
    rintro e w1 ⟨v0, v1, v2, v3, v4, v5, v6, v7, v8, v9, v10, v11, v12, rfl, hsl, hb1⟩
    have HF := Lib.hid (both_facts HN.out HP.out (hsl rfl))
    have hb1' := hb1.alloc hb1.size (.cells #[.int .i64 v0, .int .i64 v1, .int .i64 v2, .int .i64 v3, .int .i64 v4, .int .i64 v5, .int .i64 v6, .int .i64 v7, .int .i64 v8, .int .i64 v9, .int .i64 v10, .int .i64 v11, .int .i64 v12] 51)
    have hs1 := hs.below hb1' hB
    have hB1 := Nat.le_trans hB hb1'.size
    clear hsl
    go_wp2_with fail
    refine (widths_any b off n c bs (natsOf fs) _ lo hi _ HN.out hc HF.out.1 HF.out.2.1 HF.out.2.2.1 hs1 hB1).mono ?_
    rintro e w2 ⟨g, rfl, har, hg, hb2⟩
    have hz2 := hb2.size
    have hz1 := hb1.size
    simp at hg hz2
    have hbb := hb1'.trans (hb2.mono (by simp; omega))
    have hown := har.own (lo := w.heap.size) (hi := w2.heap.size) (by omega) har.lt
    go_wp2
    go_ret2
    exact ⟨_, _, _, rfl, widths_length _ _, hown, hbb⟩
end
end Go.Proofs.Ytmdeijjlcebmaaa

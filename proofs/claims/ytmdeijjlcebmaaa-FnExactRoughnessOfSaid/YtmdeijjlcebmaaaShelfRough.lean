/-
  Both programs' roughness of a shelving.
  Conditions: the lists have at most 1048576 elements.
-/
import Derived.Test.YtmdeijjlcebmaaaShelfHigh
import Derived.Deep.RegionHeld3
namespace Go.Proofs.Ytmdeijjlcebmaaa
set_option linter.unusedVariables false
open Go.RowKit

/-- The squares of what is free on all shelves but the last. -/
def roughK (bs : List (Int × Int)) (width : Int) (qs : List Nat) : List Int := ((widthsK bs qs).take (qs.length - 1)).map fun x => (width - x) * (width - x)

theorem rough_length (bs : List (Int × Int)) (width : Int) (qs : List Nat) : (roughK bs width qs).length = qs.length - 1 := by
  simp [roughK, widths_length]

theorem rough_at {bs : List (Int × Int)} {width : Int} {qs : List Nat} {k : Nat} (hk : k < qs.length - 1) {x : Int} (hx : (widthsK bs qs)[k]? = some x) : (roughK bs width qs)[k]? = some ((width - x) * (width - x)) := by
  unfold roughK
  rw [List.getElem?_map, List.getElem?_take_of_lt hk, hx]
  rfl

theorem sq_bd {x : Int} (h1 : 0 ≤ x) (h2 : x ≤ 1000) : 0 ≤ x * x ∧ x * x ≤ 1000000 :=
  ⟨Int.mul_nonneg h1 h1, Int.le_trans (Int.mul_le_mul h2 h2 h1 (by omega)) (by omega)⟩

/-- What a shelf that is not too full leaves free. -/
theorem free_bd {bs : List (Int × Int)} {width : Int} {qs : List Nat} (hr : Rise bs.length qs) (hg : goodK bs = true) (hf : fullB bs width qs = true) (hw : width ≤ 1000) {k : Nat} {x : Int} (hx : (widthsK bs qs)[k]? = some x) :
    1 ≤ x ∧ x ≤ width := by
  have hl := (List.getElem?_eq_some_iff.1 hx).1
  rw [widths_length] at hl
  have h1 := width_bd hr hg hl
  rw [widths_at bs hl] at hx
  injection hx with hx
  subst hx
  refine ⟨h1.1, ?_⟩
  unfold fullB at hf
  rw [List.all_eq_true] at hf
  have := hf _ (List.mem_of_getElem? (widths_at bs hl))
  simpa using this

theorem rough_bd {bs : List (Int × Int)} {width : Int} {qs : List Nat} (hr : Rise bs.length qs) (hg : goodK bs = true) (hf : fullB bs width qs = true) (hw : width ≤ 1000) : ∀ x ∈ roughK bs width qs, 0 ≤ x ∧ x ≤ 1000000 := by
  intro x hx
  unfold roughK at hx
  obtain ⟨y, hy, rfl⟩ := List.mem_map.1 hx
  obtain ⟨k, hk⟩ := List.getElem?_of_mem (List.mem_of_mem_take hy)
  have := free_bd hr hg hf hw hk
  exact sq_bd (by omega) (by omega)

theorem parts_cap {b off n c : Nat} {qs : List Nat} {w : World} {base k cap : Nat} {A : Option Addr} (h : w.ownsRow base 27 1 (.slice A k cap) k (partsV b off n c qs k)) : k ≤ cap := by
  obtain ⟨_, h0 | ⟨g, cap', cur, hv, hg, _, hcap, _⟩⟩ := id h
  · obtain ⟨hv, hk⟩ := h0
    omega
  · injection hv with h1 h2 h3
    omega

set_option maxHeartbeats 2000000 in
theorem shRough_any (b off n c m d : Nat) (D : Option Addr) (bs : List (Int × Int)) (width : Int) (fs : List Int) (lo hi lo' hi' : Nat) (w : World) (hn : bs.length = n) (hc : n ≤ c) (hm : fs.length = m)
    (hs : Seg w lo hi (some ⟨b, off, none⟩) (flat bs)) (hB : hi ≤ w.heap.size) (ho : Seg w lo' hi' D fs) (hB' : hi' ≤ w.heap.size) (hbo : bothB bs width fs = true) :
    Calls Try.prog 46 #[.slice (some ⟨b, off, none⟩) n c, .int .i64 width, .slice D m d] w fun e w' => e = .returned (.int .i64 (roughK bs width (natsOf fs)).sum) ∧ Below w.heap.size w w' := by
  obtain ⟨ha, hri, hfu⟩ := bothB_at hbo
  obtain ⟨_, _, _, hw1, hw2⟩ := askedK_at ha
  have hrise := rise_of hri
  have hgd := asked_good ha
  have HFB := Lib.hid (fun (k : Nat) (x : Int) (hx : (widthsK bs (natsOf fs))[k]? = some x) => free_bd hrise hgd hfu hw2 hx)
  have HBD := Lib.hid (fun k => sumOf_loop_bd (rough_bd hrise hgd hfu hw2) (by rw [rough_length]; have := hrise.len; have := (goodK_at hgd).2.1; omega) k)
  rw [hn] at hri
  have HN := Lib.hid hn
  have HM := Lib.hid hm
  have HRR := Lib.hid hri
  have HRI := Lib.hid (rise_of hri)
  have HG := Lib.hid (goodK_part hgd)
  have h12 : n ≤ 12 := by have := HG.out.1; rw [hn] at this; omega
  have HQL : Hid ((natsOf fs).length = m) := by rw [natsOf_length]; exact hm
  have hm12 : m ≤ 12 := by have := HRI.out.len; rw [HQL.out] at this; omega
  have hm1 : 1 ≤ m := by have := HRI.out.one; rw [HQL.out] at this; exact this
  clear hn hm hri hfu ha hbo hrise hgd
  go_enter Try.func46, Try.ntmps46
  go_wp2_with fail
  refine (shParts_any b off n c m d _ fs lo' hi' _ hc h12 HM.out ho hB' HRR.out).mono ?_
  rintro e w1 ⟨A1, c1, rfl, hown, hb1⟩
  rw [HQL.out] at hown ⊢
  have hcap := parts_cap hown
  obtain ⟨g, rfl, hg1, hg2, _⟩ := parts_cell hown (j := 0) (by omega)
  obtain ⟨m1, rfl⟩ : ∃ m1, m = m1 + 1 := ⟨m - 1, by omega⟩
  go_wp2
  go_loopw [7, 10, 11, 12, 13, 23] (fun a _ _ _ _ i wr => ∃ k : Nat, k ≤ m1 ∧ i = .int .i64 k ∧ a = .int .i64 ((roughK bs width (natsOf fs)).take k).sum ∧ Below w1.heap.size w1 wr) (fun _ _ _ _ _ i _ => m1 - (intOf i).toNat)
  case atStart => exact ⟨0, Nat.zero_le _, rfl, rfl, Below.refl _ _⟩
  case round =>
    obtain ⟨k, hk, rfl, rfl, hb⟩ := hrel
    have hsb := HBD.out k
    by_cases hlt : k < m1
    · have hkq : k < (natsOf fs).length := by rw [HQL.out]; omega
      obtain ⟨g', hgg, _, _, hcg⟩ := parts_cell hown (j := k) (by omega)
      obtain rfl : g = g' := by injection hgg with hgg; injection hgg
      have hcw := (hb.cell (p := ⟨g, k, none⟩) (by exact hg2)).trans hcg
      have hbb := hb1.trans (hb.mono hb1.size)
      obtain ⟨p1, p2, p3⟩ := part_facts HN.out HRI.out HG.out hkq (hs.below hbb hB)
      have hat := widths_at bs hkq
      have hfr := HFB.out k _ hat
      have hra := rough_at (width := width) (show k < (natsOf fs).length - 1 by rw [HQL.out]; omega) hat
      obtain ⟨pt, hpt⟩ : ∃ pt, partK bs (natsOf fs) k = pt := ⟨_, rfl⟩
      obtain ⟨p, hp⟩ : ∃ p, (natsOf fs).getD k 0 = p := ⟨_, rfl⟩
      obtain ⟨r, hr⟩ : ∃ r, endOf n (natsOf fs) k = r := ⟨_, rfl⟩
      rw [hp, hr] at hcw p1
      rw [hp] at p3
      rw [hpt] at p1 p2 p3 hra hfr
      have P1 := Lib.hid p1
      have P2 := Lib.hid p2
      have P3 := Lib.hid p3
      have HT := Lib.hid (sums_take _ hra)
      obtain ⟨q, hq⟩ : ∃ q, q = ((roughK bs width (natsOf fs)).take k).sum := ⟨_, rfl⟩
      rw [← hq] at HT hsb ⊢
      clear hp hr hpt p1 p2 p3 hcg hat hq hra hgg
      go_wp2_with fail
      refine (shThick_any _ _ _ pt lo hi _ P1.out P3.out (Nat.le_trans hB hbb.size) P2.out).mono ?_
      rintro e w2 ⟨rfl, hb2⟩
      have hb2' := hb.trans (hb2.mono hb.size)
      obtain ⟨s1, hs1⟩ : ∃ s, (ths pt).sum = s := ⟨_, rfl⟩
      obtain ⟨s2, hs2⟩ : ∃ s, mostOf (ths pt) = s := ⟨_, rfl⟩
      obtain ⟨s3, hs3⟩ : ∃ s, mostOf (tls pt) = s := ⟨_, rfl⟩
      rw [hs1] at HT hfr
      rw [hs1, hs2, hs3]
      have hsq := sq_bd (x := width - s1) (by omega) (by omega)
      clear hs1 hs2 hs3
      go_wp2
      go_roundw
      case rel => exact ⟨k + 1, by omega, by go_num, by rw [← HT.out], hb2'⟩
      case measure => simp [intOf]; omega
    · obtain rfl : k = m1 := by omega
      rw [List.take_of_length_le (by rw [rough_length, HQL.out]; omega)]
      go_wp2
      go_ret
      exact ⟨rfl, hb1.trans (hb.mono hb1.size)⟩

set_option maxHeartbeats 4000000 in
theorem roughness_any (b off n c : Nat) (bs : List (Int × Int)) (width : Int) (qs : List Nat) (v0 v1 v2 v3 v4 v5 v6 v7 v8 v9 v10 v11 v12 : Int) (lo hi : Nat) (w : World) (hbl : bs.length = n) (hc : n ≤ c) (hcs : Cells13 #[.int .i64 v0, .int .i64 v1, .int .i64 v2, .int .i64 v3, .int .i64 v4, .int .i64 v5, .int .i64 v6, .int .i64 v7, .int .i64 v8, .int .i64 v9, .int .i64 v10, .int .i64 v11, .int .i64 v12] qs) (hr : Rise n qs) (hgk : goodK bs = true)
    (hfu : fullB bs width qs = true) (hw2 : width ≤ 1000) (hs : Seg w lo hi (some ⟨b, off, none⟩) (flat bs)) (hB : hi ≤ w.heap.size) :
    Calls Try.prog 47 #[.agg #[.int .i64 v0, .int .i64 v1, .int .i64 v2, .int .i64 v3, .int .i64 v4, .int .i64 v5, .int .i64 v6, .int .i64 v7, .int .i64 v8, .int .i64 v9, .int .i64 v10, .int .i64 v11, .int .i64 v12], .slice (some ⟨b, off, none⟩) n c, .int .i64 width] w fun e w' => e = .returned (.int .i64 (roughK bs width qs).sum) ∧ Below w.heap.size w w' := by
  have hg := goodK_part hgk
  have hn : n ≤ 12 := by have := hg.1; omega
  have hl12 := hr.len
  have hone := hr.one
  have hz0 := hcs.zero
  have hrb : Rise bs.length qs := by rw [hbl]; exact hr
  have HFB := Lib.hid (fun (k : Nat) (x : Int) (hx : (widthsK bs qs)[k]? = some x) => free_bd hrb hgk hfu hw2 hx)
  have HBD := Lib.hid (fun k => sumOf_loop_bd (rough_bd hrb hgk hfu hw2) (by rw [rough_length]; omega) k)
  have hw1 : 1 ≤ width := by
    have h := widths_at bs (qs := qs) (k := 0) (by omega)
    have := HFB.out 0 _ h
    omega
  obtain ⟨m, hm⟩ : ∃ m, m = qs.length := ⟨_, rfl⟩
  rw [← hm] at hl12 hz0 hone
  obtain rfl : v0 = (m : Int) := by simpa using hz0
  have HC := Lib.hid hcs
  have HR := Lib.hid hr
  have HG := Lib.hid hg
  have HL := Lib.hid hbl
  have HM := Lib.hid hm
  clear hcs hr hg hbl hm hz0 hrb hgk hfu
  obtain ⟨m1, hm1⟩ : ∃ m1, m = m1 + 1 := ⟨m - 1, by omega⟩
  have hwr : IntKind.i64.wrap ((m : Int) - 1) = (m1 : Int) := by
    have h : ((m : Int) - 1) = (m1 : Int) := by omega
    rw [h, IntKind.wrap_i64]
    omega
  have hle1 : (m1 : Int) ≤ (m : Int) := by omega
  have hle0 : (0 : Int) ≤ (m1 : Int) := by omega
  have HM1 := Lib.hid hm1
  clear hm1
  have hbx := heap_alloc_new w (.cells #[.int .i64 (m : Int), .int .i64 v1, .int .i64 v2, .int .i64 v3, .int .i64 v4, .int .i64 v5, .int .i64 v6, .int .i64 v7, .int .i64 v8, .int .i64 v9, .int .i64 v10, .int .i64 v11, .int .i64 v12] 51)
  have hb0 : Below w.heap.size w (w.alloc (.cells #[.int .i64 (m : Int), .int .i64 v1, .int .i64 v2, .int .i64 v3, .int .i64 v4, .int .i64 v5, .int .i64 v6, .int .i64 v7, .int .i64 v8, .int .i64 v9, .int .i64 v10, .int .i64 v11, .int .i64 v12] 51)).drew := ((Below.refl _ _).alloc (Nat.le_refl _) _).drew
  obtain ⟨q0, q1, q2, q3, q4, q5, q6, q7, q8, q9, q10, q11, q12⟩ := cells_each hbx
  have HBX := Lib.hid hbx
  clear hbx
  go_enter Try.func47, Try.ntmps47
  go_upto_region 2 with (fail)
  refine wp_region_held_drew (S := (fun wq => wq.cell? ⟨w.heap.size, 0, none⟩ = some (.int .i64 (m : Int)) ∧ wq.cell? ⟨w.heap.size, 1, none⟩ = some (.int .i64 v1) ∧ wq.cell? ⟨w.heap.size, 2, none⟩ = some (.int .i64 v2) ∧ wq.cell? ⟨w.heap.size, 3, none⟩ = some (.int .i64 v3) ∧ wq.cell? ⟨w.heap.size, 4, none⟩ = some (.int .i64 v4) ∧ wq.cell? ⟨w.heap.size, 5, none⟩ = some (.int .i64 v5) ∧ wq.cell? ⟨w.heap.size, 6, none⟩ = some (.int .i64 v6) ∧ wq.cell? ⟨w.heap.size, 7, none⟩ = some (.int .i64 v7) ∧ wq.cell? ⟨w.heap.size, 8, none⟩ = some (.int .i64 v8) ∧ wq.cell? ⟨w.heap.size, 9, none⟩ = some (.int .i64 v9) ∧ wq.cell? ⟨w.heap.size, 10, none⟩ = some (.int .i64 v10) ∧ wq.cell? ⟨w.heap.size, 11, none⟩ = some (.int .i64 v11) ∧ wq.cell? ⟨w.heap.size, 12, none⟩ = some (.int .i64 v12))) (by kernel_rfl) ⟨q0, q1, q2, q3, q4, q5, q6, q7, q8, q9, q10, q11, q12⟩ (fun hH0 => ?_)
  refine wpAnyH_take (i := 0) (v := ?_) (ops_at rfl) (by kernel_rfl) (by kernel_rfl) (by kernel_rfl) (fun _ _ _ h => h) (Or.inl ⟨by rfl, ?yr0⟩) (by assumption) ?nr0
  case yr0 => (intro wS hSw; (try dsimp only at hSw); go_simp; try rfl)
  try simp only [Act.put, List.setIfInBounds_toArray, List.set_cons_zero, List.set_cons_succ]
  refine wpAnyH_take (i := 1) (v := ?_) (ops_at rfl) (by kernel_rfl) (by kernel_rfl) (by kernel_rfl) (fun _ _ _ h => h) (Or.inl ⟨by rfl, ?yr1⟩) (by assumption) ?nr1
  case yr1 => (intro wS hSw; (try dsimp only at hSw); go_simp; try rfl)
  try simp only [Act.put, List.setIfInBounds_toArray, List.set_cons_zero, List.set_cons_succ]
  refine wpAnyH_take (i := 3) (v := ?_) (ops_at rfl) (by kernel_rfl) (by kernel_rfl) (by kernel_rfl) (fun _ _ _ h => h) (Or.inl ⟨by rfl, ?yr3⟩) (by assumption) ?nr3
  case yr3 => (intro wS hSw; (try dsimp only at hSw); go_simp; try rfl)
  try simp only [Act.put, List.setIfInBounds_toArray, List.set_cons_zero, List.set_cons_succ]
  refine wpAnyH_take (i := 4) (v := ?_) (ops_at rfl) (by kernel_rfl) (by kernel_rfl) (by kernel_rfl) (fun _ _ _ h => h) (Or.inl ⟨by rfl, ?yr4⟩) (by assumption) ?nr4
  case yr4 => (intro wS hSw; (try dsimp only at hSw); go_simp; try rfl)
  try simp only [Act.put, List.setIfInBounds_toArray, List.set_cons_zero, List.set_cons_succ]
  refine wpAnyH_take (i := 5) (v := ?_) (ops_at rfl) (by kernel_rfl) (by kernel_rfl) (by kernel_rfl) (fun _ _ _ h => h) (Or.inl ⟨by rfl, ?yr5⟩) (by assumption) ?nr5
  case yr5 => (intro wS hSw; (try dsimp only at hSw); go_simp; try rfl)
  try simp only [Act.put, List.setIfInBounds_toArray, List.set_cons_zero, List.set_cons_succ]
  refine wpAnyH_take (i := 8) (v := ?_) (ops_at rfl) (by kernel_rfl) (by kernel_rfl) (by kernel_rfl) (fun _ _ _ h => h) (Or.inl ⟨by rfl, ?yr8⟩) (by assumption) ?nr8
  case yr8 => (intro wS hSw; (try dsimp only at hSw); go_simp; try rfl)
  try simp only [Act.put, List.setIfInBounds_toArray, List.set_cons_zero, List.set_cons_succ]
  refine wpAnyH_ready (rs := [2]) (by kernel_rfl) (by simp) ?_
  refine AllReadyH.cons (ops_at rfl) (fun K hK => ?_) AllReadyH.nil
  go_simp
  refine (widths_any b off n c bs qs _ lo hi _ HL.out hc HC.out HR.out HG.out (hs.below hb0 hB) (Nat.le_trans hB hb0.size)).mono ?_
  rintro e w3 ⟨g3, rfl, har3, hg3, hb3⟩
  rw [← HM.out]
  refine hK.out _ _ (cells_each (((hb3.block _ (by simp [World.drew])).trans HBX.out))) (fun hHr2 => ?_)
  clear hK K
  refine wpAnyH_take (i := 6) (v := ?_) (ops_at rfl) (by kernel_rfl) (by kernel_rfl) (by kernel_rfl) (fun _ _ _ h => h) (Or.inl ⟨by rfl, ?yr6⟩) (by assumption) ?nr6
  case yr6 => (intro wS hSw; (try dsimp only at hSw); go_simp; try rfl)
  try simp only [Act.put, List.setIfInBounds_toArray, List.set_cons_zero, List.set_cons_succ]
  refine wpAnyH_take (i := 7) (v := ?_) (ops_at rfl) (by kernel_rfl) (by kernel_rfl) (by kernel_rfl) (fun _ _ _ h => h) (Or.inl ⟨by rfl, ?yr7⟩) (by assumption) ?nr7
  case yr7 => (intro wS hSw; (try dsimp only at hSw); go_simp; try rfl)
  try simp only [Act.put, List.setIfInBounds_toArray, List.set_cons_zero, List.set_cons_succ]
  refine wpAnyH_done (by kernel_rfl) ?_ _
  clear q0 q1 q2 q3 q4 q5 q6 q7 q8 q9 q10 q11 q12 hHr2
  have hseg3 := (har3.own (lo := g3) (hi := g3 + 1) (Nat.le_refl _) (Nat.lt_succ_self _)).seg
  have hbb := hb0.trans (hb3.mono hb0.size)
  have HML : Hid (qs.length - 1 = m1) := by show _ = _; rw [← HM.out, HM1.out]; omega
  clear har3 hb3
  go_wp2
  go_loop [7, 9, 10, 19] (fun a _ _ i => ∃ k : Nat, k ≤ m1 ∧ i = .int .i64 k ∧ a = .int .i64 ((roughK bs width qs).take k).sum) (fun _ _ _ i => m1 - (intOf i).toNat)
  case atStart => exact ⟨0, Nat.zero_le _, rfl, rfl⟩
  case round =>
    obtain ⟨k, hk, rfl, rfl⟩ := hrel
    have hsb := HBD.out k
    by_cases hlt : k < m1
    · obtain ⟨bq, oq, s1, hA, _, _, hx, hcx⟩ := hseg3.at_ (k := k) (by rw [widths_length, ← HM.out, HM1.out]; omega)
      obtain ⟨rfl, rfl⟩ : g3 = bq ∧ 0 = oq := by injection hA with hA; injection hA with h1 h2; exact ⟨h1, h2⟩
      have hcx' : w3.cell? ⟨g3, k, none⟩ = some (.int .i64 s1) := by simpa using hcx
      have hfr := HFB.out k _ hx
      have hra := rough_at (width := width) (show k < qs.length - 1 by rw [HML.out]; exact hlt) hx
      have HT := Lib.hid (sums_take _ hra)
      obtain ⟨q, hq⟩ : ∃ q, q = ((roughK bs width qs).take k).sum := ⟨_, rfl⟩
      rw [← hq] at HT hsb ⊢
      have hsq := sq_bd (x := width - s1) (by omega) (by omega)
      clear hx hcx hra hq hA
      go_wp2
      go_round
      case rel => exact ⟨k + 1, by omega, by go_num, by rw [← HT.out]⟩
      case measure => simp [intOf]; omega
    · obtain rfl : k = m1 := by omega
      rw [List.take_of_length_le (by rw [rough_length, HML.out]; exact Nat.le_refl _)]
      go_wp2
      go_ret
      exact ⟨rfl, hbb⟩
end Go.Proofs.Ytmdeijjlcebmaaa

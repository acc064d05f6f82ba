/-
  Both programs' books with one of them taken out and put in again.
  Conditions: the list has at most 1048576 books.
-/
import Derived.Test.YtplohhmggfifkaaMoveIn
import Derived.Test.YtplohhmggfifkaaBookAsk
import Derived.Test.YtplohhmggfifkaaAppendK
import Derived.Test.YtplohhmggfifkaaTallest
namespace Go.Proofs.Ytplohhmggfifkaa
set_option linter.unusedVariables false
open Go.RowKit

def delK (bs : List (Int × Int)) (f : Nat) : List (Int × Int) := bs.take f ++ bs.drop (f + 1)
/-- The books behind the move. -/
def moveK (bs : List (Int × Int)) (f t : Int) : List (Int × Int) := (delK bs f.toNat).take t.toNat ++ bs.getD f.toNat (0, 0) :: (delK bs f.toNat).drop t.toNat
def moveB (bs : List (Int × Int)) (f t : Int) : Bool := goodK bs && (inB f 0 ((bs.length : Int) - 1) && inB t 0 ((bs.length : Int) - 1))

theorem moveB_true {bs : List (Int × Int)} {f t : Int} (h : moveB bs f t = true) : goodK bs = true ∧ (0 ≤ f ∧ f ≤ (bs.length : Int) - 1) ∧ 0 ≤ t ∧ t ≤ (bs.length : Int) - 1 := by
  simp only [moveB, Bool.and_eq_true, inB_true] at h
  exact h

theorem delK_length {bs : List (Int × Int)} {f : Nat} (h : f < bs.length) : (delK bs f).length + 1 = bs.length := by simp [delK]; omega
theorem moveK_length {bs : List (Int × Int)} {f t : Int} (h : moveB bs f t = true) : (moveK bs f t).length = bs.length := by
  obtain ⟨_, hf, ht⟩ := moveB_true h
  have := delK_length (bs := bs) (f := f.toNat) (by omega)
  simp [moveK]
  omega

theorem vals_cut (bs : List (Int × Int)) (f : Nat) {a b : Int} (h : bs[f]? = some (a, b)) : vals bs = vals (bs.take f) ++ (two a b ++ vals (bs.drop (f + 1))) := by
  have hf := (List.getElem?_eq_some_iff.1 h).1
  have e : bs = bs.take f ++ (a, b) :: bs.drop (f + 1) := by
    conv => lhs; rw [← List.take_append_drop f bs]
    congr 1
    rw [List.drop_eq_getElem_cons hf]
    congr 1
    rw [List.getElem?_eq_getElem hf] at h
    injection h
  conv => lhs; rw [e]
  rw [vals_append]
  rfl
theorem vals_ones (bs : List (Int × Int)) : ∀ v ∈ vals bs, v.oneCell' = true := ints_oneCell _ _

theorem keepC {w w' : World} {p p' : Addr} {u u' : Value} (h : Below w.heap.size w w') (hp : w.cell? p = some u) (hp' : w.cell? p' = some u') : w'.cell? p = some u ∧ w'.cell? p' = some u' :=
  ⟨(h.cell (cell_lt hp)).trans hp, (h.cell (cell_lt hp')).trans hp'⟩

theorem seg_drew1 {w : World} {lo hi : Nat} {A : Option Addr} {xs : List Int} (h : Seg w lo hi A xs) : Seg w.drew lo hi A xs := h.keep (fun _ _ _ => rfl)

theorem flat_sub_take {w : World} {lo hi b off : Nat} {bs : List (Int × Int)} (h : Seg w lo hi (some ⟨b, off, none⟩) (flat bs)) (j : Nat) : Seg w lo hi (some ⟨b, off, none⟩) (flat (bs.take j)) := by
  have := h.cut 0 j
  simpa using this

section
variable (A : Option Addr) (n c : Nat) (bs : List (Int × Int)) (f t : Int) (lo hi : Nat) (w : World) (hn : bs.length = n) (hlen : n ≤ 1048576) (hnc : n ≤ c)
    (hf : -9223372036854775808 ≤ f ∧ f ≤ 9223372036854775807) (ht : -9223372036854775808 ≤ t ∧ t ≤ 9223372036854775807)
    (hs : Seg w lo hi A (flat bs)) (hB : hi ≤ w.heap.size) (q : Bool) (hq : moveB bs f t = q)
include hn hlen hnc hf ht hs hB hq

set_option maxRecDepth 100000 in
set_option maxHeartbeats 4000000 in
theorem implMoveBook_any : Calls Try.prog 47 #[.slice A n c, .int .i64 f, .int .i64 t] w (RetKL q (listK q (moveK bs f t)) w) := by
  have HN := Lib.hid hn
  have HQ := Lib.hid hq
  cases q
  · obtain ⟨gq, hgq⟩ : ∃ gq, goodK bs = gq := ⟨_, rfl⟩
    have HG := Lib.hid hgq
    have hno : gq = true → ¬ ((0 ≤ f ∧ f ≤ (n : Int) - 1) ∧ 0 ≤ t ∧ t ≤ (n : Int) - 1) := by
      rintro rfl ⟨h1, h2⟩
      rw [moveB, hgq, hn, inB_true.2 h1, inB_true.2 h2] at hq
      cases hq
    clear hn hq hgq
    go_enter Try.func47, Try.ntmps47
    cases gq
    · go_wp2_with fail
      refine (areBooks_any _ _ _ bs lo hi _ HN.out hlen hs hB _ HG.out).mono ?_
      rintro e w1 ⟨rfl, hb1⟩
      go_wp2
      go_ret2
      exact ⟨none, 0, 0, rfl, rfl, Own.nil_, hb1⟩
    · have hno := hno rfl
      by_cases f1 : f < 0
      · clear hno
        go_wp2_with fail
        refine (areBooks_any _ _ _ bs lo hi _ HN.out hlen hs hB _ HG.out).mono ?_
        rintro e w1 ⟨rfl, hb1⟩
        go_wp2
        go_ret2
        exact ⟨none, 0, 0, rfl, rfl, Own.nil_, hb1⟩
      by_cases f2 : f ≥ (n : Int)
      · clear hno
        go_wp2_with fail
        refine (areBooks_any _ _ _ bs lo hi _ HN.out hlen hs hB _ HG.out).mono ?_
        rintro e w1 ⟨rfl, hb1⟩
        go_wp2
        go_ret2
        exact ⟨none, 0, 0, rfl, rfl, Own.nil_, hb1⟩
      by_cases t1 : t < 0
      · clear hno
        go_wp2_with fail
        refine (areBooks_any _ _ _ bs lo hi _ HN.out hlen hs hB _ HG.out).mono ?_
        rintro e w1 ⟨rfl, hb1⟩
        go_wp2
        go_ret2
        exact ⟨none, 0, 0, rfl, rfl, Own.nil_, hb1⟩
      have t2 : t ≥ (n : Int) := by omega
      clear hno
      go_wp2_with fail
      refine (areBooks_any _ _ _ bs lo hi _ HN.out hlen hs hB _ HG.out).mono ?_
      rintro e w1 ⟨rfl, hb1⟩
      go_wp2
      go_ret2
      exact ⟨none, 0, 0, rfl, rfl, Own.nil_, hb1⟩
  · obtain ⟨hg, hf2, ht2⟩ := moveB_true hq
    rw [hn] at hf2 ht2
    obtain ⟨F, rfl⟩ : ∃ F : Nat, f = (F : Int) := ⟨f.toNat, by omega⟩
    obtain ⟨T, rfl⟩ : ∃ T : Nat, t = (T : Int) := ⟨t.toNat, by omega⟩
    obtain ⟨k, rfl⟩ : ∃ k, n = k + 1 := ⟨n - 1, by omega⟩
    have hFk : F ≤ k := by omega
    have hTk : T ≤ k := by omega
    obtain ⟨b, off, x0, x1, rfl, hb0, hbh, hx, hc0, hc1⟩ := hs.book (k := F) (by omega)
    have HX := Lib.hid hx
    have HMV := Lib.hid (show moveK bs F T = (delK bs F).take T ++ (x0, x1) :: (delK bs F).drop T by simp [moveK, hx])
    have HML := Lib.hid ((moveK_length hq).trans hn)
    have HG := Lib.hid hg
    have hdl := delK_length (bs := bs) (f := F) (by omega)
    have HDL := Lib.hid (show (delK bs F).length = k by omega)
    have f1 : ¬ ((F : Int) < 0) := by omega
    have f2 : ¬ ((F : Int) ≥ (k : Int) + 1) := by omega
    have t1 : ¬ ((T : Int) < 0) := by omega
    have t2 : ¬ ((T : Int) ≥ (k : Int) + 1) := by omega
    clear hn hq hx hg hf2 ht2 hdl
    go_enter Try.func47, Try.ntmps47
    go_wp2_with fail
    refine (areBooks_any _ _ _ bs lo hi _ HN.out hlen hs hB _ HG.out).mono ?_
    rintro e w1 ⟨rfl, hb1⟩
    have hz1 := hb1.size
    go_wp2_with fail
    refine (slicesCloneK_any _ _ _ bs lo hi _ HN.out hlen (hs.below hb1 hB) (Nat.le_trans hB hz1)).mono ?_
    rintro e w2 ⟨v2, rfl, hown2, hb2⟩
    obtain ⟨g, cap, R, rfl, hg0, hg1, hcap, hcm, _, hRl, hblk⟩ := row_block hown2 (.inl (by omega))
    rw [vals_cut bs F HX.out, List.append_assoc, List.append_assoc] at hblk
    have HB2 := Lib.hid (hb1.trans (hb2.mono hz1))
    have hz2 := HB2.out.size
    clear hown2
    go_wp2_with fail
    refine (deleteK_any g k cap F (vals (bs.take F)) (two x0 x1) (vals (bs.drop (F + 1))) R _ hFk hcap hcm (by rw [vals_length, List.length_take, HN.out]; omega) rfl (by rw [vals_length, List.length_drop, HN.out]; omega) hblk (vals_ones _)).mono ?_
    rintro e w3 ⟨rfl, hblk3, hb3⟩
    rw [← List.append_assoc, ← vals_append, show bs.take F ++ bs.drop (F + 1) = (delK bs F).take T ++ (delK bs F).drop T by rw [List.take_append_drop]; rfl, vals_append, List.append_assoc] at hblk3
    have hg3 : w.heap.size ≤ g := Nat.le_trans hz1 hg0
    have HB3 := Lib.hid (HB2.out.trans (hb3.mono hg3))
    have hz3 := HB3.out.size
    have hlt3 := hb3.size
    have hcb0 : w3.cell? ⟨b, off + F * 2, none⟩ = some (.int .i64 x0) := (HB3.out.cell (by exact Nat.lt_of_lt_of_le hbh hB)).trans hc0
    have hcb1 : w3.cell? ⟨b, off + F * 2 + 1, none⟩ = some (.int .i64 x1) := (HB3.out.cell (by exact Nat.lt_of_lt_of_le hbh hB)).trans hc1
    have HBLK := Lib.hid ((alloc_old w3 (Nat.lt_of_lt_of_le hg1 hlt3) (.cells #[.int .i64 x0, .int .i64 x1] 51)).trans hblk3)
    have HNEW := Lib.hid (new_at w3 (.cells #[.int .i64 x0, .int .i64 x1] 51) rfl)
    have HB4 := Lib.hid (HB3.out.alloc hz3 (.cells #[.int .i64 x0, .int .i64 x1] 51))
    have HX2 := Lib.hid (show ((delK bs F).take T).length = T by rw [List.length_take, HDL.out]; omega)
    have HY2 := Lib.hid (show ((delK bs F).drop T).length = k - T by rw [List.length_drop, HDL.out])
    clear hblk hblk3 hc0 hc1
    go_wp2_with fail
    refine (insertK_any g k cap T w3.heap.size (vals ((delK bs F).take T)) (vals ((delK bs F).drop T)) zz R x0 x1 _ hTk hcap hcm (by rw [vals_length, HX2.out]) (by rw [vals_length, HY2.out]) rfl hRl HBLK.out (vals_ones _) HNEW.out (by omega)).mono ?_
    rintro e w5 ⟨rfl, hblk5, hb5⟩
    have HL := Lib.hid (show vals ((delK bs F).take T) ++ (two x0 x1 ++ (vals ((delK bs F).drop T) ++ R)) = vals (moveK bs F T) ++ R by rw [HMV.out, vals_append]; simp [vals, flat, two])
    rw [HL.out] at hblk5
    have hb6 := HB4.out.trans (hb5.mono hg3)
    have HOWN := Lib.hid (own_block (lo := w.heap.size) (hi := w5.heap.size) hblk5 hg3 (heap_lt hblk5))
    clear hblk5
    go_wp2
    go_ret2
    exact ⟨_, _, _, rfl, HML.out, HOWN.out, hb6⟩

set_option maxRecDepth 100000 in
set_option maxHeartbeats 4000000 in
theorem specMoveBook_any : Calls Try.prog 46 #[.slice A n c, .int .i64 f, .int .i64 t] w (RetKL q (listK q (moveK bs f t)) w) := by
  obtain ⟨i0, hi0, hz0, hz1, hz2⟩ := info_parts book_info
  have HN := Lib.hid hn
  have hwn : IntKind.i64.wrap ((n : Int) - 1) = (n : Int) - 1 := by rw [IntKind.wrap_i64]; omega
  cases q
  · obtain ⟨gq, hgq⟩ : ∃ gq, goodK bs = gq := ⟨_, rfl⟩
    obtain ⟨fq, hfq⟩ : ∃ fq, inB f 0 ((n : Int) - 1) = fq := ⟨_, rfl⟩
    obtain ⟨tq, htq⟩ : ∃ tq, inB t 0 ((n : Int) - 1) = tq := ⟨_, rfl⟩
    have hqq : (gq && (fq && tq)) = false := by rw [← hq, moveB, hgq, hn, hfq, htq]
    have HG := Lib.hid hgq
    have HFQ := Lib.hid hfq
    have HTQ := Lib.hid htq
    clear hn hq hgq hfq htq
    cases gq
    · clear hqq
      go_enter Try.func46, Try.ntmps46
      go_wp2_with fail
      refine (shGood_any _ _ _ bs lo hi _ HN.out hlen hs hB _ HG.out).mono ?_
      rintro e w1 ⟨rfl, hb1⟩
      go_wp2
      go_ret2
      exact ⟨none, 0, 0, rfl, rfl, Own.nil_, hb1⟩
    cases fq
    · clear hqq
      go_enter Try.func46, Try.ntmps46
      go_wp2_with fail
      refine (shGood_any _ _ _ bs lo hi _ HN.out hlen hs hB _ HG.out).mono ?_
      rintro e w1 ⟨rfl, hb1⟩
      go_wp2_with fail
      refine (l1In_any _ _ _ false HFQ.out _).mono ?_
      rintro e w2 ⟨rfl, rfl⟩
      go_wp2
      go_ret2
      exact ⟨none, 0, 0, rfl, rfl, Own.nil_, hb1⟩
    obtain rfl : tq = false := by simpa using hqq
    clear hqq
    go_enter Try.func46, Try.ntmps46
    go_wp2_with fail
    refine (shGood_any _ _ _ bs lo hi _ HN.out hlen hs hB _ HG.out).mono ?_
    rintro e w1 ⟨rfl, hb1⟩
    go_wp2_with fail
    refine (l1In_any _ _ _ true HFQ.out _).mono ?_
    rintro e w2 ⟨rfl, rfl⟩
    go_wp2_with fail
    refine (l1In_any _ _ _ false HTQ.out _).mono ?_
    rintro e w3 ⟨rfl, rfl⟩
    go_wp2
    go_ret2
    exact ⟨none, 0, 0, rfl, rfl, Own.nil_, hb1⟩
  · obtain ⟨hg, hf2, ht2⟩ := moveB_true hq
    rw [hn] at hf2 ht2
    obtain ⟨F, rfl⟩ : ∃ F : Nat, f = (F : Int) := ⟨f.toNat, by omega⟩
    obtain ⟨T, rfl⟩ : ∃ T : Nat, t = (T : Int) := ⟨t.toNat, by omega⟩
    obtain ⟨k, rfl⟩ : ∃ k, n = k + 1 := ⟨n - 1, by omega⟩
    have HFQ := Lib.hid (show inB (F : Int) 0 (k : Int) = true from inB_true.2 (by omega))
    have HTQ := Lib.hid (show inB (T : Int) 0 (k : Int) = true from inB_true.2 (by omega))
    have hFk : F ≤ k := by omega
    have hTk : T ≤ k := by omega
    obtain ⟨b, off, x0, x1, rfl, hb0, hbh, hx, hc0, hc1⟩ := hs.book (k := F) (by omega)
    have HX := Lib.hid hx
    have HMV := Lib.hid (show moveK bs F T = (delK bs F).take T ++ (x0, x1) :: (delK bs F).drop T by simp [moveK, hx])
    have HML := Lib.hid ((moveK_length hq).trans hn)
    have HG := Lib.hid hg
    have hdl := delK_length (bs := bs) (f := F) (by omega)
    have HDL := Lib.hid (show (delK bs F).length = k by omega)
    have hw1 : IntKind.i64.wrap ((F : Int) + 1) = (F : Int) + 1 := by rw [IntKind.wrap_i64]; omega
    have htn : ((F : Int) + 1).toNat = F + 1 := by omega
    have hb3 : (F : Int) + 1 ≤ (k : Int) + 1 := by omega
    have hb4 : (0 : Int) ≤ (F : Int) + 1 := by omega
    have hb5 : F ≤ c := by omega
    obtain ⟨adA, hsA⟩ : ∃ adA : Addr, (if c = F + 1 then some (⟨b, off, none⟩ : Addr) else some ⟨b, off + (F + 1) * 2, none⟩) = some adA := by split <;> exact ⟨_, rfl⟩
    have HSD := Lib.hid (show ∀ W : World, Seg W lo hi (some ⟨b, off, none⟩) (flat bs) → Seg W lo hi (some adA) (flat (bs.drop (F + 1))) by
      intro W hW
      by_cases hc : c = F + 1
      · have e : bs.drop (F + 1) = [] := List.drop_of_length_le (by omega)
        rw [e]
        exact .inl rfl
      · rw [if_neg hc] at hsA
        rw [← hsA]
        have := hW.cut (F + 1) bs.length
        simpa using this)
    clear hn hq hx hg hf2 ht2 hdl
    go_enter Try.func46, Try.ntmps46
    go_wp2_with fail
    refine (shGood_any _ _ _ bs lo hi _ HN.out hlen hs hB _ HG.out).mono ?_
    rintro e w1 ⟨rfl, hb1⟩
    have hy1 := hb1.size
    go_wp2_with fail
    refine (l1In_any _ _ _ true HFQ.out _).mono ?_
    rintro e w2 ⟨rfl, rfl⟩
    go_wp2_with fail
    refine (l1In_any _ _ _ true HTQ.out _).mono ?_
    rintro e w3 ⟨rfl, rfl⟩
    have hs1 := Lib.hid (hs.below hb1 hB)
    have hcb0 := (hb1.cell (show (⟨b, off + F * 2, none⟩ : Addr).block < w.heap.size from Nat.lt_of_lt_of_le hbh hB)).trans hc0
    have hcb1 := (hb1.cell (show (⟨b, off + F * 2 + 1, none⟩ : Addr).block < w.heap.size from Nat.lt_of_lt_of_le hbh hB)).trans hc1
    have HC0 := Lib.hid hcb0
    have HC1 := Lib.hid hcb1
    clear hs hc0 hc1 hcb0 hcb1
    go_wp2_with fail
    refine wp_region_held_drew (S := (fun _ => True)) (by kernel_rfl) trivial (fun hH0 => ?_)
    refine wpAnyH_take (i := 1) (v := ?_) (ops_at rfl) (by kernel_rfl) (by kernel_rfl) (by kernel_rfl) (fun _ _ _ h => h) (Or.inl ⟨by rfl, ?ya1⟩) (by assumption) ?na1
    case ya1 => (intro wS hSw; (try dsimp only at hSw); go_simp; try rfl)
    try simp only [Act.put, List.setIfInBounds_toArray, List.set_cons_zero, List.set_cons_succ]
    refine wpAnyH_take (i := 2) (v := ?_) (ops_at rfl) (by kernel_rfl) (by kernel_rfl) (by kernel_rfl) (fun _ _ _ h => h) (Or.inl ⟨by rfl, ?ya2⟩) (by assumption) ?na2
    case ya2 => (intro wS hSw; (try dsimp only at hSw); go_simp; try rfl)
    try simp only [Act.put, List.setIfInBounds_toArray, List.set_cons_zero, List.set_cons_succ]
    refine wpAnyH_take (i := 3) (v := ?_) (ops_at rfl) (by kernel_rfl) (by kernel_rfl) (by kernel_rfl) (fun _ _ _ h => h) (Or.inl ⟨by rfl, ?ya3⟩) (by assumption) ?na3
    case ya3 => (intro wS hSw; (try dsimp only at hSw); go_simp; try rfl)
    try simp only [Act.put, List.setIfInBounds_toArray, List.set_cons_zero, List.set_cons_succ]
    refine wpAnyH_take (i := 5) (v := ?_) (ops_at rfl) (by kernel_rfl) (by kernel_rfl) (by kernel_rfl) (fun _ _ _ h => h) (Or.inl ⟨by rfl, ?ya5⟩) (by assumption) ?na5
    case ya5 => (intro wS hSw; (try dsimp only at hSw); go_simp; try rfl)
    try simp only [Act.put, List.setIfInBounds_toArray, List.set_cons_zero, List.set_cons_succ]
    refine wpAnyH_take (i := 6) (v := ?_) (ops_at rfl) (by kernel_rfl) (by kernel_rfl) (by kernel_rfl) (fun _ _ _ h => h) (Or.inl ⟨by rfl, ?ya6⟩) (by assumption) ?na6
    case ya6 => (intro wS hSw; (try dsimp only at hSw); go_simp; try rfl)
    try simp only [Act.put, List.setIfInBounds_toArray, List.set_cons_zero, List.set_cons_succ]
    refine wpAnyH_take (i := 7) (v := ?_) (ops_at rfl) (by kernel_rfl) (by kernel_rfl) (by kernel_rfl) (fun _ _ _ h => h) (Or.inl ⟨by rfl, ?ya7⟩) (by assumption) ?na7
    case ya7 => (intro wS hSw; (try dsimp only at hSw); go_simp; try rfl)
    try simp only [Act.put, List.setIfInBounds_toArray, List.set_cons_zero, List.set_cons_succ]
    refine wpAnyH_take (i := 8) (v := ?_) (ops_at rfl) (by kernel_rfl) (by kernel_rfl) (by kernel_rfl) (fun _ _ _ h => h) (Or.inl ⟨by rfl, ?ya8⟩) (by assumption) ?na8
    case ya8 => (intro wS hSw; (try dsimp only at hSw); go_simp; try rfl)
    try simp only [Act.put, List.setIfInBounds_toArray, List.set_cons_zero, List.set_cons_succ]
    refine wpAnyH_ready (rs := [0]) (by kernel_rfl) (by simp) ?_
    refine AllReadyH.cons (ops_at rfl) (fun K hK => ?_) AllReadyH.nil
    go_simp
    have z0 := (((Below.refl w1.heap.size w1).alloc (Nat.le_refl _) (.cells #[] 51)).drew)
    have R0 := World.ownsRow_lit (base := w1.heap.size) (e := 51) (size := 2) w1 #[] 0 (Nat.le_refl _) (Nat.zero_le _) rfl
    refine hK.out _ _ trivial (fun _ => ?_)
    clear hK K
    refine wpAnyH_ready (rs := [4]) (by kernel_rfl) (by simp) ?_
    refine AllReadyH.cons (ops_at rfl) (fun K hK => ?_) AllReadyH.nil
    refine step_append_flatN rfl (.tmp 29) (.tmp 32) 25 rfl w1.heap.size 51 i0 Try.underlying25 hi0 hz0 hz1 hz2 _ 0 _ rfl R0 (by intro h; cases h) ⟨b, off, none⟩ F _ (bs.take F) lo hi rfl (by rw [List.length_take, HN.out]; omega) ((flat_sub_take hs1.out F).below z0 (Nat.le_trans hB hy1)) (by omega) z0.size ?_
    intro va xa hoa hga hna
    have za := z0.trans (below_of_grown hga (fun g hg => (R0.lt g hg).1) z0.size)
    refine hK.out _ _ trivial (fun _ => ?_)
    clear hK K
    refine wpAnyH_ready (rs := [9]) (by kernel_rfl) (by simp) ?_
    refine AllReadyH.cons (ops_at rfl) (fun K hK => ?_) AllReadyH.nil
    refine step_append_flatN rfl (.tmp 33) (.tmp 37) 25 rfl w1.heap.size 51 i0 Try.underlying25 hi0 hz0 hz1 hz2 _ (0 + F) _ rfl hoa hna adA (k - F) _ (bs.drop (F + 1)) lo hi rfl (by rw [List.length_drop, HN.out]; omega) ((HSD.out _ hs1.out).below za (Nat.le_trans hB hy1)) (by omega) za.size ?_
    intro vb xb hob hgb hnb
    have zb := za.trans (below_of_grown hgb (fun g hg => (hoa.lt g hg).1) za.size)
    refine hK.out _ _ trivial (fun _ => ?_)
    clear hK K
    have hF : xb.ownsRow w1.heap.size 51 2 vb k (vals (delK bs F)) := by
      have e : k = 0 + F + (k - F) := by omega
      rw [e, delK, vals_append]
      exact hob
    obtain ⟨g2, c2, R2, rfl, hg20, hg21, hk2, hcm2, _, _, hblk2⟩ := row_block hF (.inr hnb)
    refine wpAnyH_take (i := 10) (v := ?_) (ops_at rfl) (by kernel_rfl) (by kernel_rfl) (by kernel_rfl) (fun _ _ _ h => h) (Or.inl ⟨by rfl, ?ya10⟩) (by assumption) ?na10
    case ya10 => (intro wS hSw; (try dsimp only at hSw); go_simp; try rfl)
    try simp only [Act.put, List.setIfInBounds_toArray, List.set_cons_zero, List.set_cons_succ]
    refine wpAnyH_done (by kernel_rfl) ?_ _
    have hy2 := zb.size
    have hbx := hb1.trans (zb.mono hy1)
    have hcx0 := (zb.cell (show (⟨b, off + F * 2, none⟩ : Addr).block < w1.heap.size from Nat.lt_of_lt_of_le hbh (Nat.le_trans hB hy1))).trans HC0.out
    have hcx1 := (zb.cell (show (⟨b, off + F * 2 + 1, none⟩ : Addr).block < w1.heap.size from Nat.lt_of_lt_of_le hbh (Nat.le_trans hB hy1))).trans HC1.out
    have HROW := Lib.hid (own_block (lo := w1.heap.size) (hi := xb.heap.size) hblk2 hg20 hg21)
    have HBX := Lib.hid hbx
    have hTc : T ≤ c2 := by omega
    have hTki : (T : Int) ≤ (k : Int) := by omega
    have HCX0 := Lib.hid hcx0
    have HCX1 := Lib.hid hcx1
    have hFi : (F : Int) < (k : Int) + 1 := by omega
    clear hblk2 hF hob hbx hoa hga hgb zb za z0 R0 hnb hna
    go_wp2_with fail
    refine wp_region_held_drew (S := (fun wq => wq.cell? ⟨b, off + F * 2, none⟩ = some (.int .i64 x0) ∧ wq.cell? ⟨b, off + F * 2 + 1, none⟩ = some (.int .i64 x1))) (by kernel_rfl) ⟨HCX0.out, HCX1.out⟩ (fun hH0 => ?_)
    refine wpAnyH_take (i := 1) (v := ?_) (ops_at rfl) (by kernel_rfl) (by kernel_rfl) (by kernel_rfl) (fun _ _ _ h => h) (Or.inl ⟨by rfl, ?yb1⟩) (by assumption) ?nb1
    case yb1 => (intro wS hSw; (try dsimp only at hSw); go_simp; try rfl)
    try simp only [Act.put, List.setIfInBounds_toArray, List.set_cons_zero, List.set_cons_succ]
    refine wpAnyH_take (i := 2) (v := ?_) (ops_at rfl) (by kernel_rfl) (by kernel_rfl) (by kernel_rfl) (fun _ _ _ h => h) (Or.inl ⟨by rfl, ?yb2⟩) (by assumption) ?nb2
    case yb2 => (intro wS hSw; (try dsimp only at hSw); go_simp; try rfl)
    try simp only [Act.put, List.setIfInBounds_toArray, List.set_cons_zero, List.set_cons_succ]
    refine wpAnyH_take (i := 3) (v := ?_) (ops_at rfl) (by kernel_rfl) (by kernel_rfl) (by kernel_rfl) (fun _ _ _ h => h) (Or.inl ⟨by rfl, ?yb3⟩) (by assumption) ?nb3
    case yb3 => (intro wS hSw; (try dsimp only at hSw); go_simp; try rfl)
    try simp only [Act.put, List.setIfInBounds_toArray, List.set_cons_zero, List.set_cons_succ]
    refine wpAnyH_take (i := 5) (v := ?_) (ops_at rfl) (by kernel_rfl) (by kernel_rfl) (by kernel_rfl) (fun _ _ _ h => h) (Or.inl ⟨by rfl, ?yb5⟩) (by assumption) ?nb5
    case yb5 => (intro wS hSw; (try dsimp only at hSw); go_simp; try rfl)
    try simp only [Act.put, List.setIfInBounds_toArray, List.set_cons_zero, List.set_cons_succ]
    refine wpAnyH_take (i := 6) (v := ?_) (ops_at rfl) (by kernel_rfl) (by kernel_rfl) (by kernel_rfl) (fun _ _ _ h => h) (Or.inl ⟨by rfl, ?yb6⟩) (by assumption) ?nb6
    case yb6 => (intro wS hSw; (try dsimp only at hSw); go_simp; try rfl)
    try simp only [Act.put, List.setIfInBounds_toArray, List.set_cons_zero, List.set_cons_succ]
    refine wpAnyH_take (i := 7) (v := ?_) (ops_at rfl) (by kernel_rfl) (by kernel_rfl) (by kernel_rfl) (fun _ _ _ h => h) (Or.inl ⟨by rfl, ?yb7⟩) (by assumption) ?nb7
    case yb7 => (intro wS hSw; (try dsimp only at hSw); go_simp; try rfl)
    try simp only [Act.put, List.setIfInBounds_toArray, List.set_cons_zero, List.set_cons_succ]
    refine wpAnyH_take (i := 8) (v := ?_) (ops_at rfl) (by kernel_rfl) (by kernel_rfl) (by kernel_rfl) (fun _ _ _ h => h) (Or.inl ⟨by rfl, ?yb8⟩) (by assumption) ?nb8
    case yb8 => (intro wS hSw; (try dsimp only at hSw); go_simp; try rfl)
    try simp only [Act.put, List.setIfInBounds_toArray, List.set_cons_zero, List.set_cons_succ]
    refine wpAnyH_ready (rs := [0, 9]) (by kernel_rfl) (by simp) ?_
    refine AllReadyH.cons (ops_at rfl) (fun K hK => ?_) (AllReadyH.cons (ops_at rfl) (fun K hK => ?_) AllReadyH.nil)
    · go_simp
      have z0 := ((Below.refl xb.heap.size xb).alloc (Nat.le_refl _) (.cells #[] 51)).drew
      have R0 := World.ownsRow_lit (base := xb.heap.size) (e := 51) (size := 2) xb #[] 0 (Nat.le_refl _) (Nat.zero_le _) rfl
      refine hK.out _ _ (keepC z0 HCX0.out HCX1.out) (fun hHz0 => ?_)
      clear hK K
      refine wpAnyH_ready (rs := [4, 9]) (by kernel_rfl) (by simp) ?_
      refine AllReadyH.cons (ops_at rfl) (fun K hK => ?_) (AllReadyH.cons (ops_at rfl) (fun K hK => ?_) AllReadyH.nil)
      · have sgxc1 := (flat_sub_take HROW.out.seg T).below z0 (Nat.le_refl _)
        refine step_append_flat _ rfl (.tmp 39) (.tmp 42) 25 rfl xb.heap.size 51 i0 Try.underlying25 hi0 hz0 hz1 hz2 _ 0 _ rfl R0 _ T _ ((delK bs F).take T) _ _ rfl (by rw [List.length_take, HDL.out]; omega) sgxc1 (by omega) z0.size ?_
        intro vxc1 xc1 hoxc1 hgxc1
        have zxc1 := z0.trans (below_of_grown hgxc1 (fun g hg => (R0.lt g hg).1) z0.size)
        refine hK.out _ _ (keepC zxc1 HCX0.out HCX1.out) (fun hHzxc1 => ?_)
        clear hK K
        refine wpAnyH_ready (rs := [9]) (by kernel_rfl) (by simp) ?_
        refine AllReadyH.cons (ops_at rfl) (fun K hK => ?_) AllReadyH.nil
        go_simp
        have z6 := zxc1.alloc zxc1.size (.cells #[.int .i64 x0, .int .i64 x1] 51)
        have R6 := hoxc1.alloc (.cells #[.int .i64 x0, .int .i64 x1] 51)
        have L6 := seg_book xc1 x0 x1 51
        refine hK.out _ _ (keepC z6 HCX0.out HCX1.out) (fun hHz6 => ?_)
        clear hK K
        refine wpAnyH_ready (rs := [10]) (by kernel_rfl) (by simp) ?_
        refine AllReadyH.cons (ops_at rfl) (fun K hK => ?_) AllReadyH.nil
        refine step_append_flat _ rfl (.tmp 43) (.tmp 48) 25 rfl xb.heap.size 51 i0 Try.underlying25 hi0 hz0 hz1 hz2 _ (0 + T) _ rfl R6 _ 1 1 [(x0, x1)] _ _ rfl rfl L6 (by omega) z6.size ?_
        intro vxd xd hoxd hgxd
        have zxd := z6.trans (below_of_grown hgxd (fun g hg => (R6.lt g hg).1) z6.size)
        refine hK.out _ _ (keepC zxd HCX0.out HCX1.out) (fun hHzxd => ?_)
        clear hK K
        have HF := Lib.hid (show xd.ownsRow xb.heap.size 51 2 vxd (T + 1) (vals ((delK bs F).take T ++ [(x0, x1)])) by rw [vals_append]; simpa using hoxd)
        clear hoxd
        refine wpAnyH_take (i := 11) (v := ?_) (ops_at rfl) (by kernel_rfl) (by kernel_rfl) (by kernel_rfl) (fun _ _ _ h => h) (Or.inl ⟨by rfl, ?yp11⟩) (by assumption) ?np11
        case yp11 => (intro wS hSw; (try dsimp only at hSw); go_simp; try rfl)
        try simp only [Act.put, List.setIfInBounds_toArray, List.set_cons_zero, List.set_cons_succ]
        refine wpAnyH_done (by kernel_rfl) ?_ _
        by_cases hcj : c2 = T
        · have HDN := Lib.hid (show (delK bs F).drop T = [] from List.drop_of_length_le (by rw [HDL.out]; omega))
          go_wp2_with (at_builtin; refine wpList_append_flat _ rfl _ _ 25 rfl xb.heap.size 51 i0 Try.underlying25 hi0 hz0 hz1 hz2 _ (T + 1) _ rfl HF.out _ (k - T) _ ((delK bs F).drop T) _ _ rfl (by rw [List.length_drop, HDL.out]) (show Seg xd 0 0 _ (flat ((delK bs F).drop T)) by rw [HDN.out]; exact .inl rfl) (by omega) zxd.size ?_; intro vc xc hoc hgc; have zc : Below xb.heap.size xb xc := zxd.trans (below_of_grown hgc (fun g hg => (HF.out.lt g hg).1) zxd.size); clear hgc; have hfin : xc.ownsRow xb.heap.size 51 2 vc (k + 1) (vals (moveK bs F T)) := (by have e2 : k + 1 = T + 1 + (k - T) := (by omega); rw [e2, HMV.out, ← List.singleton_append, ← List.append_assoc, vals_append]; exact hoc); clear hoc; obtain ⟨Af, cf, rfl, _, _, hof⟩ := seg_of_row hfin)
          go_ret2
          exact ⟨_, _, _, rfl, HML.out, hof.more HBX.out.size (Nat.le_refl _), HBX.out.trans (zc.mono HBX.out.size)⟩
        · have sgd := (seg_drop0 HROW.out.seg T).below zxd (Nat.le_refl _)
          go_wp2_with (at_builtin; refine wpList_append_flat _ rfl _ _ 25 rfl xb.heap.size 51 i0 Try.underlying25 hi0 hz0 hz1 hz2 _ (T + 1) _ rfl HF.out _ (k - T) _ ((delK bs F).drop T) _ _ rfl (by rw [List.length_drop, HDL.out]) sgd (by omega) zxd.size ?_; intro vc xc hoc hgc; have zc : Below xb.heap.size xb xc := zxd.trans (below_of_grown hgc (fun g hg => (HF.out.lt g hg).1) zxd.size); clear hgc; have hfin : xc.ownsRow xb.heap.size 51 2 vc (k + 1) (vals (moveK bs F T)) := (by have e2 : k + 1 = T + 1 + (k - T) := (by omega); rw [e2, HMV.out, ← List.singleton_append, ← List.append_assoc, vals_append]; exact hoc); clear hoc; obtain ⟨Af, cf, rfl, _, _, hof⟩ := seg_of_row hfin)
          go_ret2
          exact ⟨_, _, _, rfl, HML.out, hof.more HBX.out.size (Nat.le_refl _), HBX.out.trans (zc.mono HBX.out.size)⟩
      · go_simp
        have z6 := (((Below.refl xb.heap.size xb).alloc (Nat.le_refl _) (.cells #[] 51)).alloc (by simp) (.cells #[.int .i64 x0, .int .i64 x1] 51)).drew
        have R6 := R0.alloc (.cells #[.int .i64 x0, .int .i64 x1] 51)
        have L6 : Seg ((xb.alloc (.cells #[] 51)).alloc (.cells #[.int .i64 x0, .int .i64 x1] 51)) (xb.heap.size + 1) (xb.heap.size + 1 + 1) (some ⟨xb.heap.size + 1, 0, none⟩) (flat [(x0, x1)]) := by simpa using seg_book (xb.alloc (.cells #[] 51)) x0 x1 51
        refine hK.out _ _ (keepC z6 HCX0.out HCX1.out) (fun hHz6 => ?_)
        clear hK K
        refine wpAnyH_ready (rs := [4]) (by kernel_rfl) (by simp) ?_
        refine AllReadyH.cons (ops_at rfl) (fun K hK => ?_) AllReadyH.nil
        have sgxc1 := (flat_sub_take HROW.out.seg T).below z6 (Nat.le_refl _)
        refine step_append_flat _ rfl (.tmp 39) (.tmp 42) 25 rfl xb.heap.size 51 i0 Try.underlying25 hi0 hz0 hz1 hz2 _ 0 _ rfl R6 _ T _ ((delK bs F).take T) _ _ rfl (by rw [List.length_take, HDL.out]; omega) sgxc1 (by omega) z6.size ?_
        intro vxc1 xc1 hoxc1 hgxc1
        have zxc1 := z6.trans (below_of_grown hgxc1 (fun g hg => (R6.lt g hg).1) z6.size)
        have L7 := (seg_drew1 L6).grown hgxc1 (by show _ ≤ ((xb.alloc _).alloc _).heap.size; simp) (fun g hg => Or.inl (by have := (R0.lt g hg).2; simp at this; omega))
        refine hK.out _ _ (keepC zxc1 HCX0.out HCX1.out) (fun hHzxc1 => ?_)
        clear hK K
        refine wpAnyH_ready (rs := [10]) (by kernel_rfl) (by simp) ?_
        refine AllReadyH.cons (ops_at rfl) (fun K hK => ?_) AllReadyH.nil
        refine step_append_flat _ rfl (.tmp 43) (.tmp 48) 25 rfl xb.heap.size 51 i0 Try.underlying25 hi0 hz0 hz1 hz2 _ (0 + T) _ rfl hoxc1 _ 1 1 [(x0, x1)] _ _ rfl rfl L7 (by omega) zxc1.size ?_
        intro vxd xd hoxd hgxd
        have zxd := zxc1.trans (below_of_grown hgxd (fun g hg => (hoxc1.lt g hg).1) zxc1.size)
        refine hK.out _ _ (keepC zxd HCX0.out HCX1.out) (fun hHzxd => ?_)
        clear hK K
        have HF := Lib.hid (show xd.ownsRow xb.heap.size 51 2 vxd (T + 1) (vals ((delK bs F).take T ++ [(x0, x1)])) by rw [vals_append]; simpa using hoxd)
        clear hoxd
        refine wpAnyH_take (i := 11) (v := ?_) (ops_at rfl) (by kernel_rfl) (by kernel_rfl) (by kernel_rfl) (fun _ _ _ h => h) (Or.inl ⟨by rfl, ?yq11⟩) (by assumption) ?nq11
        case yq11 => (intro wS hSw; (try dsimp only at hSw); go_simp; try rfl)
        try simp only [Act.put, List.setIfInBounds_toArray, List.set_cons_zero, List.set_cons_succ]
        refine wpAnyH_done (by kernel_rfl) ?_ _
        by_cases hcj : c2 = T
        · have HDN := Lib.hid (show (delK bs F).drop T = [] from List.drop_of_length_le (by rw [HDL.out]; omega))
          go_wp2_with (at_builtin; refine wpList_append_flat _ rfl _ _ 25 rfl xb.heap.size 51 i0 Try.underlying25 hi0 hz0 hz1 hz2 _ (T + 1) _ rfl HF.out _ (k - T) _ ((delK bs F).drop T) _ _ rfl (by rw [List.length_drop, HDL.out]) (show Seg xd 0 0 _ (flat ((delK bs F).drop T)) by rw [HDN.out]; exact .inl rfl) (by omega) zxd.size ?_; intro vc xc hoc hgc; have zc : Below xb.heap.size xb xc := zxd.trans (below_of_grown hgc (fun g hg => (HF.out.lt g hg).1) zxd.size); clear hgc; have hfin : xc.ownsRow xb.heap.size 51 2 vc (k + 1) (vals (moveK bs F T)) := (by have e2 : k + 1 = T + 1 + (k - T) := (by omega); rw [e2, HMV.out, ← List.singleton_append, ← List.append_assoc, vals_append]; exact hoc); clear hoc; obtain ⟨Af, cf, rfl, _, _, hof⟩ := seg_of_row hfin)
          go_ret2
          exact ⟨_, _, _, rfl, HML.out, hof.more HBX.out.size (Nat.le_refl _), HBX.out.trans (zc.mono HBX.out.size)⟩
        · have sgd := (seg_drop0 HROW.out.seg T).below zxd (Nat.le_refl _)
          go_wp2_with (at_builtin; refine wpList_append_flat _ rfl _ _ 25 rfl xb.heap.size 51 i0 Try.underlying25 hi0 hz0 hz1 hz2 _ (T + 1) _ rfl HF.out _ (k - T) _ ((delK bs F).drop T) _ _ rfl (by rw [List.length_drop, HDL.out]) sgd (by omega) zxd.size ?_; intro vc xc hoc hgc; have zc : Below xb.heap.size xb xc := zxd.trans (below_of_grown hgc (fun g hg => (HF.out.lt g hg).1) zxd.size); clear hgc; have hfin : xc.ownsRow xb.heap.size 51 2 vc (k + 1) (vals (moveK bs F T)) := (by have e2 : k + 1 = T + 1 + (k - T) := (by omega); rw [e2, HMV.out, ← List.singleton_append, ← List.append_assoc, vals_append]; exact hoc); clear hoc; obtain ⟨Af, cf, rfl, _, _, hof⟩ := seg_of_row hfin)
          go_ret2
          exact ⟨_, _, _, rfl, HML.out, hof.more HBX.out.size (Nat.le_refl _), HBX.out.trans (zc.mono HBX.out.size)⟩
    · go_simp
      have z6 := ((Below.refl xb.heap.size xb).alloc (Nat.le_refl _) (.cells #[.int .i64 x0, .int .i64 x1] 51)).drew
      have L6 := seg_book xb x0 x1 51
      refine hK.out _ _ (keepC z6 HCX0.out HCX1.out) (fun hHz6 => ?_)
      clear hK K
      refine wpAnyH_ready (rs := [0]) (by kernel_rfl) (by simp) ?_
      refine AllReadyH.cons (ops_at rfl) (fun K hK => ?_) AllReadyH.nil
      go_simp
      have z0 := (((Below.refl xb.heap.size xb).alloc (Nat.le_refl _) (.cells #[.int .i64 x0, .int .i64 x1] 51)).alloc (by simp) (.cells #[] 51)).drew
      have R0 : ((xb.alloc (.cells #[.int .i64 x0, .int .i64 x1] 51)).alloc (.cells #[] 51)).ownsRow xb.heap.size 51 2 (.slice (some ⟨xb.heap.size + 1, 0, none⟩) 0 0) 0 [] := by simpa using World.ownsRow_lit (base := xb.heap.size) (e := 51) (size := 2) (xb.alloc (.cells #[.int .i64 x0, .int .i64 x1] 51)) #[] 0 (by simp) (Nat.zero_le _) rfl
      have L0 := L6.below ((Below.refl _ _).alloc (Nat.le_refl _) (.cells #[] 51)) (by simp)
      refine hK.out _ _ (keepC z0 HCX0.out HCX1.out) (fun hHz0 => ?_)
      clear hK K
      refine wpAnyH_ready (rs := [4]) (by kernel_rfl) (by simp) ?_
      refine AllReadyH.cons (ops_at rfl) (fun K hK => ?_) AllReadyH.nil
      have sgxc1 := (flat_sub_take HROW.out.seg T).below z0 (Nat.le_refl _)
      refine step_append_flat _ rfl (.tmp 39) (.tmp 42) 25 rfl xb.heap.size 51 i0 Try.underlying25 hi0 hz0 hz1 hz2 _ 0 _ rfl R0 _ T _ ((delK bs F).take T) _ _ rfl (by rw [List.length_take, HDL.out]; omega) sgxc1 (by omega) z0.size ?_
      intro vxc1 xc1 hoxc1 hgxc1
      have zxc1 := z0.trans (below_of_grown hgxc1 (fun g hg => (R0.lt g hg).1) z0.size)
      have L7 := (seg_drew1 L0).grown hgxc1 (by show _ ≤ ((xb.alloc _).alloc _).heap.size; simp) (fun g hg => Or.inr (by have hg2 : some (xb.heap.size + 1) = some g := hg; injection hg2 with hg2; omega))
      refine hK.out _ _ (keepC zxc1 HCX0.out HCX1.out) (fun hHzxc1 => ?_)
      clear hK K
      refine wpAnyH_ready (rs := [10]) (by kernel_rfl) (by simp) ?_
      refine AllReadyH.cons (ops_at rfl) (fun K hK => ?_) AllReadyH.nil
      refine step_append_flat _ rfl (.tmp 43) (.tmp 48) 25 rfl xb.heap.size 51 i0 Try.underlying25 hi0 hz0 hz1 hz2 _ (0 + T) _ rfl hoxc1 _ 1 1 [(x0, x1)] _ _ rfl rfl L7 (by omega) zxc1.size ?_
      intro vxd xd hoxd hgxd
      have zxd := zxc1.trans (below_of_grown hgxd (fun g hg => (hoxc1.lt g hg).1) zxc1.size)
      refine hK.out _ _ (keepC zxd HCX0.out HCX1.out) (fun hHzxd => ?_)
      clear hK K
      have HF := Lib.hid (show xd.ownsRow xb.heap.size 51 2 vxd (T + 1) (vals ((delK bs F).take T ++ [(x0, x1)])) by rw [vals_append]; simpa using hoxd)
      clear hoxd
      refine wpAnyH_take (i := 11) (v := ?_) (ops_at rfl) (by kernel_rfl) (by kernel_rfl) (by kernel_rfl) (fun _ _ _ h => h) (Or.inl ⟨by rfl, ?yr11⟩) (by assumption) ?nr11
      case yr11 => (intro wS hSw; (try dsimp only at hSw); go_simp; try rfl)
      try simp only [Act.put, List.setIfInBounds_toArray, List.set_cons_zero, List.set_cons_succ]
      refine wpAnyH_done (by kernel_rfl) ?_ _
      by_cases hcj : c2 = T
      · have HDN := Lib.hid (show (delK bs F).drop T = [] from List.drop_of_length_le (by rw [HDL.out]; omega))
        go_wp2_with (at_builtin; refine wpList_append_flat _ rfl _ _ 25 rfl xb.heap.size 51 i0 Try.underlying25 hi0 hz0 hz1 hz2 _ (T + 1) _ rfl HF.out _ (k - T) _ ((delK bs F).drop T) _ _ rfl (by rw [List.length_drop, HDL.out]) (show Seg xd 0 0 _ (flat ((delK bs F).drop T)) by rw [HDN.out]; exact .inl rfl) (by omega) zxd.size ?_; intro vc xc hoc hgc; have zc : Below xb.heap.size xb xc := zxd.trans (below_of_grown hgc (fun g hg => (HF.out.lt g hg).1) zxd.size); clear hgc; have hfin : xc.ownsRow xb.heap.size 51 2 vc (k + 1) (vals (moveK bs F T)) := (by have e2 : k + 1 = T + 1 + (k - T) := (by omega); rw [e2, HMV.out, ← List.singleton_append, ← List.append_assoc, vals_append]; exact hoc); clear hoc; obtain ⟨Af, cf, rfl, _, _, hof⟩ := seg_of_row hfin)
        go_ret2
        exact ⟨_, _, _, rfl, HML.out, hof.more HBX.out.size (Nat.le_refl _), HBX.out.trans (zc.mono HBX.out.size)⟩
      · have sgd := (seg_drop0 HROW.out.seg T).below zxd (Nat.le_refl _)
        go_wp2_with (at_builtin; refine wpList_append_flat _ rfl _ _ 25 rfl xb.heap.size 51 i0 Try.underlying25 hi0 hz0 hz1 hz2 _ (T + 1) _ rfl HF.out _ (k - T) _ ((delK bs F).drop T) _ _ rfl (by rw [List.length_drop, HDL.out]) sgd (by omega) zxd.size ?_; intro vc xc hoc hgc; have zc : Below xb.heap.size xb xc := zxd.trans (below_of_grown hgc (fun g hg => (HF.out.lt g hg).1) zxd.size); clear hgc; have hfin : xc.ownsRow xb.heap.size 51 2 vc (k + 1) (vals (moveK bs F T)) := (by have e2 : k + 1 = T + 1 + (k - T) := (by omega); rw [e2, HMV.out, ← List.singleton_append, ← List.append_assoc, vals_append]; exact hoc); clear hoc; obtain ⟨Af, cf, rfl, _, _, hof⟩ := seg_of_row hfin)
        go_ret2
        exact ⟨_, _, _, rfl, HML.out, hof.more HBX.out.size (Nat.le_refl _), HBX.out.trans (zc.mono HBX.out.size)⟩
end
end Go.Proofs.Ytplohhmggfifkaa

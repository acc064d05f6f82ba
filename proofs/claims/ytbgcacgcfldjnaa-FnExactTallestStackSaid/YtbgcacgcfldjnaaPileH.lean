/-
  Both programs tell how high a stack is.
  Conditions: the lists have at most 1048576 things and numbers.
-/
import Derived.Test.YtbgcacgcfldjnaaPileOf
namespace Go.Proofs.Ytbgcacgcfldjnaa
set_option linter.unusedVariables false
open Go.RowKit

set_option maxRecDepth 100000 in
set_option maxHeartbeats 1000000 in
theorem spec_HeightOf (A A2 : Option Addr) (n c m c2 : Nat) (ts : List (Int × Int × Int)) (ks : List Int) (lo hi lo2 hi2 : Nat) (w : World) (hn : ts.length = n) (hlen : n ≤ 1048576) (hm : ks.length = m) (hlen2 : m ≤ 1048576) (hc2 : m ≤ c2)
    (hs : Seg w lo hi A (flat3 ts)) (hB : hi ≤ w.heap.size) (hs2 : Seg w lo2 hi2 A2 ks) (hB2 : hi2 ≤ w.heap.size) (q : Bool) (hq : bothT ts ks = q) :
    Calls Try.prog 6 #[.slice A n c, .slice A2 m c2] w (RetI (if q = true then sumF (hT ts) ks else 0) q w) := by
  have HN := Lib.hid hn
  have HM := Lib.hid hm
  have HQ := Lib.hid hq
  cases q
  · clear hn hm hq
    go_enter Try.func6, Try.ntmps6
    go_wp2_with fail
    refine (scStack_any A A2 n c m c2 ts ks lo hi lo2 hi2 _ HN.out hlen HM.out hlen2 hc2 hs hB hs2 hB2 _ HQ.out).mono ?_
    rintro e w1 ⟨rfl, hbw1⟩
    go_wp2
    go_ret2
    exact ⟨rfl, hbw1⟩
  · obtain ⟨hg, hst⟩ := bothT_true.1 hq
    have HG := Lib.hid hg
    have HST := Lib.hid hst
    clear hn hm hq hg hst
    go_enter Try.func6, Try.ntmps6
    go_wp2_with fail
    refine (scStack_any A A2 n c m c2 ts ks lo hi lo2 hi2 _ HN.out hlen HM.out hlen2 hc2 hs hB hs2 hB2 _ HQ.out).mono ?_
    rintro e w1 ⟨rfl, hbw1⟩
    go_wp2_with fail
    refine (scHigh_any A A2 n c m c2 ts ks lo hi lo2 hi2 _ HN.out HG.out HM.out HST.out (hs.below hbw1 hB) (hs2.below hbw1 hB2)).mono ?_
    rintro e w2 ⟨rfl, rfl⟩
    go_wp2
    go_ret2
    exact ⟨rfl, hbw1⟩

theorem high1_any (C P T : Nat) (A B : Option Addr) (n c m d : Nat) (ts : List (Int × Int × Int)) (j : Nat) (lo hi : Nat) (w : World) (hc : w.cell? ⟨C, 0, none⟩ = some (.pointer (some ⟨P, 0, none⟩))) (hp : w.heap[P]? = some (.cells #[.slice A n c, .slice B m d] T (0, 0))) (hn : ts.length = n) (hs : Seg w lo hi A (flat3 ts)) (hj : j < ts.length) :
    Calls Try.prog 32 #[.int .i64 (j : Int), .pointer (some ⟨C, 0, none⟩)] w fun e w' => e = .returned (.int .i64 (hT ts (j : Int))) ∧ w = w' := by
  obtain ⟨p0, p1, z0, z1⟩ := pile_cells hp
  obtain ⟨g, og, x, y, z, rfl, _, _, hxx, hc0, hc1, hc2⟩ := hs.tri (k := j) hj
  have hz : hT ts (j : Int) = z := by unfold hT; rw [thg_at hxx]
  rw [hz]
  have hjn : j < n := by rw [← hn]; exact hj
  clear hz hxx hn hs hj hp
  go_enter Try.func32, Try.ntmps32
  go_wp2
  go_ret
  exact ⟨rfl, rfl⟩

set_option maxRecDepth 100000 in
set_option maxHeartbeats 1000000 in
theorem sumH_any (C P T : Nat) (A B : Option Addr) (n c m d : Nat) (ts : List (Int × Int × Int)) (ks : List Int) (lo hi lo2 hi2 : Nat) (w : World) (hc : w.cell? ⟨C, 0, none⟩ = some (.pointer (some ⟨P, 0, none⟩))) (hp : w.heap[P]? = some (.cells #[.slice A n c, .slice B m d] T (0, 0))) (hn : ts.length = n) (hg : goodT ts = true) (hm : ks.length = m) (hst : stackB ts.length ks = true)
    (hs : Seg w lo hi A (flat3 ts)) (hs2 : Seg w lo2 hi2 B ks) :
    Calls Try.prog 31 #[.slice B m d, .func (.func 32) #[] #[.pointer (some ⟨C, 0, none⟩)]] w fun e w' => e = .returned (.int .i64 (sumF (hT ts) ks)) ∧ w = w' := by
  have HN := Lib.hid hn
  have HM := Lib.hid hm
  have HG := Lib.hid hg
  have HST := Lib.hid hst
  have HP := Lib.hid hp
  have HC := Lib.hid hc
  have hm7 : m ≤ 7 := by rw [← hm]; exact bothT_len (bothT_true.2 ⟨hg, hst⟩)
  clear hn hm hg hst hp hc
  go_enter Try.func31, Try.ntmps31
  go_wp2
  go_loop [5, 7, 10] (fun s _ i => ∃ k : Nat, k ≤ m ∧ i = .int .i64 k ∧ s = .int .i64 (sumF (hT ts) (ks.take k))) (fun _ _ i => m - (intOf i).toNat)
  case atStart => exact ⟨0, Nat.zero_le _, rfl, rfl⟩
  case round =>
    obtain ⟨k, hk, rfl, rfl⟩ := hrel
    by_cases hlt : k < m
    · obtain ⟨b, off, u, rfl, _, _, hx, hc⟩ := hs2.at_ (k := k) (by rw [HM.out]; exact hlt)
      obtain ⟨j, rfl, hj⟩ := stack_thing HST.out hx
      have hzb := (thg_bd HG.out (j : Int)).2.2
      have hsn := sumF_next (hT ts) hx
      have hsb := sumF_bd (f := hT ts) (fun k => (thg_bd HG.out k).2.2) (ks.take k)
      obtain ⟨z, hz⟩ : ∃ z, hT ts (j : Int) = z := ⟨_, rfl⟩
      have hzb' : 1 ≤ z ∧ z ≤ 1000 := by rw [← hz]; exact hzb
      rw [hz] at hsn
      have HZ := Lib.hid hz
      obtain ⟨s0, hs0⟩ : ∃ s0, sumF (hT ts) (ks.take k) = s0 := ⟨_, rfl⟩
      rw [hs0] at hsb hsn
      rw [hs0]
      have HSN := Lib.hid hsn
      have hs7 : s0 ≤ 7000 := by have := hsb.2; rw [List.length_take] at this; omega
      have hs00 := hsb.1
      have hz0 := hzb'.1
      have hz1 := hzb'.2
      clear hx hz hsn hsb hs0 hzb hzb'
      go_wp2_with fail
      refine (high1_any C P T A _ n c m d ts j lo hi w HC.out HP.out HN.out hs hj).mono ?_
      rw [HZ.out]
      rintro e w' ⟨rfl, rfl⟩
      go_wp2
      go_round
      case rel => exact ⟨k + 1, by omega, by go_num, by rw [HSN.out]⟩
      case measure => simp [intOf]; omega
    · obtain rfl : k = m := by omega
      have HE := Lib.hid (show ks.take k = ks by rw [← HM.out, List.take_length])
      go_wp2
      go_ret
      exact ⟨by rw [HE.out]; rfl, rfl⟩

set_option maxRecDepth 100000 in
set_option maxHeartbeats 1000000 in
theorem height_any (P T : Nat) (A B : Option Addr) (n c m d : Nat) (ts : List (Int × Int × Int)) (ks : List Int) (lo hi lo2 hi2 : Nat) (w : World) (hp : w.heap[P]? = some (.cells #[.slice A n c, .slice B m d] T (0, 0))) (hn : ts.length = n) (hg : goodT ts = true) (hm : ks.length = m) (hst : stackB ts.length ks = true)
    (hs : Seg w lo hi A (flat3 ts)) (hB : hi ≤ w.heap.size) (hs2 : Seg w lo2 hi2 B ks) (hB2 : hi2 ≤ w.heap.size) :
    Calls Try.prog 21 #[.pointer (some ⟨P, 0, none⟩)] w fun e w' => e = .returned (.int .i64 (sumF (hT ts) ks)) ∧ Below w.heap.size w w' := by
  have hb := (Below.refl w.heap.size w).alloc (Nat.le_refl _) (.cells #[.pointer (some ⟨P, 0, none⟩)] 56)
  have hp1 := (hb.block P (heap_lt hp)).trans hp
  obtain ⟨p0, p1, z0, z1⟩ := pile_cells hp1
  have HP1 := Lib.hid hp1
  have HC1 := Lib.hid (cell_of (new_at w (.cells #[.pointer (some ⟨P, 0, none⟩)] 56) rfl) 0)
  have HB := Lib.hid hb
  have HN := Lib.hid hn
  have HM := Lib.hid hm
  have HG := Lib.hid hg
  have HST := Lib.hid hst
  have HS1 := Lib.hid (hs.below hb hB)
  have HS2 := Lib.hid (hs2.below hb hB2)
  clear hn hm hg hst hp hp1 hs hs2 hb
  go_enter Try.func21, Try.ntmps21
  go_wp2_with fail
  refine (sumH_any _ P T A B n c m d ts ks lo hi lo2 hi2 _ HC1.out HP1.out HN.out HG.out HM.out HST.out HS1.out HS2.out).mono ?_
  rintro e w' ⟨rfl, rfl⟩
  go_wp2
  go_ret
  exact ⟨rfl, HB.out⟩

set_option maxRecDepth 100000 in
set_option maxHeartbeats 1000000 in
theorem impl_HeightOf (A A2 : Option Addr) (n c m c2 : Nat) (ts : List (Int × Int × Int)) (ks : List Int) (lo hi lo2 hi2 : Nat) (w : World) (hn : ts.length = n) (hlen : n ≤ 1048576) (hm : ks.length = m) (hlen2 : m ≤ 1048576) (hc2 : m ≤ c2)
    (hs : Seg w lo hi A (flat3 ts)) (hB : hi ≤ w.heap.size) (hs2 : Seg w lo2 hi2 A2 ks) (hB2 : hi2 ≤ w.heap.size) (q : Bool) (hq : bothT ts ks = q) :
    Calls Try.prog 9 #[.slice A n c, .slice A2 m c2] w (RetI (if q = true then sumF (hT ts) ks else 0) q w) := by
  have HN := Lib.hid hn
  have HM := Lib.hid hm
  have HQ := Lib.hid hq
  cases q
  · clear hn hm hq
    go_enter Try.func9, Try.ntmps9
    go_wp2_with fail
    refine (pileOf_any A A2 n c m c2 ts ks lo hi lo2 hi2 _ HN.out hlen HM.out hlen2 hs hB hs2 hB2 _ HQ.out).mono ?_
    rintro e w1 ⟨A3, n3, c3, B3, m3, d3, rfl, _, hb1⟩
    go_wp2
    go_ret2
    exact ⟨rfl, hb1.alloc hb1.size _⟩
  · obtain ⟨hg, hst⟩ := bothT_true.1 hq
    have HG := Lib.hid hg
    have HST := Lib.hid hst
    clear hn hm hq hg hst
    go_enter Try.func9, Try.ntmps9
    go_wp2_with fail
    refine (pileOf_any A A2 n c m c2 ts ks lo hi lo2 hi2 _ HN.out hlen HM.out hlen2 hs hB hs2 hB2 _ HQ.out).mono ?_
    rintro e w1 ⟨A3, n3, c3, B, m3, d, rfl, hy, hb1⟩
    obtain ⟨rfl, rfl, rfl, rfl, hown⟩ := hy rfl
    have hba := hb1.alloc hb1.size (.cells #[.slice A3 n3 c3, .slice B m3 d] 45)
    have HBA := Lib.hid hba
    have HP1 := Lib.hid (new_at w1 (.cells #[.slice A3 n3 c3, .slice B m3 d] 45) rfl)
    have HOW := Lib.hid (hown.alloc (.cells #[.slice A3 n3 c3, .slice B m3 d] 45))
    clear hown hba
    have HSG := Lib.hid (ownsRow_own (ys := ks) (by rw [HM.out]; exact HOW.out)).2.seg
    go_wp2_with fail
    refine (height_any _ _ _ B _ _ _ d ts ks lo hi _ _ _ HP1.out HN.out HG.out HM.out HST.out (hs.below HBA.out hB) (by have := HBA.out.size; omega) HSG.out (Nat.le_refl _)).mono ?_
    rintro e w2 ⟨rfl, hb2⟩
    have HB2 := Lib.hid (HBA.out.trans (hb2.mono HBA.out.size))
    clear hb2
    go_wp2
    go_ret2
    exact ⟨rfl, HB2.out⟩
end Go.Proofs.Ytbgcacgcfldjnaa

/-
  The given program's weights above each thing of a stack, and whether it is safe.
  Conditions: there are things, and the numbers are a stack of them.
-/
import Derived.Test.YtbgcacgcfldjnaaStkS
import Derived.Test.YtbgcacgcfldjnaaL1Own
namespace Go.Proofs.Ytbgcacgcfldjnaa
set_option linter.unusedVariables false
open Go.RowKit

/-- A row of numbers is answered, in new memory. -/
def RetRow (ys : List Int) (w : World) (e : Ending) (w' : World) : Prop :=
  ∃ A n c, e = .returned (.slice A n c) ∧ ys.length = n ∧ w'.ownsRow w.heap.size 3 1 (.slice A n c) n (ys.map (Value.int .i64)) ∧ Below w.heap.size w w'

/-- What is left of a slice behind a place; at the end of its room it is told from its head. -/
theorem tailT {w : World} {lo hi b off j cap n : Nat} {xs : List Int} (h : Seg w lo hi (some ⟨b, off, none⟩) xs) (hn : xs.length = n) (hj : j ≤ n) (hc : n ≤ cap) :
    ∃ ad : Addr, (if cap = j then some (⟨b, off, none⟩ : Addr) else some ⟨b, off + j, none⟩) = some ad ∧ Seg w lo hi (some ad) (xs.drop j) := by
  by_cases e : cap = j
  · rw [if_pos e]
    exact ⟨_, rfl, .inl (List.drop_of_length_le (by omega))⟩
  · rw [if_neg e]
    exact ⟨_, rfl, h.dropT j⟩

set_option maxRecDepth 100000 in
set_option maxHeartbeats 2000000 in
theorem scAbove_any (A A2 : Option Addr) (n c m c2 : Nat) (ts : List (Int × Int × Int)) (ks : List Int) (lo hi lo2 hi2 : Nat) (w : World) (hn : ts.length = n) (hm : ks.length = m) (hc2 : m ≤ c2)
    (hs : Seg w lo hi A (flat3 ts)) (hB : hi ≤ w.heap.size) (hs2 : Seg w lo2 hi2 A2 ks) (hB2 : hi2 ≤ w.heap.size) (hg : goodT ts = true) (hst : stackB ts.length ks = true) :
    Calls Try.prog 41 #[.slice A n c, .slice A2 m c2] w (RetRow (aboveL ts ks) w) := by
  obtain ⟨i0, hi0, hz0, hz1, hz2⟩ := info_parts int_info
  have HN := Lib.hid hn
  have HM := Lib.hid hm
  have HG := Lib.hid hg
  have HST := Lib.hid hst
  have hm7 : m ≤ 7 := by rw [← hm]; exact bothT_len (bothT_true.2 ⟨hg, hst⟩)
  clear hn hm hg hst
  go_enter Try.func41, Try.ntmps41
  go_wp2
  go_loopw [5, 12] (fun v i wr => ∃ k : Nat, k ≤ m ∧ i = .int .i64 k ∧ wr.ownsRow w.heap.size 3 1 v k (((aboveL ts ks).take k).map (Value.int .i64)) ∧ Below w.heap.size w wr) (fun _ i _ => m - (intOf i).toNat)
  case atStart => exact ⟨0, Nat.zero_le _, rfl, World.ownsRow_nil _ _ _ _, Below.refl _ _⟩
  case round =>
    obtain ⟨k, hk, rfl, hown, hb⟩ := hrel
    obtain ⟨B, d, rfl⟩ := ownsRow_form hown
    have hsz := hb.size
    have HOW := Lib.hid hown
    have HB := Lib.hid hb
    by_cases hlt : k < m
    · have hs2w := hs2.below hb hB2
      obtain ⟨b, off, u, rfl, _, _, hx, hc⟩ := hs2w.at_ (k := k) (by rw [HM.out]; exact hlt)
      obtain ⟨ad, hAd, hsd⟩ := tailT (j := k + 1) hs2w HM.out (by omega) hc2
      have HSD := Lib.hid hsd
      have HDL := Lib.hid (show (ks.drop (k + 1)).length = m - (k + 1) by rw [List.length_drop, HM.out])
      have hk1 : k + 1 ≤ m := hlt
      have hkn : ¬ m < k + 1 := by omega
      clear hown hb hx hc hs2w hsd
      go_wp2
      go_loop [7, 20] (fun s i => ∃ j : Nat, j ≤ m - (k + 1) ∧ i = .int .i64 j ∧ s = .int .i64 (sumF (wT ts) ((ks.drop (k + 1)).take j))) (fun _ i => m - (intOf i).toNat)
      case atStart => exact ⟨0, Nat.zero_le _, rfl, rfl⟩
      case round =>
        obtain ⟨j, hj, rfl, rfl⟩ := hrel
        by_cases hlj : j < m - (k + 1)
        · obtain ⟨b2, off2, u2, hA2, _, _, hx2, hc2'⟩ := HSD.out.at_ (k := j) (by rw [HDL.out]; exact hlj)
          injection hA2 with hA2
          subst hA2
          obtain ⟨t, rfl, ht⟩ := stack_thing HST.out (k := k + 1 + j) (by rw [← List.getElem?_drop]; exact hx2)
          obtain ⟨g, og, x, y, z, rfl, _, _, hxx, hd0, hd1, hd2⟩ := (hs.below HB.out hB).tri (k := t) ht
          have hzb := (thg_bd HG.out (t : Int)).1
          have hz : wT ts (t : Int) = x := by unfold wT; rw [thg_at hxx]
          have hsn := sumF_next (wT ts) hx2
          have hsb := sumF_bd (f := wT ts) (fun k => (thg_bd HG.out k).1) ((ks.drop (k + 1)).take j)
          rw [hz] at hzb hsn
          obtain ⟨s0, hs0⟩ : ∃ s0, sumF (wT ts) ((ks.drop (k + 1)).take j) = s0 := ⟨_, rfl⟩
          rw [hs0] at hsb hsn
          rw [hs0]
          have HSN := Lib.hid hsn
          have hs7 : s0 ≤ 7000 := by have := hsb.2; rw [List.length_take] at this; omega
          have hs00 := hsb.1
          have htn : t < n := by rw [← HN.out]; exact ht
          have hjm : ((j : Nat) : Int) < (m : Int) - ((k : Int) + 1) := by omega
          have hjm2 : j < m - (k + 1) := by omega
          clear hx2 hxx hz hsn hsb hs0
          go_wp2
          go_round
          case rel => exact ⟨j + 1, by omega, by go_num, by rw [HSN.out]⟩
          case measure => simp [intOf]; omega
        · obtain rfl : m - (k + 1) = j := by omega
          have HE := Lib.hid (show sumF (wT ts) ((ks.drop (k + 1)).take (m - (k + 1))) = sumF (wT ts) (ks.drop (k + 1)) by rw [List.take_of_length_le (by rw [HDL.out]; exact Nat.le_refl _)])
          obtain ⟨s0, hs0⟩ : ∃ s0, sumF (wT ts) ((ks.drop (k + 1)).take (m - (k + 1))) = s0 := ⟨_, rfl⟩
          rw [hs0] at HE ⊢
          have HS0 := Lib.hid (show ((aboveL ts ks).take (k + 1)).map (Value.int .i64) = ((aboveL ts ks).take k).map (Value.int .i64) ++ [.int .i64 s0] by
            rw [take_snoc (aboveL_at ts ks (by rw [HM.out]; exact hlt)), ← HE.out]; simp)
          have HOW1 := Lib.hid (HOW.out.alloc (.cells #[.int .i64 s0] 3))
          have HS1 := Lib.hid (seg_one wr s0 3)
          clear hs0
          go_wp2_with (at_builtin; refine wpList_append_seg _ rfl _ _ 23 rfl w.heap.size 3 i0 Try.underlying23 hi0 hz0 hz1 hz2 _ k _ rfl HOW1.out _ 1 1 [s0] _ _ rfl rfl HS1.out (by omega) (by simp; omega) ?_; intro v3 w3 hown3 hgr3; have HO3 := Lib.hid hown3; have HB3 := Lib.hid ((HB.out.alloc hsz _).grown hgr3 (by simp; omega) (fun g' hg' => (HOW.out.lt g' hg').1)); clear hown3 hgr3)
          go_roundw
          case rel => exact ⟨k + 1, by omega, by go_num, by rw [HS0.out]; exact HO3.out, HB3.out⟩
          case measure => simp [intOf]; omega
    · obtain rfl : k = m := by omega
      have HE := Lib.hid (show (aboveL ts ks).take k = aboveL ts ks by rw [List.take_of_length_le (by rw [aboveL_length, HM.out]; exact Nat.le_refl _)])
      go_wp2
      go_ret
      exact ⟨B, k, d, rfl, by rw [aboveL_length, HM.out], by rw [← HE.out]; exact HOW.out, HB.out⟩

set_option maxRecDepth 100000 in
set_option maxHeartbeats 2000000 in
theorem scSafe_any (A A2 : Option Addr) (n c m c2 : Nat) (ts : List (Int × Int × Int)) (ks : List Int) (lo hi lo2 hi2 : Nat) (w : World) (hn : ts.length = n) (hm : ks.length = m) (hc2 : m ≤ c2)
    (hs : Seg w lo hi A (flat3 ts)) (hB : hi ≤ w.heap.size) (hs2 : Seg w lo2 hi2 A2 ks) (hB2 : hi2 ≤ w.heap.size) (hg : goodT ts = true) (hst : stackB ts.length ks = true) (q : Bool) (hq : safeB ts ks = q) :
    Calls Try.prog 34 #[.slice A n c, .slice A2 m c2] w (RetQ q w) := by
  have HN := Lib.hid hn
  have HM := Lib.hid hm
  have HG := Lib.hid hg
  have HST := Lib.hid hst
  have HQ := Lib.hid hq
  have hm7 : m ≤ 7 := by rw [← hm]; exact bothT_len (bothT_true.2 ⟨hg, hst⟩)
  clear hn hm hg hst hq
  go_enter Try.func34, Try.ntmps34
  go_wp2_with fail
  refine (scAbove_any A A2 n c m c2 ts ks lo hi lo2 hi2 _ HN.out HM.out hc2 hs hB hs2 hB2 HG.out HST.out).mono ?_
  rintro e w1 ⟨A3, n3, c3, rfl, hl3, hown3, hb1⟩
  obtain rfl : m = n3 := by rw [← hl3, aboveL_length, HM.out]
  have HO3 := Lib.hid (ownsRow_own (ys := aboveL ts ks) (by rw [hl3]; exact hown3)).2.seg
  have HL3 := Lib.hid hl3
  clear hl3 hown3
  go_wp2
  go_loop [11] (fun i => ∃ k : Nat, k ≤ m ∧ i = .int .i64 k ∧ ∀ j u, j < k → ks[j]? = some u → sumF (wT ts) (ks.drop (j + 1)) ≤ bT ts u) (fun i => m - (intOf i).toNat)
  case atStart => exact ⟨0, Nat.zero_le _, rfl, fun j u hj => by omega⟩
  case round =>
    obtain ⟨k, hk, rfl, hall⟩ := hrel
    have HA := Lib.hid hall
    clear hall
    by_cases hlt : k < m
    · obtain ⟨b3, off3, s, rfl, _, _, hx3, hc3⟩ := HO3.out.at_ (k := k) (by rw [HL3.out]; exact hlt)
      rw [aboveL_at ts ks (by rw [HM.out]; exact hlt)] at hx3
      injection hx3 with hx3
      obtain ⟨b, off, u, rfl, _, _, hx, hc⟩ := (hs2.below hb1 hB2).at_ (k := k) (by rw [HM.out]; exact hlt)
      obtain ⟨t, rfl, ht⟩ := stack_thing HST.out hx
      obtain ⟨g, og, x, y, z, rfl, _, _, hxx, hd0, hd1, hd2⟩ := (hs.below hb1 hB).tri (k := t) ht
      have hy : bT ts (t : Int) = y := by unfold bT; rw [thg_at hxx]
      have htn : t < n := by rw [← HN.out]; exact ht
      have HX := Lib.hid hx
      have HX3 := Lib.hid hx3
      have HY := Lib.hid hy
      clear hx hx3 hy hxx
      by_cases hle : s ≤ y
      · have hgt : decide (y < s) = false := decide_eq_false (by omega)
        go_wp2
        go_round
        case rel => exact ⟨k + 1, by omega, by go_num, fun j v hj hv => by
          by_cases e : j = k
          · subst e; rw [HX.out] at hv; injection hv with hv; subst hv; rw [HX3.out, HY.out]; exact hle
          · exact HA.out j v (by omega) hv⟩
        case measure => simp [intOf]; omega
      · have hgt : decide (y < s) = true := decide_eq_true (by omega)
        have HF := Lib.hid (show q = false by rw [← HQ.out]; exact safeB_not HX.out (by rw [HX3.out, HY.out]; omega))
        go_wp2
        go_ret
        exact ⟨by rw [HF.out]; rfl, hb1⟩
    · obtain rfl : k = m := by omega
      have HT := Lib.hid (show q = true by rw [← HQ.out]; exact safeB_at.2 fun j u hj => HA.out j u (by rw [← HM.out]; exact (List.getElem?_eq_some_iff.1 hj).1) hj)
      go_wp2
      go_ret
      exact ⟨by rw [HT.out]; rfl, hb1⟩
end Go.Proofs.Ytbgcacgcfldjnaa

/-
  What the written program answers of the nestings with the fewest outer boxes, and of the least volume of outer boxes.
  Conditions: the list has at most 1048576 boxes.
-/
import Derived.Test.YtbaofgbkcolmmabNesM
import Derived.Test.YtbaofgbkcolmmabBoxGood
import Derived.Test.YtbaofgbkcolmmabSomeN
namespace Go.Proofs.Ytbaofgbkcolmmab
set_option linter.unusedVariables false
open Go.RowKit

theorem fold_one (ks : List Int) : ∀ a : Int, ks.foldl (fun s _ => s + 1) a = a + (ks.length : Int) := by
  induction ks with
  | nil => intro a; simp
  | cons k ks ih => intro a; rw [List.foldl_cons, ih]; simp; omega
theorem cost_one : costC (fun _ => 1) = outC := by
  funext plan
  unfold costC sumC outC
  rw [fold_one]
  omega

theorem fewest1_any (x y z : Int) (w : World) : Calls Try.prog 85 #[.agg #[.int .i64 x, .int .i64 y, .int .i64 z]] w fun e w' => e = .returned (.int .i64 1) ∧ Below w.heap.size w w' := by
  go_enter Try.func85, Try.ntmps85
  go_wp2
  go_ret
  exact ⟨rfl, (Below.refl _ _).alloc (Nat.le_refl _) _⟩

set_option maxHeartbeats 1000000 in
theorem fewestOuterOf_any (A : Option Addr) (n c : Nat) (bs : List (Int × Int × Int)) (lo hi : Nat) (w : World) (hn : bs.length = n) (hg : goodN bs = true) (hs : Seg w lo hi A (flat3 bs)) (hB : hi ≤ w.heap.size) :
    Calls Try.prog 48 #[.slice A n c] w (RetLst outC bs w) := by
  have hbb := (Below.refl w.heap.size w).alloc (Nat.le_refl _) (.cells #[.int .i64 0, .slice none 0 0, .int .i64 0] 65)
  have HC := Lib.hid (leastC_any A n c bs lo hi (w.alloc (.cells #[.int .i64 0, .slice none 0 0, .int .i64 0] 65)) (fun _ => 1) hn hg (hs.below hbb hB) (by simp; omega) (fun k _ => by omega) (fun k x y z w' _ => fewest1_any x y z w'))
  rw [cost_one] at HC
  have HBB := Lib.hid hbb
  have HNW := Lib.hid (new_at w (.cells #[.int .i64 0, .slice none 0 0, .int .i64 0] 65) rfl)
  clear hn hg hs hB hbb
  go_enter Try.func48, Try.ntmps48
  go_wp2_with fail
  refine HC.out.mono ?_
  rintro e w6 ⟨Af, nf, cf, rfl, e2, e3, hb6⟩
  have e6 := (hb6.block w.heap.size (by simp)).trans HNW.out
  have HB6 := Lib.hid (HBB.out.trans (hb6.mono (by simp)))
  have hz6 := hb6.size
  have hz7 : w.heap.size + 1 ≤ w6.heap.size := by simpa using hz6
  obtain ⟨a, ha⟩ : ∃ a, leastC outC (nesB outC (nesAll bs)) = a := ⟨_, rfl⟩
  obtain ⟨k, hk⟩ : ∃ k, (nesB outC (nesAll bs)).length = k := ⟨_, rfl⟩
  have HK := Lib.hid hk
  have HA := Lib.hid ha
  have HE2 := Lib.hid e2
  have HE3 := Lib.hid e3
  rw [ha, hk]
  have y0 := cell_of e6 0
  have y1 := cell_of e6 1
  have y2 := cell_of e6 2
  have x0 := frozen_of e6 0
  have x1 := frozen_of e6 1
  have x2 := frozen_of e6 2
  have H6 := Lib.hid e6
  clear e2 e3 e6 ha hk hb6 hz6
  go_wp2
  have h7 := set_three H6.out (.int .i64 a) (.slice Af nf cf) (.int .i64 k)
  have z0 : ((((w6.setCell ⟨w.heap.size, 0, none⟩ (.int .i64 a)).setCell ⟨w.heap.size, 1, none⟩ (.slice Af nf cf)).setCell ⟨w.heap.size, 2, none⟩ (.int .i64 k))).cell? ⟨w.heap.size, 0, none⟩ = some (.int .i64 a) := (cell_of h7 0).trans rfl
  have z1 : ((((w6.setCell ⟨w.heap.size, 0, none⟩ (.int .i64 a)).setCell ⟨w.heap.size, 1, none⟩ (.slice Af nf cf)).setCell ⟨w.heap.size, 2, none⟩ (.int .i64 k))).cell? ⟨w.heap.size, 1, none⟩ = some (.slice Af nf cf) := (cell_of h7 1).trans rfl
  have z2 : ((((w6.setCell ⟨w.heap.size, 0, none⟩ (.int .i64 a)).setCell ⟨w.heap.size, 1, none⟩ (.slice Af nf cf)).setCell ⟨w.heap.size, 2, none⟩ (.int .i64 k))).cell? ⟨w.heap.size, 2, none⟩ = some (.int .i64 k) := (cell_of h7 2).trans rfl
  refine bodyPost_ret (v := .agg #[.int .i64 a, .slice Af nf cf, .int .i64 k]) (by simp [results, Try.results48, go_sem, z0, z1, z2]) rfl ⟨Af, nf, cf, by rw [HA.out, HK.out], HE2.out, ?_, below_three HB6.out (Nat.le_refl _) _ _ _⟩
  have hg7 := grown_three w6 w.heap.size (.int .i64 a) (.slice Af nf cf) (.int .i64 k)
  exact (Own.grownFar HE3.out hg7 (Nat.le_refl _) (fun hx g' hA e => by have h := (HE3.out.lt_ hx hA).1; simp at h; injection e with e; omega)).more (by simp) hg7.size

theorem field_c0 (v k : Int) (A : Option Addr) (n c : Nat) (W : World) : (Instr.field 65 (.agg #[.int .i64 v, .slice A n c, .int .i64 k]) 0).run Try.prog W = .ok (.int .i64 v) W := by kernel_rfl
theorem field_c1 (v k : Int) (A : Option Addr) (n c : Nat) (W : World) : (Instr.field 65 (.agg #[.int .i64 v, .slice A n c, .int .i64 k]) 1).run Try.prog W = .ok (.slice A n c) W := by kernel_rfl
theorem field_c2 (v k : Int) (A : Option Addr) (n c : Nat) (W : World) : (Instr.field 65 (.agg #[.int .i64 v, .slice A n c, .int .i64 k]) 2).run Try.prog W = .ok (.int .i64 k) W := by kernel_rfl

/-- What a box costs by its number: its volume. -/
def volK (bs : List (Int × Int × Int)) (k : Nat) : Int := volT (bs.getD k (0, 0, 0))
theorem volK_at {bs : List (Int × Int × Int)} {k : Nat} {b : Int × Int × Int} (h : bs[k]? = some b) : volK bs k = volT b := by
  unfold volK
  rw [List.getD, h]
  rfl
theorem volK_bd {bs : List (Int × Int × Int)} (hg : goodN bs = true) {k : Nat} (hk : k < bs.length) : 0 ≤ volK bs k ∧ volK bs k ≤ 1000000 := by
  have e := List.getElem?_eq_getElem hk
  obtain ⟨⟨x, y, z⟩, hb⟩ : ∃ b, b = bs[k] := ⟨_, rfl⟩
  rw [← hb] at e
  rw [volK_at e]
  have hb := (goodN_at hg).2.2 _ (List.mem_of_getElem? e)
  have := (vol_bds hb).2
  have hv : volT (x, y, z) = x * y * z := rfl
  omega
theorem leastVol_any (A : Option Addr) (n c : Nat) (bs : List (Int × Int × Int)) (lo hi : Nat) (w : World) (hn : bs.length = n) (hg : goodN bs = true) (hs : Seg w lo hi A (flat3 bs)) (hB : hi ≤ w.heap.size) :
    Calls Try.prog 53 #[.slice A n c, .func (.func 54) #[] #[]] w (RetLst (costC (volK bs)) bs w) :=
  leastV_any A n c bs lo hi w (volK bs) hn hg hs hB (fun k hk => volK_bd hg (by omega)) (fun k x y z w' h => by
    rw [volK_at h]
    exact volume_any x y z w' ((goodN_at hg).2.2 _ (List.mem_of_getElem? h)))

set_option maxRecDepth 100000 in
set_option maxHeartbeats 1000000 in
theorem impl_FewestOuter (A : Option Addr) (n c : Nat) (bs : List (Int × Int × Int)) (lo hi : Nat) (w : World) (hn : bs.length = n) (hlen : n ≤ 1048576) (hs : Seg w lo hi A (flat3 bs)) (hB : hi ≤ w.heap.size) (q : Bool) (hq : goodN bs = q) :
    Calls Try.prog 14 #[.slice A n c] w (RetI (if q = true then leastC outC (bestN bs) else 0) q w) := by
  have HN := Lib.hid hn
  have HG := Lib.hid hq
  cases q
  · clear hn hq
    go_enter Try.func14, Try.ntmps14
    go_wp2_with fail
    refine (areBoxes_any _ _ _ bs lo hi _ HN.out hlen hs hB _ HG.out).mono ?_
    rintro e w1 ⟨rfl, hb1⟩
    go_wp2
    go_ret2
    exact ⟨rfl, hb1⟩
  · clear hn hq
    go_enter Try.func14, Try.ntmps14
    go_wp2_with fail
    refine (areBoxes_any _ _ _ bs lo hi _ HN.out hlen hs hB _ HG.out).mono ?_
    rintro e w1 ⟨rfl, hb1⟩
    have hz1 := hb1.size
    have HB1 := Lib.hid hb1
    clear hb1
    go_wp2_with fail
    refine (fewestOuterOf_any A n c bs lo hi _ HN.out HG.out (hs.below HB1.out hB) (by omega)).mono ?_
    rintro e w2 ⟨Af, nf, cf, rfl, e2, e3, hb2⟩
    obtain ⟨a, ha⟩ : ∃ a, leastC (outC) (nesB (outC) (nesAll bs)) = a := ⟨_, rfl⟩
    obtain ⟨k, hk⟩ : ∃ k, (nesB (outC) (nesAll bs)).length = k := ⟨_, rfl⟩
    have HA := Lib.hid ha
    have HK := Lib.hid hk
    have HE2 := Lib.hid e2
    have HE3 := Lib.hid e3
    rw [ha, hk]
    clear ha hk e2 e3
    have hfd := field_c0 a k Af nf cf
    go_wp2
    go_ret2
    exact ⟨by rw [← HA.out]; rfl, HB1.out.trans (hb2.mono hz1)⟩

set_option maxRecDepth 100000 in
set_option maxHeartbeats 1000000 in
theorem impl_CountNestings (A : Option Addr) (n c : Nat) (bs : List (Int × Int × Int)) (lo hi : Nat) (w : World) (hn : bs.length = n) (hlen : n ≤ 1048576) (hs : Seg w lo hi A (flat3 bs)) (hB : hi ≤ w.heap.size) (q : Bool) (hq : goodN bs = q) :
    Calls Try.prog 23 #[.slice A n c] w (RetI (if q = true then ((bestN bs).length : Nat) else 0) q w) := by
  have HN := Lib.hid hn
  have HG := Lib.hid hq
  cases q
  · clear hn hq
    go_enter Try.func23, Try.ntmps23
    go_wp2_with fail
    refine (areBoxes_any _ _ _ bs lo hi _ HN.out hlen hs hB _ HG.out).mono ?_
    rintro e w1 ⟨rfl, hb1⟩
    go_wp2
    go_ret2
    exact ⟨rfl, hb1⟩
  · clear hn hq
    go_enter Try.func23, Try.ntmps23
    go_wp2_with fail
    refine (areBoxes_any _ _ _ bs lo hi _ HN.out hlen hs hB _ HG.out).mono ?_
    rintro e w1 ⟨rfl, hb1⟩
    have hz1 := hb1.size
    have HB1 := Lib.hid hb1
    clear hb1
    go_wp2_with fail
    refine (fewestOuterOf_any A n c bs lo hi _ HN.out HG.out (hs.below HB1.out hB) (by omega)).mono ?_
    rintro e w2 ⟨Af, nf, cf, rfl, e2, e3, hb2⟩
    obtain ⟨a, ha⟩ : ∃ a, leastC (outC) (nesB (outC) (nesAll bs)) = a := ⟨_, rfl⟩
    obtain ⟨k, hk⟩ : ∃ k, (nesB (outC) (nesAll bs)).length = k := ⟨_, rfl⟩
    have HA := Lib.hid ha
    have HK := Lib.hid hk
    have HE2 := Lib.hid e2
    have HE3 := Lib.hid e3
    rw [ha, hk]
    clear ha hk e2 e3
    have hfd := field_c2 a k Af nf cf
    go_wp2
    go_ret2
    exact ⟨by rw [← HK.out]; rfl, HB1.out.trans (hb2.mono hz1)⟩

set_option maxRecDepth 100000 in
set_option maxHeartbeats 1000000 in
theorem impl_FirstNesting (A : Option Addr) (n c : Nat) (bs : List (Int × Int × Int)) (lo hi : Nat) (w : World) (hn : bs.length = n) (hlen : n ≤ 1048576) (hs : Seg w lo hi A (flat3 bs)) (hB : hi ≤ w.heap.size) (q : Bool) (hq : goodN bs = q) :
    Calls Try.prog 17 #[.slice A n c] w (RetL q (someN q (firstC (bestN bs))) w) := by
  have HN := Lib.hid hn
  have HG := Lib.hid hq
  cases q
  · clear hn hq
    go_enter Try.func17, Try.ntmps17
    go_wp2_with fail
    refine (areBoxes_any _ _ _ bs lo hi _ HN.out hlen hs hB _ HG.out).mono ?_
    rintro e w1 ⟨rfl, hb1⟩
    go_wp2
    go_ret2
    exact ⟨none, 0, 0, rfl, rfl, Own.nil_, hb1⟩
  · clear hn hq
    go_enter Try.func17, Try.ntmps17
    go_wp2_with fail
    refine (areBoxes_any _ _ _ bs lo hi _ HN.out hlen hs hB _ HG.out).mono ?_
    rintro e w1 ⟨rfl, hb1⟩
    have hz1 := hb1.size
    have HB1 := Lib.hid hb1
    clear hb1
    go_wp2_with fail
    refine (fewestOuterOf_any A n c bs lo hi _ HN.out HG.out (hs.below HB1.out hB) (by omega)).mono ?_
    rintro e w2 ⟨Af, nf, cf, rfl, e2, e3, hb2⟩
    obtain ⟨a, ha⟩ : ∃ a, leastC (outC) (nesB (outC) (nesAll bs)) = a := ⟨_, rfl⟩
    obtain ⟨k, hk⟩ : ∃ k, (nesB (outC) (nesAll bs)).length = k := ⟨_, rfl⟩
    have HA := Lib.hid ha
    have HK := Lib.hid hk
    have HE2 := Lib.hid e2
    have HE3 := Lib.hid e3
    rw [ha, hk]
    clear ha hk e2 e3
    have hfd := field_c1 a k Af nf cf
    go_wp2
    go_ret2
    exact ⟨Af, nf, cf, rfl, HE2.out, HE3.out.more hz1 (Nat.le_refl _), HB1.out.trans (hb2.mono hz1)⟩

set_option maxRecDepth 100000 in
set_option maxHeartbeats 1000000 in
theorem impl_LeastOuterVolume (A : Option Addr) (n c : Nat) (bs : List (Int × Int × Int)) (lo hi : Nat) (w : World) (hn : bs.length = n) (hlen : n ≤ 1048576) (hs : Seg w lo hi A (flat3 bs)) (hB : hi ≤ w.heap.size) (q : Bool) (hq : goodN bs = q) :
    Calls Try.prog 25 #[.slice A n c] w (RetI (if q = true then leastC (costC (volK bs)) (nesB (costC (volK bs)) (nesAll bs)) else 0) q w) := by
  have HN := Lib.hid hn
  have HG := Lib.hid hq
  cases q
  · clear hn hq
    go_enter Try.func25, Try.ntmps25
    go_wp2_with fail
    refine (areBoxes_any _ _ _ bs lo hi _ HN.out hlen hs hB _ HG.out).mono ?_
    rintro e w1 ⟨rfl, hb1⟩
    go_wp2
    go_ret2
    exact ⟨rfl, hb1⟩
  · clear hn hq
    go_enter Try.func25, Try.ntmps25
    go_wp2_with fail
    refine (areBoxes_any _ _ _ bs lo hi _ HN.out hlen hs hB _ HG.out).mono ?_
    rintro e w1 ⟨rfl, hb1⟩
    have hz1 := hb1.size
    have HB1 := Lib.hid hb1
    clear hb1
    go_wp2_with fail
    refine (leastVol_any A n c bs lo hi _ HN.out HG.out (hs.below HB1.out hB) (by omega)).mono ?_
    rintro e w2 ⟨Af, nf, cf, rfl, e2, e3, hb2⟩
    obtain ⟨a, ha⟩ : ∃ a, leastC (costC (volK bs)) (nesB (costC (volK bs)) (nesAll bs)) = a := ⟨_, rfl⟩
    obtain ⟨k, hk⟩ : ∃ k, (nesB (costC (volK bs)) (nesAll bs)).length = k := ⟨_, rfl⟩
    have HA := Lib.hid ha
    have HK := Lib.hid hk
    have HE2 := Lib.hid e2
    have HE3 := Lib.hid e3
    rw [ha, hk]
    clear ha hk e2 e3
    have hfd := field_c0 a k Af nf cf
    go_wp2
    go_ret2
    exact ⟨by rw [← HA.out]; rfl, HB1.out.trans (hb2.mono hz1)⟩

end Go.Proofs.Ytbaofgbkcolmmab

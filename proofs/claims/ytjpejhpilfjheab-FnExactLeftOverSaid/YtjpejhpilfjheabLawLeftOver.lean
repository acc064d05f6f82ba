/-
  For every list of numbers and list of lists of numbers the law of LeftOver returns true and leaves the lists as they were.
  Conditions: none.
-/
import Derived.Test.YtjpejhpilfjheabLoI
import Derived.Test.YtjpejhpilfjheabLoS
import Derived.Test.YtjpejhpilfjheabCopy
import Derived.Test.YtjpejhpilfjheabEq
import Derived.OpenShut
import Derived.ShutString
import Derived.ChangeOld
namespace Go.Proofs.Ytjpejhpilfjheab
namespace LawLeftOver
open Go.ChangeShapes Go.WideShapes Go.ChangeAt Go.RowKit
open Go.ChangeMaps (open_string shut_string)
set_option linter.unusedVariables false

theorem own : ownKnob Try.prog.godebug = none := by kernel_rfl
theorem laidOut : laidOutB Try.prog = true := by kernel_rfl

set_option maxHeartbeats 1000000 in
theorem walk {a0 : Option Addr} {len0 cap0 : Nat} {z0 : List Int} {a1 : Option Addr} {len1 cap1 : Nat} {z1 : List (List Int)} {w : World} (hn0 : z0.length = len0) (hs0 : Seg w 0 w.heap.size a0 z0) (hm1 : len1 ≤ 9223372036854775807) (hpx1 : ∀ p ∈ z1, p.length ≤ 9223372036854775807) (hn1 : z1.length = len1) (hs1 : RowsIn w w.heap.size a1 z1) :
    Calls Try.prog 3 #[.slice a0 len0 cap0, .slice a1 len1 cap1] w fun e w' => e = .returned (.bool true) ∧ Below w.heap.size w w' := by
  by_cases hbig0 : 1048576 < len0
  · clear hs0 hn0 hs1 hn1
    go_enter Try.func3, Try.ntmps3
    go_wp2
    go_ret
    exact ⟨rfl, Below.refl _ _⟩
  have hlen0 : len0 ≤ 1048576 := by omega
  have HPX1 := Lib.hid hpx1
  clear hpx1
  by_cases hbig1 : ¬ bulk z1 ≤ 1048576
  · have HSZ := Lib.hid (szIntSS_any a1 len1 cap1 z1 _ w hn1 hm1 HPX1.out hs1)
    rw [if_neg hbig1] at HSZ
    clear hs0 hn0 hs1 hn1
    go_enter Try.func3, Try.ntmps3
    go_wp2_with fail
    refine HSZ.out.mono ?_
    rintro e w0 ⟨rfl, rfl⟩
    go_wp2
    go_ret
    exact ⟨rfl, Below.refl _ _⟩
  obtain ⟨hl10, hsm1, hxx1⟩ := bulk_facts (Decidable.not_not.1 hbig1)
  have hlen1 : len1 ≤ 1048576 := by omega
  have HSM1 := Lib.hid hsm1
  have HX1 := Lib.hid hxx1
  obtain ⟨su1, hsu1⟩ : ∃ su, sums z1 len1 = su := ⟨_, rfl⟩
  have hsb1 : su1 ≤ 1048576 := by rw [← hsu1, ← hn1]; exact hsm1
  obtain ⟨bv1, hbv1⟩ : ∃ bv : Int, (if bulk z1 ≤ 1048576 then 1048576 - (bulk z1 : Int) else -1) = bv := ⟨_, rfl⟩
  have hbv0 : decide (bv1 < 0) = false := decide_eq_false (by rw [← hbv1, if_pos (Decidable.not_not.1 hbig1)]; have := Decidable.not_not.1 hbig1; omega)
  have HSU1 := Lib.hid hsu1
  have HBU1 := Lib.hid hbv1
  clear hsu1 hbv1 hbig1 hsm1 hxx1 hl10
  have HN0 := Lib.hid hn0
  have HN1 := Lib.hid hn1
  obtain ⟨q, hq⟩ : ∃ q, leftB z0 z1 = q := ⟨_, rfl⟩
  have HQ := Lib.hid hq
  clear hq
  cases q
  case' false => have HYB := Lib.hid (someN_no (leftK z0 z1 len1))
  case' true => have HYB := Lib.hid (someN_yes (ys := leftK z0 z1 len1) (by rw [leftK_len, HN0.out]; omega))
  clear hn0 hn1
  all_goals
    go_enter Try.func3, Try.ntmps3
    go_wp2_with fail
    refine (szIntSS_any _ _ _ z1 _ _ HN1.out hm1 HPX1.out hs1).mono ?_
    rw [HBU1.out]
    rintro e w0 ⟨rfl, rfl⟩
    go_wp2_with fail
    refine (toIntS_any _ _ _ z0 w.heap.size _ HN0.out hlen0 hs0 (by omega)).mono ?_
    rintro e w1 ⟨rfl, ca0, hb1⟩
    have hz1 := hb1.size
    have hB1 : Below w.heap.size w w1 := Below.trans (Below.refl _ _) (hb1.mono (by omega))
    have hs0_1 := hs0.below hb1 (by omega)
    clear hs0
    have hs1_1 := hs1.below hb1 (by omega)
    clear hs1
    go_wp2_with fail
    refine (toIntSS_any _ _ _ z1 w.heap.size _ HN1.out hlen1 HX1.out hs1_1 (by omega)).mono ?_
    rintro e w2 ⟨rfl, ca1, hb2⟩
    have hz2 := hb2.size
    have hB2 : Below w.heap.size w w2 := Below.trans hB1 (hb2.mono (by omega))
    have hs0_2 := hs0_1.below hb2 (by omega)
    clear hs0_1
    have hs1_2 := hs1_1.below hb2 (by omega)
    clear hs1_1
    have ca0_2 := ca0.below hb2 (by omega)
    clear ca0
    go_wp2_with fail
    refine (spec_LeftOver _ _ _ _ _ _ z0 z1 _ _ _ _ HN0.out hlen0 HN1.out hlen1 ca0_2.seg (by omega) (rows_of_nest ca1) (by omega) HX1.out _ HQ.out).mono ?_
    rintro e w3 ⟨WA0, Wn0, Wc0, rfl, Wl0, Wo0, hb3⟩
    have hz3 := hb3.size
    have hB3 : Below w.heap.size w w3 := Below.trans hB2 (hb3.mono (by omega))
    have hs0_3 := hs0_2.below hb3 (by omega)
    clear hs0_2
    have hs1_3 := hs1_2.below hb3 (by omega)
    clear hs1_2
    have ca0_3 := ca0_2.below hb3 (by omega)
    clear ca0_2
    have ca1_3 := ca1.below hb3 (by omega)
    clear ca1
    go_wp2_with fail
    refine (toIntS_any _ _ _ z0 w.heap.size _ HN0.out hlen0 hs0_3 (by omega)).mono ?_
    rintro e w4 ⟨rfl, X0, hb4⟩
    have hz4 := hb4.size
    have hB4 : Below w.heap.size w w4 := Below.trans hB3 (hb4.mono (by omega))
    have hs0_4 := hs0_3.below hb4 (by omega)
    clear hs0_3
    have hs1_4 := hs1_3.below hb4 (by omega)
    clear hs1_3
    have Wo0_4 := Wo0.below hb4 (by omega)
    clear Wo0
    go_wp2_with fail
    refine (toIntSS_any _ _ _ z1 w.heap.size _ HN1.out hlen1 HX1.out hs1_4 (by omega)).mono ?_
    rintro e w5 ⟨rfl, X1, hb5⟩
    have hz5 := hb5.size
    have hB5 : Below w.heap.size w w5 := Below.trans hB4 (hb5.mono (by omega))
    have hs0_5 := hs0_4.below hb5 (by omega)
    clear hs0_4
    have hs1_5 := hs1_4.below hb5 (by omega)
    clear hs1_4
    have Wo0_5 := Wo0_4.below hb5 (by omega)
    clear Wo0_4
    have X0_5 := X0.below hb5 (by omega)
    clear X0
    go_wp2_with fail
    refine (impl_LeftOver _ _ _ _ _ _ z0 z1 _ _ _ _ HN0.out hlen0 HN1.out hlen1 X0_5.seg (by omega) (rows_of_nest X1) (by omega) HX1.out _ HQ.out).mono ?_
    rintro e w6 ⟨GA0, Gn0, Gc0, rfl, Gl0, Go0, hb6⟩
    have hz6 := hb6.size
    have hB6 : Below w.heap.size w w6 := Below.trans hB5 (hb6.mono (by omega))
    have hs0_6 := hs0_5.below hb6 (by omega)
    clear hs0_5
    have hs1_6 := hs1_5.below hb6 (by omega)
    clear hs1_5
    have Wo0_6 := Wo0_5.below hb6 (by omega)
    clear Wo0_5
    have X0_6 := X0_5.below hb6 (by omega)
    clear X0_5
    have X1_6 := X1.below hb6 (by omega)
    clear X1
    obtain rfl : Gn0 = Wn0 := Gl0.symm.trans Wl0
    have HY0 := Lib.hid Gl0
    have hy0 := HYB.out
    rw [Gl0] at hy0
    clear Wl0 Gl0
    go_wp2_with fail
    refine (eqIntS_b _ _ _ _ _ _ _ _ _ _ _ HY0.out (by omega) Go0.seg Wo0_6.seg).mono ?_
    rintro e w7 ⟨rfl, hb7⟩
    have hz7 := hb7.size
    have hB7 : Below w.heap.size w w7 := Below.trans hB6 (hb7.mono (by omega))
    have hs0_7 := hs0_6.below hb7 (by omega)
    clear hs0_6
    have hs1_7 := hs1_6.below hb7 (by omega)
    clear hs1_6
    have Wo0_7 := Wo0_6.below hb7 (by omega)
    clear Wo0_6
    have X0_7 := X0_6.below hb7 (by omega)
    clear X0_6
    have X1_7 := X1_6.below hb7 (by omega)
    clear X1_6
    have Go0_7 := Go0.below hb7 (by omega)
    clear Go0
    go_wp2_with fail
    refine (toIntS_any _ _ _ z0 w.heap.size _ HN0.out hlen0 hs0_7 (by omega)).mono ?_
    rintro e w8 ⟨rfl, cb0, hb8⟩
    have hz8 := hb8.size
    have hB8 : Below w.heap.size w w8 := Below.trans hB7 (hb8.mono (by omega))
    have hs0_8 := hs0_7.below hb8 (by omega)
    clear hs0_7
    have hs1_8 := hs1_7.below hb8 (by omega)
    clear hs1_7
    have Wo0_8 := Wo0_7.below hb8 (by omega)
    clear Wo0_7
    have X0_8 := X0_7.below hb8 (by omega)
    clear X0_7
    have X1_8 := X1_7.below hb8 (by omega)
    clear X1_7
    have Go0_8 := Go0_7.below hb8 (by omega)
    clear Go0_7
    go_wp2_with fail
    refine (eqIntS_b _ _ _ _ _ z0 _ _ _ _ _ HN0.out hlen0 X0_8.seg cb0.seg).mono ?_
    rintro e w9 ⟨rfl, hb9⟩
    have hz9 := hb9.size
    have hB9 : Below w.heap.size w w9 := Below.trans hB8 (hb9.mono (by omega))
    have hs0_9 := hs0_8.below hb9 (by omega)
    clear hs0_8
    have hs1_9 := hs1_8.below hb9 (by omega)
    clear hs1_8
    have Wo0_9 := Wo0_8.below hb9 (by omega)
    clear Wo0_8
    have X0_9 := X0_8.below hb9 (by omega)
    clear X0_8
    have X1_9 := X1_8.below hb9 (by omega)
    clear X1_8
    have Go0_9 := Go0_8.below hb9 (by omega)
    clear Go0_8
    have cb0_9 := cb0.below hb9 (by omega)
    clear cb0
    go_wp2_with fail
    refine (toIntSS_any _ _ _ z1 w.heap.size _ HN1.out hlen1 HX1.out hs1_9 (by omega)).mono ?_
    rintro e w10 ⟨rfl, cb1, hb10⟩
    have hz10 := hb10.size
    have hB10 : Below w.heap.size w w10 := Below.trans hB9 (hb10.mono (by omega))
    have hs0_10 := hs0_9.below hb10 (by omega)
    clear hs0_9
    have hs1_10 := hs1_9.below hb10 (by omega)
    clear hs1_9
    have Wo0_10 := Wo0_9.below hb10 (by omega)
    clear Wo0_9
    have X0_10 := X0_9.below hb10 (by omega)
    clear X0_9
    have X1_10 := X1_9.below hb10 (by omega)
    clear X1_9
    have Go0_10 := Go0_9.below hb10 (by omega)
    clear Go0_9
    go_wp2_with fail
    refine (eqIntSS_b _ _ _ _ _ _ _ _ _ _ _ HN1.out hlen1 HX1.out X1_10 cb1 (by omega) (by omega)).mono ?_
    rintro e w11 ⟨rfl, hb11⟩
    have hz11 := hb11.size
    have hB11 : Below w.heap.size w w11 := Below.trans hB10 (hb11.mono (by omega))
    have hs0_11 := hs0_10.below hb11 (by omega)
    clear hs0_10
    have hs1_11 := hs1_10.below hb11 (by omega)
    clear hs1_10
    have Wo0_11 := Wo0_10.below hb11 (by omega)
    clear Wo0_10
    have X0_11 := X0_10.below hb11 (by omega)
    clear X0_10
    have X1_11 := X1_10.below hb11 (by omega)
    clear X1_10
    have Go0_11 := Go0_10.below hb11 (by omega)
    clear Go0_10
    have cb1_11 := cb1.below hb11 (by omega)
    clear cb1
    go_wp2_with fail
    refine (markIntS_any _ _ _ _ z0 _ _ _ HN0.out hlen0 (by omega) (by omega) X0_11).mono ?_
    rintro e w12 ⟨rfl, X0_12, row12, hg12, hr12⟩
    have hz12 := hg12.size
    have hB12 : Below w.heap.size w w12 := Below.grown hB11 hg12 (by omega) (fun g hg => by have := hr12 g hg; omega)
    have hs0_12 := hs0_11.grown hg12 (by omega) (fun g hg => by have := hr12 g hg; omega)
    clear hs0_11
    have hs1_12 := hs1_11.grown hg12 (by omega) (fun g hg => by have := hr12 g hg; omega)
    clear hs1_11
    have Wo0_12 := Wo0_11.grown hg12 (by omega) (fun g hg => by have := hr12 g hg; omega)
    clear Wo0_11
    have X1_12 := X1_11.grown hg12 (by omega) (fun g hg => by have := hr12 g hg; omega)
    clear X1_11
    have Go0_12 := Go0_11.grown hg12 (by omega) (fun g hg => by have := hr12 g hg; omega)
    clear Go0_11
    go_wp2_with fail
    refine (markIntSS_any _ _ _ _ _ _ _ _ HN1.out hlen1 HSM1.out (by omega) (by omega) X1_12).mono ?_
    rw [HSU1.out]
    rintro e w13 ⟨rfl, X1_13, ho13⟩
    have hz13 := ho13.size
    have hB13 : Below w.heap.size w w13 := Below.trans hB12 (ho13.below (by omega) (fun b hb => by omega))
    have hs0_13 := hs0_12.only ho13 (by omega) (fun b hb => by omega)
    clear hs0_12
    have hs1_13 := hs1_12.only ho13 (by omega) (fun b hb => by omega)
    clear hs1_12
    have Wo0_13 := Wo0_12.only ho13 (by omega) (fun b hb => by omega)
    clear Wo0_12
    have X0_13 := X0_12.only ho13 (by omega) (fun b hb => by omega)
    clear X0_12
    have Go0_13 := Go0_12.only ho13 (by omega) (fun b hb => by omega)
    clear Go0_12
    go_wp2_with fail
    refine (eqIntS_b _ _ _ _ _ _ _ _ _ _ _ HY0.out (by omega) Go0_13.seg Wo0_13.seg).mono ?_
    rintro e w14 ⟨rfl, hb14⟩
    have hz14 := hb14.size
    have hB14 : Below w.heap.size w w14 := Below.trans hB13 (hb14.mono (by omega))
    have hs0_14 := hs0_13.below hb14 (by omega)
    clear hs0_13
    have hs1_14 := hs1_13.below hb14 (by omega)
    clear hs1_13
    have Wo0_14 := Wo0_13.below hb14 (by omega)
    clear Wo0_13
    have Go0_14 := Go0_13.below hb14 (by omega)
    clear Go0_13
    go_wp2_with fail
    refine (markIntS_any _ _ _ _ _ _ _ _ HY0.out (by omega) (by omega) (by omega) Go0_14).mono ?_
    rintro e w15 ⟨rfl, Go0_15, row15, hg15, hr15⟩
    have hz15 := hg15.size
    have hB15 : Below w.heap.size w w15 := Below.grown hB14 hg15 (by omega) (fun g hg => by have := hr15 g hg; omega)
    have hs0_15 := hs0_14.grown hg15 (by omega) (fun g hg => by have := hr15 g hg; omega)
    clear hs0_14
    have hs1_15 := hs1_14.grown hg15 (by omega) (fun g hg => by have := hr15 g hg; omega)
    clear hs1_14
    have Wo0_15 := Wo0_14.grown hg15 (by omega) (fun g hg => by have := hr15 g hg; omega)
    clear Wo0_14
    go_wp2_with fail
    refine (heldIntS_any _ _ _ _ _ _ _ (by omega) (by omega) (by omega) Go0_15.seg).mono ?_
    rintro e w115 ⟨rfl, rfl⟩
    go_wp2_with fail
    refine (toIntS_any _ _ _ z0 w.heap.size _ HN0.out hlen0 hs0_15 (by omega)).mono ?_
    rintro e w16 ⟨rfl, cc0, hb16⟩
    have hz16 := hb16.size
    have hB16 : Below w.heap.size w w16 := Below.trans hB15 (hb16.mono (by omega))
    have hs0_16 := hs0_15.below hb16 (by omega)
    clear hs0_15
    have hs1_16 := hs1_15.below hb16 (by omega)
    clear hs1_15
    have Wo0_16 := Wo0_15.below hb16 (by omega)
    clear Wo0_15
    have Go0_16 := Go0_15.below hb16 (by omega)
    clear Go0_15
    go_wp2_with fail
    refine (toIntSS_any _ _ _ z1 w.heap.size _ HN1.out hlen1 HX1.out hs1_16 (by omega)).mono ?_
    rintro e w17 ⟨rfl, cc1, hb17⟩
    have hz17 := hb17.size
    have hB17 : Below w.heap.size w w17 := Below.trans hB16 (hb17.mono (by omega))
    have hs0_17 := hs0_16.below hb17 (by omega)
    clear hs0_16
    have hs1_17 := hs1_16.below hb17 (by omega)
    clear hs1_16
    have Wo0_17 := Wo0_16.below hb17 (by omega)
    clear Wo0_16
    have Go0_17 := Go0_16.below hb17 (by omega)
    clear Go0_16
    have cc0_17 := cc0.below hb17 (by omega)
    clear cc0
    go_wp2_with fail
    refine (impl_LeftOver _ _ _ _ _ _ z0 z1 _ _ _ _ HN0.out hlen0 HN1.out hlen1 cc0_17.seg (by omega) (rows_of_nest cc1) (by omega) HX1.out _ HQ.out).mono ?_
    rintro e w18 ⟨HA0, Hn0, Hc0, rfl, Hl0, Ho0, hb18⟩
    have hz18 := hb18.size
    have hB18 : Below w.heap.size w w18 := Below.trans hB17 (hb18.mono (by omega))
    have hs0_18 := hs0_17.below hb18 (by omega)
    clear hs0_17
    have hs1_18 := hs1_17.below hb18 (by omega)
    clear hs1_17
    have Wo0_18 := Wo0_17.below hb18 (by omega)
    clear Wo0_17
    have Go0_18 := Go0_17.below hb18 (by omega)
    clear Go0_17
    have cc0_18 := cc0_17.below hb18 (by omega)
    clear cc0_17
    have cc1_18 := cc1.below hb18 (by omega)
    clear cc1
    obtain rfl : Hn0 = Gn0 := Hl0.symm.trans HY0.out
    clear Hl0
    go_wp2_with fail
    refine (eqIntS_b _ _ _ _ _ _ _ _ _ _ _ HY0.out (by omega) Ho0.seg Wo0_18.seg).mono ?_
    rintro e w19 ⟨rfl, hb19⟩
    have hz19 := hb19.size
    have hB19 : Below w.heap.size w w19 := Below.trans hB18 (hb19.mono (by omega))
    have hs0_19 := hs0_18.below hb19 (by omega)
    clear hs0_18
    have hs1_19 := hs1_18.below hb19 (by omega)
    clear hs1_18
    have Wo0_19 := Wo0_18.below hb19 (by omega)
    clear Wo0_18
    have Go0_19 := Go0_18.below hb19 (by omega)
    clear Go0_18
    have Ho0_19 := Ho0.below hb19 (by omega)
    clear Ho0
    go_wp2_with fail
    refine (heldIntS_any _ _ _ _ _ _ _ (by omega) (by omega) (by omega) Go0_19.seg).mono ?_
    rintro e w119 ⟨rfl, rfl⟩
    go_wp2
    go_ret
    exact ⟨rfl, hB19⟩

set_option maxRecDepth 100000 in
theorem lifted (os : Os) (started : os.Started) (H : Type) (enc : TypeId × Value → H) :
    ReturnsInHanded {} Try.checked os 3 .any (Rows.fnExactLeftOverSpec.pre6 enc Try.prog Try.f3 Rows.fnExactLeftOverRow.domain false) (Rows.fnExactLeftOverSpec.post enc Try.prog Try.f3 false true false false) := by
  refine returnsInHanded_of_change (C := Try.checked) own started (by kernel_rfl) Try.func3
    (ChangeSpec.witness6 (enc := enc) (C := Try.checked) false ⟨#[], #[.slice none 0 0, .slice none 0 0], []⟩ 8 (by kernel_rfl) (by kernel_rfl) (by kernel_rfl) (by kernel_rfl)) ?_
  intro W base args ds gs before hval0 hW hcnd _
  have hval : ∀ (j : Nat) t v, Try.f3.params[j]? = some t → args[j]? = some v → Value.okWide Try.prog W .any base t v := hval0
  have hW' := hW
  obtain ⟨p, q, hA0, hV, rfl, hfz, hnd⟩ := hW
  have hA : DataW.TrodAll enc Try.prog W 0 (fun _ => true) true Try.f3.params.toList args.toList ds p := hA0
  rw [Try.params3] at hA hval
  obtain ⟨v0, vs0, d0, ds0, p0, q0, hargs, rfl, rfl, h0, r0⟩ := trodAll_cons hA
  obtain ⟨v1, vs1, d1, ds1, p1, q1, rfl, rfl, rfl, h1, r1⟩ := trodAll_cons r0
  obtain ⟨rfl, rfl, rfl⟩ := trodAll_nil r1
  obtain rfl : args = #[v0, v1] := by cases args; simp_all
  obtain ⟨rfl, rfl⟩ := trodVars_none hV
  obtain ⟨a0, len0, cap0, rfl⟩ := okWide_slice Try.underlying22 (hval 0 22 v0 rfl rfl)
  have k0 := h0
  have lt0 : ∀ x ∈ p0, x.block < W.heap.size := by obtain ⟨m, hm⟩ := k0; exact DataW.trod_lt m _ _ _ hm
  obtain ⟨z0, n0, s0⟩ : ∃ zs : List Int, zs.length = len0 ∧ Seg W 0 W.heap.size a0 zs := by
    obtain ⟨fuel, hf⟩ := h0
    rcases open_ints Try.underlying22 Try.underlying3 (by kernel_rfl) hf with ⟨hcs, _⟩ | ⟨x, l, c, zs, hcs, _, hl, hm, hz, _, hcell, hwz⟩
    · simp [Value.cells] at hcs
      obtain ⟨rfl, rfl, rfl⟩ := hcs
      exact ⟨[], rfl, .inl rfl⟩
    · simp [Value.cells] at hcs
      obtain ⟨rfl, rfl, rfl⟩ := hcs
      exact ⟨zs.take _, by rw [List.length_take, Nat.min_eq_left]; simp at hz; omega, seg_of hl (by simpa using hz) hcell⟩
  obtain ⟨a1, len1, cap1, rfl⟩ := okWide_slice Try.underlying23 (hval 1 23 v1 rfl rfl)
  have k1 := h1
  have lt1 : ∀ x ∈ p1, x.block < W.heap.size := by obtain ⟨m, hm⟩ := k1; exact DataW.trod_lt m _ _ _ hm
  obtain ⟨m1, z1, px1, n1, s1⟩ : len1 ≤ 9223372036854775807 ∧ ∃ zs : List (List Int), (∀ p ∈ zs, p.length ≤ 9223372036854775807) ∧ zs.length = len1 ∧ RowsIn W W.heap.size a1 zs := by
    obtain ⟨fuel, hf⟩ := h1
    exact open_lists hf
  clear hA0 hval0
  refine (walk (w := W) n0 s0 m1 px1 n1 s1).mono fun e W' ⟨he, bel⟩ => ?_
  subst he
  exact ⟨_, rfl, _, _, _, [], _, [], hW', trodAll_mk1 (shut_bool Try.underlying4 _), (trodAll_cons_mk (Below.trod laidOut (by kernel_rfl) (of_decide_eq_true (by kernel_rfl)) k0 bel lt0) (trodAll_cons_mk (Below.trod laidOut (by kernel_rfl) (of_decide_eq_true (by kernel_rfl)) k1 bel lt1) trodAll_mk0)), rfl, bel.frame _, fun h => by cases h⟩

theorem over : Rows.fnExactLeftOverRow.holds Try.pinned (OpenSpec.ofChange Rows.fnExactLeftOverSpec) :=
  OpenClaim.holds_of_wide 3 Try.f3 rfl rfl rfl rfl rfl rfl rfl ⟨rfl, rfl, rfl, rfl, rfl⟩ rfl rfl rfl rfl rfl (by kernel_rfl) Try.func3 (by kernel_rfl)
    (of_decide_eq_true (by kernel_rfl)) (by unfold Func.isWrapper; first | (rw [if_pos (by decide +kernel)]; kernel_rfl) | (rw [if_neg (by decide +kernel)]; exact ⟨rfl, rfl⟩))
    (fun os started H enc _ => lifted os started H enc)

theorem proved : Rows.FnExactLeftOverSaid := over
#print axioms proved
end LawLeftOver
end Go.Proofs.Ytjpejhpilfjheab

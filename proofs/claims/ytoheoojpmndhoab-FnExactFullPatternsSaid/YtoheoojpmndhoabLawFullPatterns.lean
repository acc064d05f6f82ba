/-
  For every number and list the law of FullPatterns returns true and leaves the list as it was.
  Conditions: none.
-/
import Derived.Test.YtoheoojpmndhoabFulQ
import Derived.Test.YtoheoojpmndhoabCopy
import Derived.Test.YtoheoojpmndhoabEq
import Derived.OpenShut
import Derived.ShutString
import Derived.ChangeOld
namespace Go.Proofs.Ytoheoojpmndhoab
namespace LawFullPatterns
open Go.ChangeShapes Go.WideShapes Go.ChangeAt Go.RowKit
open Go.ChangeMaps (open_string shut_string)
set_option linter.unusedVariables false

theorem own : ownKnob Try.prog.godebug = none := by kernel_rfl
theorem laidOut : laidOutB Try.prog = true := by kernel_rfl

set_option maxHeartbeats 2000000 in
theorem walk {a0 : Int} {a1 : Option Addr} {len1 cap1 : Nat} {z1 : List Int} {w : World} (hi0 : -9223372036854775808 ≤ a0 ∧ a0 ≤ 9223372036854775807) (hn1 : z1.length = len1) (hs1 : Seg w 0 w.heap.size a1 z1) :
    Calls Try.prog 5 #[.int .i64 a0, .slice a1 len1 cap1] w fun e w' => e = .returned (.bool true) ∧ Below w.heap.size w w' := by
  by_cases hbig1 : 1048576 < len1
  · clear hs1 hn1
    go_enter Try.func5, Try.ntmps5
    go_wp2
    go_ret
    exact ⟨rfl, Below.refl _ _⟩
  have hlen1 : len1 ≤ 1048576 := by omega
  have HN1 := Lib.hid hn1
  obtain ⟨q, hq⟩ : ∃ q, fullB a0 z1 = q := ⟨_, rfl⟩
  have HQ := Lib.hid hq
  clear hq
  have HSP := fun (A : Option Addr) (c lo hi : Nat) (v : World) (h : Seg v lo hi A z1) (h2 : hi ≤ v.heap.size) => spec_FullPatterns a0 A len1 c z1 lo hi v HN1.out hlen1 h h2 q HQ.out
  have HIM := fun (A : Option Addr) (c lo hi : Nat) (v : World) (h : Seg v lo hi A z1) (h2 : hi ≤ v.heap.size) => impl_FullPatterns a0 A len1 c z1 lo hi v HN1.out hlen1 h h2 q HQ.out
  obtain ⟨hb1, hb2⟩ := fullsB HQ.out
  obtain ⟨zz, hzz⟩ : ∃ zz, someSSF q (fullsF a0 z1) = zz := ⟨_, rfl⟩
  rw [hzz] at HSP HIM hb1 hb2
  clear hzz
  have HZN := Lib.hid (show ∀ ys ∈ zz, ys.length ≤ 1048576 from fun ys hy => Nat.le_trans (hb2 ys hy) (by omega))
  have HSN := Lib.hid (show sums zz zz.length ≤ 1048576 from Nat.le_trans (sums_le4F hb2 _) (by omega))
  have HYB := Lib.hid (show zz.length ≤ 1048576 by omega)
  clear hb1 hb2
  cases q
  clear hn1
  all_goals
    go_enter Try.func5, Try.ntmps5
    go_wp2_with fail
    refine (toIntS_any _ _ _ z1 w.heap.size _ HN1.out hlen1 hs1 (by omega)).mono ?_
    rintro e w1 ⟨rfl, ca1, hb1⟩
    have hz1 := hb1.size
    have hB1 : Below w.heap.size w w1 := Below.trans (Below.refl _ _) (hb1.mono (by omega))
    have hs1_1 := hs1.below hb1 (by omega)
    clear hs1
    go_wp2_with fail
    refine (HSP _ _ _ _ _ ca1.seg (by omega)).mono ?_
    rintro e w2 ⟨WA0, Wn0, Wc0, rfl, Wl0, Wo0, hb2⟩
    have hz2 := hb2.size
    have hB2 : Below w.heap.size w w2 := Below.trans hB1 (hb2.mono (by omega))
    have hs1_2 := hs1_1.below hb2 (by omega)
    clear hs1_1
    have ca1_2 := ca1.below hb2 (by omega)
    clear ca1
    go_wp2_with fail
    refine (toIntS_any _ _ _ z1 w.heap.size _ HN1.out hlen1 hs1_2 (by omega)).mono ?_
    rintro e w3 ⟨rfl, X1, hb3⟩
    have hz3 := hb3.size
    have hB3 : Below w.heap.size w w3 := Below.trans hB2 (hb3.mono (by omega))
    have hs1_3 := hs1_2.below hb3 (by omega)
    clear hs1_2
    have Wo0_3 := Wo0.below hb3 (by omega)
    clear Wo0
    go_wp2_with fail
    refine (HIM _ _ _ _ _ X1.seg (by omega)).mono ?_
    rintro e w4 ⟨GA0, Gn0, Gc0, rfl, Gl0, Go0, hb4⟩
    have hz4 := hb4.size
    have hB4 : Below w.heap.size w w4 := Below.trans hB3 (hb4.mono (by omega))
    have hs1_4 := hs1_3.below hb4 (by omega)
    clear hs1_3
    have Wo0_4 := Wo0_3.below hb4 (by omega)
    clear Wo0_3
    have X1_4 := X1.below hb4 (by omega)
    clear X1
    obtain rfl : Gn0 = Wn0 := Gl0.symm.trans Wl0
    have HY0 := Lib.hid Gl0
    obtain ⟨sv, hsv⟩ : ∃ sv, sums zz Gn0 = sv := ⟨_, rfl⟩
    have HSV := Lib.hid hsv
    have hsvb : sv ≤ 1048576 := by rw [← hsv, ← Gl0]; exact HSN.out
    clear hsv
    have hy0 := HYB.out
    rw [Gl0] at hy0
    clear Wl0 Gl0
    go_wp2_with fail
    refine (eqIntSS_b _ _ _ _ _ _ _ _ _ _ _ HY0.out (by omega) HZN.out Go0 Wo0_4 (by omega) (by omega)).mono ?_
    rintro e w5 ⟨rfl, hb5⟩
    have hz5 := hb5.size
    have hB5 : Below w.heap.size w w5 := Below.trans hB4 (hb5.mono (by omega))
    have hs1_5 := hs1_4.below hb5 (by omega)
    clear hs1_4
    have Wo0_5 := Wo0_4.below hb5 (by omega)
    clear Wo0_4
    have X1_5 := X1_4.below hb5 (by omega)
    clear X1_4
    have Go0_5 := Go0.below hb5 (by omega)
    clear Go0
    go_wp2_with fail
    refine (toIntS_any _ _ _ z1 w.heap.size _ HN1.out hlen1 hs1_5 (by omega)).mono ?_
    rintro e w6 ⟨rfl, cb1, hb6⟩
    have hz6 := hb6.size
    have hB6 : Below w.heap.size w w6 := Below.trans hB5 (hb6.mono (by omega))
    have hs1_6 := hs1_5.below hb6 (by omega)
    clear hs1_5
    have Wo0_6 := Wo0_5.below hb6 (by omega)
    clear Wo0_5
    have X1_6 := X1_5.below hb6 (by omega)
    clear X1_5
    have Go0_6 := Go0_5.below hb6 (by omega)
    clear Go0_5
    go_wp2_with fail
    refine (eqIntS_b _ _ _ _ _ z1 _ _ _ _ _ HN1.out hlen1 X1_6.seg cb1.seg).mono ?_
    rintro e w7 ⟨rfl, hb7⟩
    have hz7 := hb7.size
    have hB7 : Below w.heap.size w w7 := Below.trans hB6 (hb7.mono (by omega))
    have hs1_7 := hs1_6.below hb7 (by omega)
    clear hs1_6
    have Wo0_7 := Wo0_6.below hb7 (by omega)
    clear Wo0_6
    have X1_7 := X1_6.below hb7 (by omega)
    clear X1_6
    have Go0_7 := Go0_6.below hb7 (by omega)
    clear Go0_6
    have cb1_7 := cb1.below hb7 (by omega)
    clear cb1
    go_wp2_with fail
    refine (markIntS_any _ _ _ _ z1 _ _ _ HN1.out hlen1 (by omega) (by omega) X1_7).mono ?_
    rintro e w8 ⟨rfl, X1_8, row8, hg8, hr8⟩
    have hz8 := hg8.size
    have hB8 : Below w.heap.size w w8 := Below.grown hB7 hg8 (by omega) (fun g hg => by have := hr8 g hg; omega)
    have hs1_8 := hs1_7.grown hg8 (by omega) (fun g hg => by have := hr8 g hg; omega)
    clear hs1_7
    have Wo0_8 := Wo0_7.grown hg8 (by omega) (fun g hg => by have := hr8 g hg; omega)
    clear Wo0_7
    have Go0_8 := Go0_7.grown hg8 (by omega) (fun g hg => by have := hr8 g hg; omega)
    clear Go0_7
    go_wp2_with fail
    refine (eqIntSS_b _ _ _ _ _ _ _ _ _ _ _ HY0.out (by omega) HZN.out Go0_8 Wo0_8 (by omega) (by omega)).mono ?_
    rintro e w9 ⟨rfl, hb9⟩
    have hz9 := hb9.size
    have hB9 : Below w.heap.size w w9 := Below.trans hB8 (hb9.mono (by omega))
    have hs1_9 := hs1_8.below hb9 (by omega)
    clear hs1_8
    have Wo0_9 := Wo0_8.below hb9 (by omega)
    clear Wo0_8
    have Go0_9 := Go0_8.below hb9 (by omega)
    clear Go0_8
    go_wp2_with fail
    refine (markIntSS_any _ _ _ _ _ _ _ _ HY0.out (by omega) HSN.out (by omega) (by omega) Go0_9).mono ?_
    rw [HSV.out]
    rintro e w10 ⟨rfl, Go0_10, ho10⟩
    have hz10 := ho10.size
    have hB10 : Below w.heap.size w w10 := Below.trans hB9 (ho10.below (by omega) (fun b hb => by omega))
    have hs1_10 := hs1_9.only ho10 (by omega) (fun b hb => by omega)
    clear hs1_9
    have Wo0_10 := Wo0_9.only ho10 (by omega) (fun b hb => by omega)
    clear Wo0_9
    go_wp2_with fail
    refine (heldIntSS_any _ _ _ _ _ _ _ _ HY0.out (by omega) HSN.out (by omega) (by omega) Go0_10).mono ?_
    rw [HSV.out]
    rintro e w110 ⟨rfl, rfl⟩
    go_wp2_with fail
    refine (toIntS_any _ _ _ z1 w.heap.size _ HN1.out hlen1 hs1_10 (by omega)).mono ?_
    rintro e w11 ⟨rfl, cc1, hb11⟩
    have hz11 := hb11.size
    have hB11 : Below w.heap.size w w11 := Below.trans hB10 (hb11.mono (by omega))
    have hs1_11 := hs1_10.below hb11 (by omega)
    clear hs1_10
    have Wo0_11 := Wo0_10.below hb11 (by omega)
    clear Wo0_10
    have Go0_11 := Go0_10.below hb11 (by omega)
    clear Go0_10
    go_wp2_with fail
    refine (HIM _ _ _ _ _ cc1.seg (by omega)).mono ?_
    rintro e w12 ⟨HA0, Hn0, Hc0, rfl, Hl0, Ho0, hb12⟩
    have hz12 := hb12.size
    have hB12 : Below w.heap.size w w12 := Below.trans hB11 (hb12.mono (by omega))
    have hs1_12 := hs1_11.below hb12 (by omega)
    clear hs1_11
    have Wo0_12 := Wo0_11.below hb12 (by omega)
    clear Wo0_11
    have Go0_12 := Go0_11.below hb12 (by omega)
    clear Go0_11
    have cc1_12 := cc1.below hb12 (by omega)
    clear cc1
    obtain rfl : Hn0 = Gn0 := Hl0.symm.trans HY0.out
    clear Hl0
    go_wp2_with fail
    refine (eqIntSS_b _ _ _ _ _ _ _ _ _ _ _ HY0.out (by omega) HZN.out Ho0 Wo0_12 (by omega) (by omega)).mono ?_
    rintro e w13 ⟨rfl, hb13⟩
    have hz13 := hb13.size
    have hB13 : Below w.heap.size w w13 := Below.trans hB12 (hb13.mono (by omega))
    have hs1_13 := hs1_12.below hb13 (by omega)
    clear hs1_12
    have Wo0_13 := Wo0_12.below hb13 (by omega)
    clear Wo0_12
    have Go0_13 := Go0_12.below hb13 (by omega)
    clear Go0_12
    have Ho0_13 := Ho0.below hb13 (by omega)
    clear Ho0
    go_wp2_with fail
    refine (heldIntSS_any _ _ _ _ _ _ _ _ HY0.out (by omega) HSN.out (by omega) (by omega) Go0_13).mono ?_
    rw [HSV.out]
    rintro e w113 ⟨rfl, rfl⟩
    go_wp2
    go_ret
    exact ⟨rfl, hB13⟩

set_option maxRecDepth 100000 in
theorem lifted (os : Os) (started : os.Started) (H : Type) (enc : TypeId × Value → H) :
    ReturnsInHanded {} Try.checked os 5 .any (Rows.fnExactFullPatternsSpec.pre6 enc Try.prog Try.f5 Rows.fnExactFullPatternsRow.domain false) (Rows.fnExactFullPatternsSpec.post enc Try.prog Try.f5 false true false false) := by
  refine returnsInHanded_of_change (C := Try.checked) own started (by kernel_rfl) Try.func5
    (ChangeSpec.witness6 (enc := enc) (C := Try.checked) false ⟨#[], #[.int .i64 0, .slice none 0 0], []⟩ 8 (by kernel_rfl) (by kernel_rfl) (by kernel_rfl) (by kernel_rfl)) ?_
  intro W base args ds gs before hval0 hW hcnd _
  have hval : ∀ (j : Nat) t v, Try.f5.params[j]? = some t → args[j]? = some v → Value.okWide Try.prog W .any base t v := hval0
  have hW' := hW
  obtain ⟨p, q, hA0, hV, rfl, hfz, hnd⟩ := hW
  have hA : DataW.TrodAll enc Try.prog W 0 (fun _ => true) true Try.f5.params.toList args.toList ds p := hA0
  rw [Try.params5] at hA hval
  obtain ⟨v0, vs0, d0, ds0, p0, q0, hargs, rfl, rfl, h0, r0⟩ := trodAll_cons hA
  obtain ⟨v1, vs1, d1, ds1, p1, q1, rfl, rfl, rfl, h1, r1⟩ := trodAll_cons r0
  obtain ⟨rfl, rfl, rfl⟩ := trodAll_nil r1
  obtain rfl : args = #[v0, v1] := by cases args; simp_all
  obtain ⟨rfl, rfl⟩ := trodVars_none hV
  obtain ⟨a0, rfl, rfl, rfl, w0⟩ := open_int Try.underlying3 (hval 0 3 v0 rfl rfl) h0
  have b0 : -9223372036854775808 ≤ a0 ∧ a0 ≤ 9223372036854775807 := wf_bounds w0
  obtain ⟨a1, len1, cap1, rfl⟩ := okWide_slice Try.underlying22 (hval 1 22 v1 rfl rfl)
  have k1 := h1
  have lt1 : ∀ x ∈ p1, x.block < W.heap.size := by obtain ⟨m, hm⟩ := k1; exact DataW.trod_lt m _ _ _ hm
  obtain ⟨z1, n1, s1⟩ : ∃ zs : List Int, zs.length = len1 ∧ Seg W 0 W.heap.size a1 zs := by
    obtain ⟨fuel, hf⟩ := h1
    rcases open_ints Try.underlying22 Try.underlying3 (by kernel_rfl) hf with ⟨hcs, _⟩ | ⟨x, l, c, zs, hcs, _, hl, hm, hz, _, hcell, hwz⟩
    · simp [Value.cells] at hcs
      obtain ⟨rfl, rfl, rfl⟩ := hcs
      exact ⟨[], rfl, .inl rfl⟩
    · simp [Value.cells] at hcs
      obtain ⟨rfl, rfl, rfl⟩ := hcs
      exact ⟨zs.take _, by rw [List.length_take, Nat.min_eq_left]; simp at hz; omega, seg_of hl (by simpa using hz) hcell⟩
  clear hA0 hval0
  refine (walk (w := W) b0 n1 s1).mono fun e W' ⟨he, bel⟩ => ?_
  subst he
  exact ⟨_, rfl, _, _, _, [], _, [], hW', trodAll_mk1 (shut_bool Try.underlying4 _), (trodAll_cons_mk (shut_int Try.underlying3 w0) (trodAll_cons_mk (Below.trod laidOut (by kernel_rfl) (of_decide_eq_true (by kernel_rfl)) k1 bel lt1) trodAll_mk0)), rfl, bel.frame _, fun h => by cases h⟩

theorem over : Rows.fnExactFullPatternsRow.holds Try.pinned (OpenSpec.ofChange Rows.fnExactFullPatternsSpec) :=
  OpenClaim.holds_of_wide 5 Try.f5 rfl rfl rfl rfl rfl rfl rfl ⟨rfl, rfl, rfl, rfl, rfl⟩ rfl rfl rfl rfl rfl (by kernel_rfl) Try.func5 (by kernel_rfl)
    (of_decide_eq_true (by kernel_rfl)) (by unfold Func.isWrapper; first | (rw [if_pos (by decide +kernel)]; kernel_rfl) | (rw [if_neg (by decide +kernel)]; exact ⟨rfl, rfl⟩))
    (fun os started H enc _ => lifted os started H enc)

theorem proved : Rows.FnExactFullPatternsSaid := over
#print axioms proved
end LawFullPatterns
end Go.Proofs.Ytoheoojpmndhoab

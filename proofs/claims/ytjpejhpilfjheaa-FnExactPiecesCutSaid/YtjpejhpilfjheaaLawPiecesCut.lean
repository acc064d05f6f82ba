/-
  For every two numbers, list of pieces and bool the law of PiecesCut returns true and leaves the list as it was.
  Conditions: none.
-/
import Derived.Test.YtjpejhpilfjheaaBdN3
import Derived.Test.YtjpejhpilfjheaaEq
import Derived.OpenShut
import Derived.ShutString
import Derived.ChangeOld
namespace Go.Proofs.Ytjpejhpilfjheaa
namespace LawPiecesCut
open Go.ChangeShapes Go.WideShapes Go.ChangeAt Go.RowKit
open Go.ChangeMaps (open_string shut_string)
set_option linter.unusedVariables false

theorem own : ownKnob Try.prog.godebug = none := by kernel_rfl
theorem laidOut : laidOutB Try.prog = true := by kernel_rfl

set_option maxHeartbeats 1000000 in
theorem walk {a0 : Int} {a1 : Int} {a2 : Option Addr} {len2 cap2 : Nat} {z2 : List (Int × Int × Int)} {a3 : Bool} {w : World} (hi0 : -9223372036854775808 ≤ a0 ∧ a0 ≤ 9223372036854775807) (hi1 : -9223372036854775808 ≤ a1 ∧ a1 ≤ 9223372036854775807) (hm2 : len2 ≤ 9223372036854775807) (hn2 : z2.length = len2) (hs2 : Seg w 0 w.heap.size a2 (flat3 z2)) :
    Calls Try.prog 4 #[.int .i64 a0, .int .i64 a1, .slice a2 len2 cap2, .bool a3] w fun e w' => e = .returned (.bool true) ∧ Below w.heap.size w w' := by
  by_cases hbig2 : 1048576 < len2
  · clear hs2 hn2
    go_enter Try.func4, Try.ntmps4
    go_wp2_with fail
    refine (szPieceS_big _ _ _ _ hbig2 hm2).mono ?_
    rintro e w0 ⟨rfl, rfl⟩
    go_wp2
    go_ret
    exact ⟨rfl, Below.refl _ _⟩
  have hlen2 : len2 ≤ 1048576 := by omega
  have HN2 := Lib.hid hn2
  obtain ⟨q, hq⟩ : ∃ q, askP a0 a1 z2 = q := ⟨_, rfl⟩
  have HQ := Lib.hid hq
  clear hq
  cases q
  case' false => have HYB := Lib.hid (someN_no (cutT z2 a3 a0 a1))
  case' true => have HYB := Lib.hid (someN_yes (ys := cutT z2 a3 a0 a1) (by exact cutT_small HQ.out))
  clear hn2
  all_goals
    go_enter Try.func4, Try.ntmps4
    go_wp2_with fail
    refine (szPieceS_any _ _ _ _ hlen2).mono ?_
    rintro e w0 ⟨rfl, rfl⟩
    go_wp2_with fail
    refine (toPieceS_any _ _ _ z2 w.heap.size _ HN2.out hlen2 hs2 (by omega)).mono ?_
    rintro e w1 ⟨rfl, ca2, hb1⟩
    have hz1 := hb1.size
    have hB1 : Below w.heap.size w w1 := Below.trans (Below.refl _ _) (hb1.mono (by omega))
    have hs2_1 := hs2.below hb1 (by omega)
    clear hs2
    go_wp2_with fail
    refine (spec_PiecesCut a0 a1 _ _ _ z2 _ _ a3 _ HN2.out hlen2 ca2.seg (by omega) _ HQ.out).mono ?_
    rintro e w2 ⟨WA0, Wn0, Wc0, rfl, Wl0, Wo0, hb2⟩
    have hz2 := hb2.size
    have hB2 : Below w.heap.size w w2 := Below.trans hB1 (hb2.mono (by omega))
    have hs2_2 := hs2_1.below hb2 (by omega)
    clear hs2_1
    have ca2_2 := ca2.below hb2 (by omega)
    clear ca2
    go_wp2_with fail
    refine (toPieceS_any _ _ _ z2 w.heap.size _ HN2.out hlen2 hs2_2 (by omega)).mono ?_
    rintro e w3 ⟨rfl, X2, hb3⟩
    have hz3 := hb3.size
    have hB3 : Below w.heap.size w w3 := Below.trans hB2 (hb3.mono (by omega))
    have hs2_3 := hs2_2.below hb3 (by omega)
    clear hs2_2
    have Wo0_3 := Wo0.below hb3 (by omega)
    clear Wo0
    go_wp2_with fail
    refine (impl_PiecesCut a0 a1 _ _ _ z2 _ _ a3 _ HN2.out hlen2 X2.seg (by omega) _ HQ.out).mono ?_
    rintro e w4 ⟨GA0, Gn0, Gc0, rfl, Gl0, Go0, hb4⟩
    have hz4 := hb4.size
    have hB4 : Below w.heap.size w w4 := Below.trans hB3 (hb4.mono (by omega))
    have hs2_4 := hs2_3.below hb4 (by omega)
    clear hs2_3
    have Wo0_4 := Wo0_3.below hb4 (by omega)
    clear Wo0_3
    have X2_4 := X2.below hb4 (by omega)
    clear X2
    obtain rfl : Gn0 = Wn0 := Gl0.symm.trans Wl0
    have HY0 := Lib.hid Gl0
    have hy0 := HYB.out
    rw [Gl0] at hy0
    clear Wl0 Gl0
    go_wp2_with fail
    refine (eqIntS_b _ _ _ _ _ _ _ _ _ _ _ HY0.out (by omega) Go0.seg Wo0_4.seg).mono ?_
    rintro e w5 ⟨rfl, hb5⟩
    have hz5 := hb5.size
    have hB5 : Below w.heap.size w w5 := Below.trans hB4 (hb5.mono (by omega))
    have hs2_5 := hs2_4.below hb5 (by omega)
    clear hs2_4
    have Wo0_5 := Wo0_4.below hb5 (by omega)
    clear Wo0_4
    have X2_5 := X2_4.below hb5 (by omega)
    clear X2_4
    have Go0_5 := Go0.below hb5 (by omega)
    clear Go0
    go_wp2_with fail
    refine (toPieceS_any _ _ _ z2 w.heap.size _ HN2.out hlen2 hs2_5 (by omega)).mono ?_
    rintro e w6 ⟨rfl, cb2, hb6⟩
    have hz6 := hb6.size
    have hB6 : Below w.heap.size w w6 := Below.trans hB5 (hb6.mono (by omega))
    have hs2_6 := hs2_5.below hb6 (by omega)
    clear hs2_5
    have Wo0_6 := Wo0_5.below hb6 (by omega)
    clear Wo0_5
    have X2_6 := X2_5.below hb6 (by omega)
    clear X2_5
    have Go0_6 := Go0_5.below hb6 (by omega)
    clear Go0_5
    go_wp2_with fail
    refine (eqPieceS_b _ _ _ _ _ z2 _ _ _ _ _ HN2.out hlen2 X2_6.seg cb2.seg (by omega) (by omega)).mono ?_
    rintro e w7 ⟨rfl, hb7⟩
    have hz7 := hb7.size
    have hB7 : Below w.heap.size w w7 := Below.trans hB6 (hb7.mono (by omega))
    have hs2_7 := hs2_6.below hb7 (by omega)
    clear hs2_6
    have Wo0_7 := Wo0_6.below hb7 (by omega)
    clear Wo0_6
    have X2_7 := X2_6.below hb7 (by omega)
    clear X2_6
    have Go0_7 := Go0_6.below hb7 (by omega)
    clear Go0_6
    have cb2_7 := cb2.below hb7 (by omega)
    clear cb2
    go_wp2_with fail
    refine (markPieceS_any _ _ _ _ z2 _ _ _ HN2.out hlen2 (by omega) (by omega) X2_7).mono ?_
    rintro e w8 ⟨rfl, X2_8, row8, hg8, hr8⟩
    have hz8 := hg8.size
    have hB8 : Below w.heap.size w w8 := Below.grown hB7 hg8 (by omega) (fun g hg => by have := hr8 g hg; omega)
    have hs2_8 := hs2_7.grown hg8 (by omega) (fun g hg => by have := hr8 g hg; omega)
    clear hs2_7
    have Wo0_8 := Wo0_7.grown hg8 (by omega) (fun g hg => by have := hr8 g hg; omega)
    clear Wo0_7
    have Go0_8 := Go0_7.grown hg8 (by omega) (fun g hg => by have := hr8 g hg; omega)
    clear Go0_7
    go_wp2_with fail
    refine (eqIntS_b _ _ _ _ _ _ _ _ _ _ _ HY0.out (by omega) Go0_8.seg Wo0_8.seg).mono ?_
    rintro e w9 ⟨rfl, hb9⟩
    have hz9 := hb9.size
    have hB9 : Below w.heap.size w w9 := Below.trans hB8 (hb9.mono (by omega))
    have hs2_9 := hs2_8.below hb9 (by omega)
    clear hs2_8
    have Wo0_9 := Wo0_8.below hb9 (by omega)
    clear Wo0_8
    have Go0_9 := Go0_8.below hb9 (by omega)
    clear Go0_8
    go_wp2_with fail
    refine (markIntS_any _ _ _ _ _ _ _ _ HY0.out (by omega) (by omega) (by omega) Go0_9).mono ?_
    rintro e w10 ⟨rfl, Go0_10, row10, hg10, hr10⟩
    have hz10 := hg10.size
    have hB10 : Below w.heap.size w w10 := Below.grown hB9 hg10 (by omega) (fun g hg => by have := hr10 g hg; omega)
    have hs2_10 := hs2_9.grown hg10 (by omega) (fun g hg => by have := hr10 g hg; omega)
    clear hs2_9
    have Wo0_10 := Wo0_9.grown hg10 (by omega) (fun g hg => by have := hr10 g hg; omega)
    clear Wo0_9
    go_wp2_with fail
    refine (heldIntS_any _ _ _ _ _ _ _ (by omega) (by omega) (by omega) Go0_10.seg).mono ?_
    rintro e w110 ⟨rfl, rfl⟩
    go_wp2_with fail
    refine (toPieceS_any _ _ _ z2 w.heap.size _ HN2.out hlen2 hs2_10 (by omega)).mono ?_
    rintro e w11 ⟨rfl, cc2, hb11⟩
    have hz11 := hb11.size
    have hB11 : Below w.heap.size w w11 := Below.trans hB10 (hb11.mono (by omega))
    have hs2_11 := hs2_10.below hb11 (by omega)
    clear hs2_10
    have Wo0_11 := Wo0_10.below hb11 (by omega)
    clear Wo0_10
    have Go0_11 := Go0_10.below hb11 (by omega)
    clear Go0_10
    go_wp2_with fail
    refine (impl_PiecesCut a0 a1 _ _ _ z2 _ _ a3 _ HN2.out hlen2 cc2.seg (by omega) _ HQ.out).mono ?_
    rintro e w12 ⟨HA0, Hn0, Hc0, rfl, Hl0, Ho0, hb12⟩
    have hz12 := hb12.size
    have hB12 : Below w.heap.size w w12 := Below.trans hB11 (hb12.mono (by omega))
    have hs2_12 := hs2_11.below hb12 (by omega)
    clear hs2_11
    have Wo0_12 := Wo0_11.below hb12 (by omega)
    clear Wo0_11
    have Go0_12 := Go0_11.below hb12 (by omega)
    clear Go0_11
    have cc2_12 := cc2.below hb12 (by omega)
    clear cc2
    obtain rfl : Hn0 = Gn0 := Hl0.symm.trans HY0.out
    clear Hl0
    go_wp2_with fail
    refine (eqIntS_b _ _ _ _ _ _ _ _ _ _ _ HY0.out (by omega) Ho0.seg Wo0_12.seg).mono ?_
    rintro e w13 ⟨rfl, hb13⟩
    have hz13 := hb13.size
    have hB13 : Below w.heap.size w w13 := Below.trans hB12 (hb13.mono (by omega))
    have hs2_13 := hs2_12.below hb13 (by omega)
    clear hs2_12
    have Wo0_13 := Wo0_12.below hb13 (by omega)
    clear Wo0_12
    have Go0_13 := Go0_12.below hb13 (by omega)
    clear Go0_12
    have Ho0_13 := Ho0.below hb13 (by omega)
    clear Ho0
    go_wp2_with fail
    refine (heldIntS_any _ _ _ _ _ _ _ (by omega) (by omega) (by omega) Go0_13.seg).mono ?_
    rintro e w113 ⟨rfl, rfl⟩
    go_wp2
    go_ret
    exact ⟨rfl, hB13⟩

set_option maxRecDepth 100000 in
theorem lifted (os : Os) (started : os.Started) (H : Type) (enc : TypeId × Value → H) :
    ReturnsInHanded {} Try.checked os 4 .any (Rows.fnExactPiecesCutSpec.pre6 enc Try.prog Try.f4 Rows.fnExactPiecesCutRow.domain false) (Rows.fnExactPiecesCutSpec.post enc Try.prog Try.f4 false true false false) := by
  refine returnsInHanded_of_change (C := Try.checked) own started (by kernel_rfl) Try.func4
    (ChangeSpec.witness6 (enc := enc) (C := Try.checked) false ⟨#[], #[.int .i64 0, .int .i64 0, .slice none 0 0, .bool false], []⟩ 8 (by kernel_rfl) (by kernel_rfl) (by kernel_rfl) (by kernel_rfl)) ?_
  intro W base args ds gs before hval0 hW hcnd _
  have hval : ∀ (j : Nat) t v, Try.f4.params[j]? = some t → args[j]? = some v → Value.okWide Try.prog W .any base t v := hval0
  have hW' := hW
  obtain ⟨p, q, hA0, hV, rfl, hfz, hnd⟩ := hW
  have hA : DataW.TrodAll enc Try.prog W 0 (fun _ => true) true Try.f4.params.toList args.toList ds p := hA0
  rw [Try.params4] at hA hval
  obtain ⟨v0, vs0, d0, ds0, p0, q0, hargs, rfl, rfl, h0, r0⟩ := trodAll_cons hA
  obtain ⟨v1, vs1, d1, ds1, p1, q1, rfl, rfl, rfl, h1, r1⟩ := trodAll_cons r0
  obtain ⟨v2, vs2, d2, ds2, p2, q2, rfl, rfl, rfl, h2, r2⟩ := trodAll_cons r1
  obtain ⟨v3, vs3, d3, ds3, p3, q3, rfl, rfl, rfl, h3, r3⟩ := trodAll_cons r2
  obtain ⟨rfl, rfl, rfl⟩ := trodAll_nil r3
  obtain rfl : args = #[v0, v1, v2, v3] := by cases args; simp_all
  obtain ⟨rfl, rfl⟩ := trodVars_none hV
  obtain ⟨a0, rfl, rfl, rfl, w0⟩ := open_int Try.underlying3 (hval 0 3 v0 rfl rfl) h0
  have b0 : -9223372036854775808 ≤ a0 ∧ a0 ≤ 9223372036854775807 := wf_bounds w0
  obtain ⟨a1, rfl, rfl, rfl, w1⟩ := open_int Try.underlying3 (hval 1 3 v1 rfl rfl) h1
  have b1 : -9223372036854775808 ≤ a1 ∧ a1 ≤ 9223372036854775807 := wf_bounds w1
  obtain ⟨a2, len2, cap2, rfl⟩ := okWide_slice Try.underlying29 (hval 2 29 v2 rfl rfl)
  have k2 := h2
  have lt2 : ∀ x ∈ p2, x.block < W.heap.size := by obtain ⟨m, hm⟩ := k2; exact DataW.trod_lt m _ _ _ hm
  obtain ⟨m2, z2, n2, s2⟩ : len2 ≤ 9223372036854775807 ∧ ∃ zs : List (Int × Int × Int), zs.length = len2 ∧ Seg W 0 W.heap.size a2 (flat3 zs) := by
    obtain ⟨fuel, hf⟩ := h2
    exact open_pieces hf
  obtain ⟨a3, rfl, rfl, rfl⟩ := open_bool Try.underlying4 (hval 3 4 v3 rfl rfl) h3
  clear hA0 hval0
  refine (walk (w := W) b0 b1 m2 n2 s2).mono fun e W' ⟨he, bel⟩ => ?_
  subst he
  exact ⟨_, rfl, _, _, _, [], _, [], hW', trodAll_mk1 (shut_bool Try.underlying4 _), (trodAll_cons_mk (shut_int Try.underlying3 w0) (trodAll_cons_mk (shut_int Try.underlying3 w1) (trodAll_cons_mk (Below.trod laidOut (by kernel_rfl) (of_decide_eq_true (by kernel_rfl)) k2 bel lt2) (trodAll_cons_mk (shut_bool Try.underlying4 _) trodAll_mk0)))), rfl, bel.frame _, fun h => by cases h⟩

theorem over : Rows.fnExactPiecesCutRow.holds Try.pinned (OpenSpec.ofChange Rows.fnExactPiecesCutSpec) :=
  OpenClaim.holds_of_wide 4 Try.f4 rfl rfl rfl rfl rfl rfl rfl ⟨rfl, rfl, rfl, rfl, rfl⟩ rfl rfl rfl rfl rfl (by kernel_rfl) Try.func4 (by kernel_rfl)
    (of_decide_eq_true (by kernel_rfl)) (by unfold Func.isWrapper; first | (rw [if_pos (by decide +kernel)]; kernel_rfl) | (rw [if_neg (by decide +kernel)]; exact ⟨rfl, rfl⟩))
    (fun os started H enc _ => lifted os started H enc)

theorem proved : Rows.FnExactPiecesCutSaid := over
#print axioms proved
end LawPiecesCut
end Go.Proofs.Ytjpejhpilfjheaa

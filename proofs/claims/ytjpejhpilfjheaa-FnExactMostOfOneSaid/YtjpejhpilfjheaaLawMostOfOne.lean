/-
  For every two numbers, piece and bool the law of MostOfOne returns true.
  Conditions: none.
-/
import Derived.Test.YtjpejhpilfjheaaBdMo
import Derived.Lib.SmallJoins
import Derived.OpenShut
import Derived.ShutString
import Derived.ChangeOld
namespace Go.Proofs.Ytjpejhpilfjheaa
namespace LawMostOfOne
open Go.ChangeShapes Go.WideShapes Go.ChangeAt Go.RowKit
open Go.ChangeMaps (open_string shut_string)
open Go.Joins (open_agg3 shut_agg3 field_of_Trod)
set_option linter.unusedVariables false

theorem own : ownKnob Try.prog.godebug = none := by kernel_rfl
theorem laidOut : laidOutB Try.prog = true := by kernel_rfl

set_option maxHeartbeats 1000000 in
theorem walk {a0 : Int} {a1 : Int} {x2 y2 z2 : Int} {a3 : Bool} {w : World} (hi0 : -9223372036854775808 ≤ a0 ∧ a0 ≤ 9223372036854775807) (hi1 : -9223372036854775808 ≤ a1 ∧ a1 ≤ 9223372036854775807) :
    Calls Try.prog 3 #[.int .i64 a0, .int .i64 a1, .agg #[.int .i64 x2, .int .i64 y2, .int .i64 z2], .bool a3] w fun e w' => e = .returned (.bool true) ∧ Below w.heap.size w w' := by
  obtain ⟨q, hq⟩ : ∃ q, askP a0 a1 [(x2, y2, z2)] = q := ⟨_, rfl⟩
  have HQ := Lib.hid hq
  clear hq
  obtain ⟨v, hv⟩ : ∃ v, oneN (x2, y2, z2) a3 a0 a1 = v := ⟨_, rfl⟩
  have HV := Lib.hid hv
  clear hv
  cases q
  all_goals
    go_enter Try.func3, Try.ntmps3
    have hb0 : Below w.heap.size w (w.alloc (.cells #[.int .i64 x2, .int .i64 y2, .int .i64 z2] 23)) := (Below.refl _ _).alloc (Nat.le_refl _) _
    have hz0 := hb0.size
    have hc0 := PcAt.of (new_at w (.cells #[.int .i64 x2, .int .i64 y2, .int .i64 z2] 23) rfl)
    obtain ⟨W0, hW0⟩ : ∃ W0, w.alloc (.cells #[.int .i64 x2, .int .i64 y2, .int .i64 z2] 23) = W0 := ⟨_, rfl⟩
    rw [hW0] at hb0 hz0 hc0
    have HW0 := Lib.hid hW0
    clear hW0
    go_wp2_with fail
    rw [HW0.out]
    refine (toPc_any _ _ _ W0).mono ?_
    rintro e w1 ⟨rfl, hb1⟩
    have hz1 := hb1.size
    have hB1 : Below w.heap.size w w1 := Below.trans hb0 (hb1.mono (by omega))
    have hc0_1 := hc0.below hb1
    clear hc0
    go_wp2_with fail
    refine (spec_MostOfOne a0 a1 _ _ _ a3 _ _ HQ.out _ HV.out).mono ?_
    rintro e w2 ⟨rfl, hb2⟩
    have hz2 := hb2.size
    have hB2 : Below w.heap.size w w2 := Below.trans hB1 (hb2.mono (by omega))
    have hc0_2 := hc0_1.below hb2
    clear hc0_1
    obtain ⟨c0, c1, c2⟩ := id hc0_2
    go_wp2_with fail
    refine (toPc_any _ _ _ _).mono ?_
    rintro e w3 ⟨rfl, hb3⟩
    clear c0 c1 c2
    have hz3 := hb3.size
    have hB3 : Below w.heap.size w w3 := Below.trans hB2 (hb3.mono (by omega))
    have hc0_3 := hc0_2.below hb3
    clear hc0_2
    go_wp2_with fail
    refine (impl_MostOfOne a0 a1 _ _ _ a3 _ _ HQ.out _ HV.out).mono ?_
    rintro e w4 ⟨rfl, hb4⟩
    have hz4 := hb4.size
    have hB4 : Below w.heap.size w w4 := Below.trans hB3 (hb4.mono (by omega))
    have hc0_4 := hc0_3.below hb4
    clear hc0_3
    go_wp2
    go_ret
    exact ⟨rfl, hB4⟩

set_option maxRecDepth 100000 in
theorem lifted (os : Os) (started : os.Started) (H : Type) (enc : TypeId × Value → H) :
    ReturnsInHanded {} Try.checked os 3 .any (Rows.fnExactMostOfOneSpec.pre6 enc Try.prog Try.f3 Rows.fnExactMostOfOneRow.domain false) (Rows.fnExactMostOfOneSpec.post enc Try.prog Try.f3 false true false false) := by
  refine returnsInHanded_of_change (C := Try.checked) own started (by kernel_rfl) Try.func3
    (ChangeSpec.witness6 (enc := enc) (C := Try.checked) false ⟨#[], #[.int .i64 0, .int .i64 0, .agg #[.int .i64 0, .int .i64 0, .int .i64 0], .bool false], []⟩ 8 (by kernel_rfl) (by kernel_rfl) (by kernel_rfl) (by kernel_rfl)) ?_
  intro W base args ds gs before hval0 hW hcnd _
  have hval : ∀ (j : Nat) t v, Try.f3.params[j]? = some t → args[j]? = some v → Value.okWide Try.prog W .any base t v := hval0
  have hW' := hW
  obtain ⟨p, q, hA0, hV, rfl, hfz, hnd⟩ := hW
  have hA : DataW.TrodAll enc Try.prog W 0 (fun _ => true) true Try.f3.params.toList args.toList ds p := hA0
  rw [Try.params3] at hA hval
  obtain ⟨v0, vs0, d0, ds0, p0, q0, hargs, rfl, rfl, h0, r0⟩ := trodAll_cons hA
  obtain ⟨v1, vs1, d1, ds1, p1, q1, rfl, rfl, rfl, h1, r1⟩ := trodAll_cons r0
  obtain ⟨v2, vs2, d2, ds2, p2, q2, rfl, rfl, rfl, h2, r2⟩ := trodAll_cons r1
  obtain ⟨v3, vs3, d3, ds3, p3, q3, rfl, rfl, rfl, h3, r3⟩ := trodAll_cons r2
  obtain ⟨rfl, rfl, rfl⟩ := trodAll_nil r3
  obtain rfl : args = #[v0, v1, v2, v3] := by cases args; simp_all
  obtain ⟨rfl, rfl⟩ := trodVars_none hV
  obtain ⟨a0, rfl, rfl, rfl, w0⟩ := open_int Try.underlying3 (hval 0 3 v0 rfl rfl) h0
  have b0 : -9223372036854775808 ≤ a0 ∧ a0 ≤ 9223372036854775807 := wf_bounds w0
  obtain ⟨a1, rfl, rfl, rfl, w1⟩ := open_int Try.underlying3 (hval 1 3 v1 rfl rfl) h1
  have b1 : -9223372036854775808 ≤ a1 ∧ a1 ≤ 9223372036854775807 := wf_bounds w1
  obtain ⟨u2, u2b, u2c, t2, t2b, t2c, m2, rfl, rfl, rfl, f2, f2b, f2c⟩ := open_agg3 Try.underlying23 (by kernel_rfl) (by kernel_rfl) (hval 2 23 v2 rfl rfl) h2
  obtain ⟨a2, e2, rfl, w2⟩ := DataW.trod_int Try.underlying3 f2
  injection e2 with e2
  subst e2
  obtain ⟨a2b, e2b, rfl, w2b⟩ := DataW.trod_int Try.underlying3 f2b
  injection e2b with e2b
  subst e2b
  obtain ⟨a2c, e2c, rfl, w2c⟩ := DataW.trod_int Try.underlying3 f2c
  injection e2c with e2c
  subst e2c
  obtain ⟨a3, rfl, rfl, rfl⟩ := open_bool Try.underlying4 (hval 3 4 v3 rfl rfl) h3
  clear hA0 hval0
  refine (walk (w := W) b0 b1).mono fun e W' ⟨he, bel⟩ => ?_
  subst he
  exact ⟨_, rfl, _, _, _, [], _, [], hW', trodAll_mk1 (shut_bool Try.underlying4 _), (trodAll_cons_mk (shut_int Try.underlying3 w0) (trodAll_cons_mk (shut_int Try.underlying3 w1) (trodAll_cons_mk (shut_agg3 Try.underlying23 (by kernel_rfl) (by kernel_rfl) (field_of_Trod (shut_int Try.underlying3 w2) rfl) (field_of_Trod (shut_int Try.underlying3 w2b) rfl) (field_of_Trod (shut_int Try.underlying3 w2c) rfl)) (trodAll_cons_mk (shut_bool Try.underlying4 _) trodAll_mk0)))), rfl, bel.frame _, fun h => by cases h⟩

theorem over : Rows.fnExactMostOfOneRow.holds Try.pinned (OpenSpec.ofChange Rows.fnExactMostOfOneSpec) :=
  OpenClaim.holds_of_wide 3 Try.f3 rfl rfl rfl rfl rfl rfl rfl ⟨rfl, rfl, rfl, rfl, rfl⟩ rfl rfl rfl rfl rfl (by kernel_rfl) Try.func3 (by kernel_rfl)
    (of_decide_eq_true (by kernel_rfl)) (by unfold Func.isWrapper; first | (rw [if_pos (by decide +kernel)]; kernel_rfl) | (rw [if_neg (by decide +kernel)]; exact ⟨rfl, rfl⟩))
    (fun os started H enc _ => lifted os started H enc)

theorem proved : Rows.FnExactMostOfOneSaid := over
#print axioms proved
end LawMostOfOne
end Go.Proofs.Ytjpejhpilfjheaa

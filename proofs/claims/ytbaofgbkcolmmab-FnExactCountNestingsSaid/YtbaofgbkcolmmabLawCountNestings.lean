/-
  For every list of boxes the law of CountNestings returns true and leaves the list as it was.
  Conditions: none.
-/
import Derived.Test.YtbaofgbkcolmmabNesI
import Derived.Test.YtbaofgbkcolmmabNesP
import Derived.Test.YtbaofgbkcolmmabCopy
import Derived.Test.YtbaofgbkcolmmabEq
import Derived.OpenShut
import Derived.ShutString
import Derived.ChangeOld
namespace Go.Proofs.Ytbaofgbkcolmmab
namespace LawCountNestings
open Go.ChangeShapes Go.WideShapes Go.ChangeAt Go.RowKit
open Go.ChangeMaps (open_string shut_string)
set_option linter.unusedVariables false

theorem own : ownKnob Try.prog.godebug = none := by kernel_rfl
theorem laidOut : laidOutB Try.prog = true := by kernel_rfl

set_option maxHeartbeats 1000000 in
theorem walk {a0 : Option Addr} {len0 cap0 : Nat} {z0 : List (Int × Int × Int)} {w : World} (hm0 : len0 ≤ 9223372036854775807) (hn0 : z0.length = len0) (hs0 : Seg w 0 w.heap.size a0 (flat3 z0)) :
    Calls Try.prog 5 #[.slice a0 len0 cap0] w fun e w' => e = .returned (.bool true) ∧ Below w.heap.size w w' := by
  by_cases hbig0 : 1048576 < len0
  · clear hs0 hn0
    go_enter Try.func5, Try.ntmps5
    go_wp2_with fail
    refine (szBoxS_big _ _ _ _ hbig0 hm0).mono ?_
    rintro e w0 ⟨rfl, rfl⟩
    go_wp2
    go_ret
    exact ⟨rfl, Below.refl _ _⟩
  have hlen0 : len0 ≤ 1048576 := by omega
  have HN0 := Lib.hid hn0
  obtain ⟨q, hq⟩ : ∃ q, goodN z0 = q := ⟨_, rfl⟩
  have HQ := Lib.hid hq
  clear hq
  cases q
  clear hn0
  all_goals
    go_enter Try.func5, Try.ntmps5
    go_wp2_with fail
    refine (szBoxS_any _ _ _ _ hlen0).mono ?_
    rintro e w0 ⟨rfl, rfl⟩
    go_wp2_with fail
    refine (toBoxS_any _ _ _ z0 w.heap.size _ HN0.out hlen0 hs0 (by omega)).mono ?_
    rintro e w1 ⟨rfl, ca0, hb1⟩
    have hz1 := hb1.size
    have hB1 : Below w.heap.size w w1 := Below.trans (Below.refl _ _) (hb1.mono (by omega))
    have hs0_1 := hs0.below hb1 (by omega)
    clear hs0
    go_wp2_with fail
    refine (spec_CountNestings _ _ _ z0 _ _ _ HN0.out hlen0 ca0.seg (by omega) _ HQ.out).mono ?_
    rintro e w2 ⟨rfl, hb2⟩
    have hz2 := hb2.size
    have hB2 : Below w.heap.size w w2 := Below.trans hB1 (hb2.mono (by omega))
    have hs0_2 := hs0_1.below hb2 (by omega)
    clear hs0_1
    have ca0_2 := ca0.below hb2 (by omega)
    clear ca0
    go_wp2_with fail
    refine (toBoxS_any _ _ _ z0 w.heap.size _ HN0.out hlen0 hs0_2 (by omega)).mono ?_
    rintro e w3 ⟨rfl, X0, hb3⟩
    have hz3 := hb3.size
    have hB3 : Below w.heap.size w w3 := Below.trans hB2 (hb3.mono (by omega))
    have hs0_3 := hs0_2.below hb3 (by omega)
    clear hs0_2
    go_wp2_with fail
    refine (impl_CountNestings _ _ _ z0 _ _ _ HN0.out hlen0 X0.seg (by omega) _ HQ.out).mono ?_
    rintro e w4 ⟨rfl, hb4⟩
    have hz4 := hb4.size
    have hB4 : Below w.heap.size w w4 := Below.trans hB3 (hb4.mono (by omega))
    have hs0_4 := hs0_3.below hb4 (by omega)
    clear hs0_3
    have X0_4 := X0.below hb4 (by omega)
    clear X0
    go_wp2_with fail
    refine (toBoxS_any _ _ _ z0 w.heap.size _ HN0.out hlen0 hs0_4 (by omega)).mono ?_
    rintro e w5 ⟨rfl, cb0, hb5⟩
    have hz5 := hb5.size
    have hB5 : Below w.heap.size w w5 := Below.trans hB4 (hb5.mono (by omega))
    have hs0_5 := hs0_4.below hb5 (by omega)
    clear hs0_4
    have X0_5 := X0_4.below hb5 (by omega)
    clear X0_4
    go_wp2_with fail
    refine (eqBoxS_b _ _ _ _ _ z0 _ _ _ _ _ HN0.out hlen0 X0_5.seg cb0.seg (by omega) (by omega)).mono ?_
    rintro e w6 ⟨rfl, hb6⟩
    have hz6 := hb6.size
    have hB6 : Below w.heap.size w w6 := Below.trans hB5 (hb6.mono (by omega))
    have hs0_6 := hs0_5.below hb6 (by omega)
    clear hs0_5
    have X0_6 := X0_5.below hb6 (by omega)
    clear X0_5
    have cb0_6 := cb0.below hb6 (by omega)
    clear cb0
    go_wp2
    go_ret
    exact ⟨rfl, hB6⟩

set_option maxRecDepth 100000 in
theorem lifted (os : Os) (started : os.Started) (H : Type) (enc : TypeId × Value → H) :
    ReturnsInHanded {} Try.checked os 5 .any (Rows.fnExactCountNestingsSpec.pre6 enc Try.prog Try.f5 Rows.fnExactCountNestingsRow.domain false) (Rows.fnExactCountNestingsSpec.post enc Try.prog Try.f5 false true false false) := by
  refine returnsInHanded_of_change (C := Try.checked) own started (by kernel_rfl) Try.func5
    (ChangeSpec.witness6 (enc := enc) (C := Try.checked) false ⟨#[], #[.slice none 0 0], []⟩ 8 (by kernel_rfl) (by kernel_rfl) (by kernel_rfl) (by kernel_rfl)) ?_
  intro W base args ds gs before hval0 hW hcnd _
  have hval : ∀ (j : Nat) t v, Try.f5.params[j]? = some t → args[j]? = some v → Value.okWide Try.prog W .any base t v := hval0
  have hW' := hW
  obtain ⟨p, q, hA0, hV, rfl, hfz, hnd⟩ := hW
  have hA : DataW.TrodAll enc Try.prog W 0 (fun _ => true) true Try.f5.params.toList args.toList ds p := hA0
  rw [Try.params5] at hA hval
  obtain ⟨v0, vs0, d0, ds0, p0, q0, hargs, rfl, rfl, h0, r0⟩ := trodAll_cons hA
  obtain ⟨rfl, rfl, rfl⟩ := trodAll_nil r0
  obtain rfl : args = #[v0] := by cases args; simp_all
  obtain ⟨rfl, rfl⟩ := trodVars_none hV
  obtain ⟨a0, len0, cap0, rfl⟩ := okWide_slice Try.underlying22 (hval 0 22 v0 rfl rfl)
  have k0 := h0
  have lt0 : ∀ x ∈ p0, x.block < W.heap.size := by obtain ⟨m, hm⟩ := k0; exact DataW.trod_lt m _ _ _ hm
  obtain ⟨m0, z0, n0, s0⟩ : len0 ≤ 9223372036854775807 ∧ ∃ zs : List (Int × Int × Int), zs.length = len0 ∧ Seg W 0 W.heap.size a0 (flat3 zs) := by
    obtain ⟨fuel, hf⟩ := h0
    exact open_boxes hf
  clear hA0 hval0
  refine (walk (w := W) m0 n0 s0).mono fun e W' ⟨he, bel⟩ => ?_
  subst he
  exact ⟨_, rfl, _, _, _, [], _, [], hW', trodAll_mk1 (shut_bool Try.underlying4 _), (trodAll_cons_mk (Below.trod laidOut (by kernel_rfl) (of_decide_eq_true (by kernel_rfl)) k0 bel lt0) trodAll_mk0), rfl, bel.frame _, fun h => by cases h⟩

theorem over : Rows.fnExactCountNestingsRow.holds Try.pinned (OpenSpec.ofChange Rows.fnExactCountNestingsSpec) :=
  OpenClaim.holds_of_wide 5 Try.f5 rfl rfl rfl rfl rfl rfl rfl ⟨rfl, rfl, rfl, rfl, rfl⟩ rfl rfl rfl rfl rfl (by kernel_rfl) Try.func5 (by kernel_rfl)
    (of_decide_eq_true (by kernel_rfl)) (by unfold Func.isWrapper; first | (rw [if_pos (by decide +kernel)]; kernel_rfl) | (rw [if_neg (by decide +kernel)]; exact ⟨rfl, rfl⟩))
    (fun os started H enc _ => lifted os started H enc)

theorem proved : Rows.FnExactCountNestingsSaid := over
#print axioms proved
end LawCountNestings
end Go.Proofs.Ytbaofgbkcolmmab

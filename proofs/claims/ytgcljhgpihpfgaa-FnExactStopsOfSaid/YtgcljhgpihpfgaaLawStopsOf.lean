/-
  For every text the law of StopsOf returns true.
  Conditions: none.
-/
import Derived.Test.YtgcljhgpihpfgaaLdN
import Derived.Test.YtgcljhgpihpfgaaEq
import Derived.OpenShut
import Derived.ShutString
import Derived.ChangeOld
namespace Go.Proofs.Ytgcljhgpihpfgaa
namespace LawStopsOf
open Go.ChangeShapes Go.WideShapes Go.ChangeAt Go.RowKit
open Go.ChangeMaps (open_string shut_string)
set_option linter.unusedVariables false

theorem own : ownKnob Try.prog.godebug = none := by kernel_rfl
theorem laidOut : laidOutB Try.prog = true := by kernel_rfl

set_option maxHeartbeats 1000000 in
theorem walk {a0 : ByteArray} {w : World}  :
    Calls Try.prog 8 #[.string a0] w fun e w' => e = .returned (.bool true) ∧ Below w.heap.size w w' := by
  by_cases hbig0 : 1048576 < a0.size
  · go_enter Try.func8, Try.ntmps8
    go_wp2
    go_ret
    exact ⟨rfl, Below.refl _ _⟩
  have hlen0 : a0.size ≤ 1048576 := by omega
  obtain ⟨q, hq⟩ : ∃ q, ldB a0.data.toList = q := ⟨_, rfl⟩
  have HQ := Lib.hid hq
  clear hq
  cases q
  case' false => have HYB := Lib.hid (someN_no (stopL a0.data.toList 9))
  case' true => have HYB := Lib.hid (someN_yes (ys := stopL a0.data.toList 9) (by have := stopL_len a0.data.toList 9; omega))
  all_goals
    go_enter Try.func8, Try.ntmps8
    go_wp2_with fail
    refine (spec_StopsOf a0 _ _ HQ.out).mono ?_
    rintro e w1 ⟨WA0, Wn0, Wc0, rfl, Wl0, Wo0, hb1⟩
    have hz1 := hb1.size
    have hB1 : Below w.heap.size w w1 := Below.trans (Below.refl _ _) (hb1.mono (by omega))
    go_wp2_with fail
    refine (impl_StopsOf a0 _ _ HQ.out).mono ?_
    rintro e w2 ⟨GA0, Gn0, Gc0, rfl, Gl0, Go0, hb2⟩
    have hz2 := hb2.size
    have hB2 : Below w.heap.size w w2 := Below.trans hB1 (hb2.mono (by omega))
    have Wo0_2 := Wo0.below hb2 (by omega)
    clear Wo0
    obtain rfl : Gn0 = Wn0 := Gl0.symm.trans Wl0
    have HY0 := Lib.hid Gl0
    have hy0 := HYB.out
    rw [Gl0] at hy0
    clear Wl0 Gl0
    go_wp2_with fail
    refine (eqIntS_b _ _ _ _ _ _ _ _ _ _ _ HY0.out (by omega) Go0.seg Wo0_2.seg).mono ?_
    rintro e w3 ⟨rfl, hb3⟩
    have hz3 := hb3.size
    have hB3 : Below w.heap.size w w3 := Below.trans hB2 (hb3.mono (by omega))
    have Wo0_3 := Wo0_2.below hb3 (by omega)
    clear Wo0_2
    have Go0_3 := Go0.below hb3 (by omega)
    clear Go0
    go_wp2_with fail
    refine (markIntS_any _ _ _ _ _ _ _ _ HY0.out (by omega) (by omega) (by omega) Go0_3).mono ?_
    rintro e w4 ⟨rfl, Go0_4, row4, hg4, hr4⟩
    have hz4 := hg4.size
    have hB4 : Below w.heap.size w w4 := Below.grown hB3 hg4 (by omega) (fun g hg => by have := hr4 g hg; omega)
    have Wo0_4 := Wo0_3.grown hg4 (by omega) (fun g hg => by have := hr4 g hg; omega)
    clear Wo0_3
    go_wp2_with fail
    refine (heldIntS_any _ _ _ _ _ _ _ (by omega) (by omega) (by omega) Go0_4.seg).mono ?_
    rintro e w104 ⟨rfl, rfl⟩
    go_wp2_with fail
    refine (impl_StopsOf a0 _ _ HQ.out).mono ?_
    rintro e w5 ⟨HA0, Hn0, Hc0, rfl, Hl0, Ho0, hb5⟩
    have hz5 := hb5.size
    have hB5 : Below w.heap.size w w5 := Below.trans hB4 (hb5.mono (by omega))
    have Wo0_5 := Wo0_4.below hb5 (by omega)
    clear Wo0_4
    have Go0_5 := Go0_4.below hb5 (by omega)
    clear Go0_4
    obtain rfl : Hn0 = Gn0 := Hl0.symm.trans HY0.out
    clear Hl0
    go_wp2_with fail
    refine (eqIntS_b _ _ _ _ _ _ _ _ _ _ _ HY0.out (by omega) Ho0.seg Wo0_5.seg).mono ?_
    rintro e w6 ⟨rfl, hb6⟩
    have hz6 := hb6.size
    have hB6 : Below w.heap.size w w6 := Below.trans hB5 (hb6.mono (by omega))
    have Wo0_6 := Wo0_5.below hb6 (by omega)
    clear Wo0_5
    have Go0_6 := Go0_5.below hb6 (by omega)
    clear Go0_5
    have Ho0_6 := Ho0.below hb6 (by omega)
    clear Ho0
    go_wp2_with fail
    refine (heldIntS_any _ _ _ _ _ _ _ (by omega) (by omega) (by omega) Go0_6.seg).mono ?_
    rintro e w106 ⟨rfl, rfl⟩
    go_wp2
    go_ret
    exact ⟨rfl, hB6⟩

set_option maxRecDepth 100000 in
theorem lifted (os : Os) (started : os.Started) (H : Type) (enc : TypeId × Value → H) :
    ReturnsInHanded {} Try.checked os 8 .any (Rows.fnExactStopsOfSpec.pre6 enc Try.prog Try.f8 Rows.fnExactStopsOfRow.domain false) (Rows.fnExactStopsOfSpec.post enc Try.prog Try.f8 false true false false) := by
  refine returnsInHanded_of_change (C := Try.checked) own started (by kernel_rfl) Try.func8
    (ChangeSpec.witness6 (enc := enc) (C := Try.checked) false ⟨#[], #[.string ByteArray.empty], []⟩ 8 (by kernel_rfl) (by kernel_rfl) (by kernel_rfl) (by kernel_rfl)) ?_
  intro W base args ds gs before hval0 hW hcnd _
  have hval : ∀ (j : Nat) t v, Try.f8.params[j]? = some t → args[j]? = some v → Value.okWide Try.prog W .any base t v := hval0
  have hW' := hW
  obtain ⟨p, q, hA0, hV, rfl, hfz, hnd⟩ := hW
  have hA : DataW.TrodAll enc Try.prog W 0 (fun _ => true) true Try.f8.params.toList args.toList ds p := hA0
  rw [Try.params8] at hA hval
  obtain ⟨v0, vs0, d0, ds0, p0, q0, hargs, rfl, rfl, h0, r0⟩ := trodAll_cons hA
  obtain ⟨rfl, rfl, rfl⟩ := trodAll_nil r0
  obtain rfl : args = #[v0] := by cases args; simp_all
  obtain ⟨rfl, rfl⟩ := trodVars_none hV
  obtain ⟨a0, rfl, rfl, rfl, w0⟩ := open_string Try.underlying9 (hval 0 9 v0 rfl rfl) h0
  clear hA0 hval0
  refine (walk (w := W)).mono fun e W' ⟨he, bel⟩ => ?_
  subst he
  exact ⟨_, rfl, _, _, _, [], _, [], hW', trodAll_mk1 (shut_bool Try.underlying4 _), (trodAll_cons_mk (shut_string Try.underlying9 w0) trodAll_mk0), rfl, bel.frame _, fun h => by cases h⟩

theorem over : Rows.fnExactStopsOfRow.holds Try.pinned (OpenSpec.ofChange Rows.fnExactStopsOfSpec) :=
  OpenClaim.holds_of_wide 8 Try.f8 rfl rfl rfl rfl rfl rfl rfl ⟨rfl, rfl, rfl, rfl, rfl⟩ rfl rfl rfl rfl rfl (by kernel_rfl) Try.func8 (by kernel_rfl)
    (of_decide_eq_true (by kernel_rfl)) (by unfold Func.isWrapper; first | (rw [if_pos (by decide +kernel)]; kernel_rfl) | (rw [if_neg (by decide +kernel)]; exact ⟨rfl, rfl⟩))
    (fun os started H enc _ => lifted os started H enc)

theorem proved : Rows.FnExactStopsOfSaid := over
#print axioms proved
end LawStopsOf
end Go.Proofs.Ytgcljhgpihpfgaa

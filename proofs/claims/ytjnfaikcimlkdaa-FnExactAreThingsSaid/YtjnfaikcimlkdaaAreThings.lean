/-
  For every list of numbers the law of AreThings returns true and leaves the list as it was.
  Conditions: none.
-/
import Derived.Test.YtjnfaikcimlkdaaGood
import Derived.OpenShut
import Derived.ShutString
import Derived.ChangeOld
namespace Go.Proofs.Ytjnfaikcimlkdaa
namespace AreThings
open Go.ChangeShapes Go.WideShapes Go.ChangeAt Go.RowKit
open Go.ChangeMaps (open_string shut_string)
set_option linter.unusedVariables false

theorem own : ownKnob Try.prog.godebug = none := by kernel_rfl
theorem laidOut : laidOutB Try.prog = true := by kernel_rfl

theorem walk {a0 : Option Addr} {len0 cap0 : Nat} {z0 : List Int} {w : World} (hn : z0.length = len0) (hs : Seg w 0 w.heap.size a0 z0) :
    Calls Try.prog 3 #[.slice a0 len0 cap0] w fun e w' => e = .returned (.bool true) ∧ Below w.heap.size w w' := by
  by_cases hbig : 1048576 < len0
  · clear hs hn
    go_enter Try.func3, Try.ntmps3
    go_wp2
    go_ret
    exact ⟨rfl, Below.refl _ _⟩
  · have hlen : len0 ≤ 1048576 := by omega
    obtain ⟨b, hb⟩ : ∃ b, goodB z0 = b := ⟨_, rfl⟩
    have HN := Lib.hid hn
    have HB := Lib.hid hb
    clear hb hn
    cases b
    all_goals
      go_enter Try.func3, Try.ntmps3
      go_wp2_with fail
      refine (toIntS_any _ _ _ z0 w.heap.size _ HN.out hlen hs (Nat.le_refl _)).mono ?_; rintro e w1 ⟨rfl, ho1, hb1⟩
      go_wp2_with fail
      refine (specAreThings_any _ _ _ z0 _ _ _ HN.out hlen ho1.seg _ HB.out).mono ?_; rintro e w1' ⟨rfl, rfl⟩
      go_wp2_with fail
      have hz1 := hb1.size
      have hs1 := hs.below hb1 (Nat.le_refl _)
      refine (toIntS_any _ _ _ z0 w.heap.size _ HN.out hlen hs1 hz1).mono ?_; rintro e w2 ⟨rfl, ho2, hb2⟩
      go_wp2_with fail
      refine (implAreThings_any _ _ _ z0 _ _ _ HN.out hlen ho2.seg _ HB.out).mono ?_; rintro e w2' ⟨rfl, rfl⟩
      go_wp2_with fail
      have hz2 := hb2.size
      have hs2 := hs1.below hb2 hz1
      refine (toIntS_any _ _ _ z0 w.heap.size _ HN.out hlen hs2 (Nat.le_trans hz1 hz2)).mono ?_; rintro e w3 ⟨rfl, ho3, hb3⟩
      go_wp2_with fail
      have ho23 := ho2.below hb3 (Nat.le_refl _)
      refine (eqIntS_same _ _ _ _ _ z0 _ _ _ _ _ HN.out hlen ho23.seg ho3.seg).mono ?_; rintro e w4 ⟨rfl, m, rfl⟩
      go_wp2
      go_ret
      exact ⟨rfl, below_drewN (hb1.trans ((hb2.mono hz1).trans (hb3.mono (Nat.le_trans hz1 hz2)))) _⟩

set_option maxRecDepth 100000 in
theorem lifted (os : Os) (started : os.Started) (H : Type) (enc : TypeId × Value → H) :
    ReturnsInHanded {} Try.checked os 3 .any (Rows.fnExactAreThingsSpec.pre6 enc Try.prog Try.f3 Rows.fnExactAreThingsRow.domain false) (Rows.fnExactAreThingsSpec.post enc Try.prog Try.f3 false true false false) := by
  refine returnsInHanded_of_change (C := Try.checked) own started (by kernel_rfl) Try.func3
    (ChangeSpec.witness6 (enc := enc) (C := Try.checked) false ⟨#[], #[.slice none 0 0], []⟩ 8 (by kernel_rfl) (by kernel_rfl) (by kernel_rfl) (by kernel_rfl)) ?_
  intro W base args ds gs before hval0 hW hcnd _
  have hval : ∀ (j : Nat) t v, Try.f3.params[j]? = some t → args[j]? = some v → Value.okWide Try.prog W .any base t v := hval0
  have hW' := hW
  obtain ⟨p, q, hA0, hV, rfl, hfz, hnd⟩ := hW
  have hA : DataW.TrodAll enc Try.prog W 0 (fun _ => true) true Try.f3.params.toList args.toList ds p := hA0
  rw [Try.params3] at hA hval
  obtain ⟨v0, vs0, d0, ds0, p0, q0, hargs, rfl, rfl, h0, r0⟩ := trodAll_cons hA
  obtain ⟨rfl, rfl, rfl⟩ := trodAll_nil r0
  obtain rfl : args = #[v0] := by cases args; simp_all
  obtain ⟨rfl, rfl⟩ := trodVars_none hV
  obtain ⟨a0, len0, cap0, rfl⟩ := okWide_slice Try.underlying22 (hval 0 22 v0 rfl rfl)
  have k0 := h0
  have lt0 : ∀ x ∈ p0, x.block < W.heap.size := by obtain ⟨m, hm⟩ := k0; exact DataW.trod_lt m _ _ _ hm
  obtain ⟨z0, n0, s0⟩ : ∃ zs : List Int, zs.length = len0 ∧ Seg W 0 W.heap.size a0 zs := by
    obtain ⟨fuel, hf⟩ := h0
    rcases open_ints Try.underlying22 Try.underlying3 (by kernel_rfl) hf with ⟨hcs, _⟩ | ⟨x, l, c, zs, hcs, _, hl, hm, hz, _, hcell, hwz⟩
    · simp [Value.cells] at hcs
      obtain ⟨rfl, rfl, rfl⟩ := hcs
      exact ⟨[], rfl, .inl rfl⟩
    · simp [Value.cells] at hcs
      obtain ⟨rfl, rfl, rfl⟩ := hcs
      exact ⟨zs.take _, by rw [List.length_take, Nat.min_eq_left]; simp at hz; omega, seg_of hl (by simpa using hz) hcell⟩
  clear hA0 hval0
  refine (walk (w := W) n0 s0).mono fun e W' ⟨he, bel⟩ => ?_
  subst he
  exact ⟨_, rfl, _, _, _, [], _, [], hW', trodAll_mk1 (shut_bool Try.underlying4 _), (trodAll_cons_mk (Below.trod laidOut (by kernel_rfl) (of_decide_eq_true (by kernel_rfl)) k0 bel lt0) trodAll_mk0), rfl, bel.frame _, fun h => by cases h⟩

theorem over : Rows.fnExactAreThingsRow.holds Try.pinned (OpenSpec.ofChange Rows.fnExactAreThingsSpec) :=
  OpenClaim.holds_of_wide 3 Try.f3 rfl rfl rfl rfl rfl rfl rfl ⟨rfl, rfl, rfl, rfl, rfl⟩ rfl rfl rfl rfl rfl (by kernel_rfl) Try.func3 (by kernel_rfl)
    (of_decide_eq_true (by kernel_rfl)) (by unfold Func.isWrapper; first | (rw [if_pos (by decide +kernel)]; kernel_rfl) | (rw [if_neg (by decide +kernel)]; exact ⟨rfl, rfl⟩))
    (fun os started H enc _ => lifted os started H enc)

theorem proved : Rows.FnExactAreThingsSaid := over
#print axioms proved
end AreThings
end Go.Proofs.Ytjnfaikcimlkdaa

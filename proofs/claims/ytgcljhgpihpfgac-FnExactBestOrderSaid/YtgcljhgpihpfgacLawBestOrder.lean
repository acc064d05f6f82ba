/-
  For every list and room the law of BestOrder returns true and leaves the list as it was.
  Conditions: none.
-/
import Derived.Test.YtgcljhgpihpfgacOrdZ
import Derived.Test.YtgcljhgpihpfgacEq
import Derived.Test.YtgcljhgpihpfgacCopy
import Derived.OpenShut
import Derived.ShutString
import Derived.ChangeOld
namespace Go.Proofs.Ytgcljhgpihpfgac
namespace LawBestOrder
open Go.ChangeShapes Go.WideShapes Go.ChangeAt Go.RowKit
open Go.ChangeMaps (open_string shut_string)
set_option linter.unusedVariables false

theorem own : ownKnob Try.prog.godebug = none := by kernel_rfl
theorem laidOut : laidOutB Try.prog = true := by kernel_rfl

set_option maxHeartbeats 1000000 in
theorem walk {a0 : Option Addr} {len0 cap0 : Nat} {z0 : List Int} {a1 : Int} {w : World} (hn0 : z0.length = len0) (hs0 : Seg w 0 w.heap.size a0 z0) (hi1 : -9223372036854775808 ≤ a1 ∧ a1 ≤ 9223372036854775807) :
    Calls Try.prog 4 #[.slice a0 len0 cap0, .int .i64 a1] w fun e w' => e = .returned (.bool true) ∧ Below w.heap.size w w' := by
  by_cases hbig0 : 1048576 < len0
  · clear hs0 hn0
    go_enter Try.func4, Try.ntmps4
    go_wp2
    go_ret
    exact ⟨rfl, Below.refl _ _⟩
  have hlen0 : len0 ≤ 1048576 := by omega
  have HN0 := Lib.hid hn0
  obtain ⟨q, hq⟩ : ∃ q, ordB z0 a1 = q := ⟨_, rfl⟩
  have HQ := Lib.hid hq
  clear hq
  obtain ⟨v, hv⟩ : ∃ v, (exBestOrder z0 a1).2 = v := ⟨_, rfl⟩
  have HV := Lib.hid hv
  clear hv
  have hyl : (exBestOrder z0 a1).1.length ≤ 1048576 := Nat.le_trans (ex_len _ _ _) (by rw [HN0.out]; exact hlen0)
  cases q
  case' false => have HYB := Lib.hid (someN_no (exBestOrder z0 a1).1)
  case' true => have HYB := Lib.hid (someN_yes hyl)
  all_goals clear hyl
  clear hn0
  all_goals
    go_enter Try.func4, Try.ntmps4
    go_wp2_with fail
    refine (toIntS_any _ _ _ z0 w.heap.size _ HN0.out hlen0 hs0 (by omega)).mono ?_
    rintro e w1 ⟨rfl, ca0, hb1⟩
    have hz1 := hb1.size
    have hB1 : Below w.heap.size w w1 := Below.trans (Below.refl _ _) (hb1.mono (by omega))
    have hs0_1 := hs0.below hb1 (by omega)
    clear hs0
    go_wp2_with fail
    refine ((spec_BestOrder _ _ _ z0 a1 _ _ _ HN0.out hlen0 (by omega) ca0.seg (by omega) _ HQ.out _ HV.out)).mono ?_
    rintro e w2 ⟨WA0, Wn0, Wc0, rfl, Wl0, Wo0, hb2⟩
    have hz2 := hb2.size
    have hB2 : Below w.heap.size w w2 := Below.trans hB1 (hb2.mono (by omega))
    have hs0_2 := hs0_1.below hb2 (by omega)
    clear hs0_1
    have ca0_2 := ca0.below hb2 (by omega)
    clear ca0
    go_wp2_with fail
    refine (toIntS_any _ _ _ z0 w.heap.size _ HN0.out hlen0 hs0_2 (by omega)).mono ?_
    rintro e w3 ⟨rfl, X0, hb3⟩
    have hz3 := hb3.size
    have hB3 : Below w.heap.size w w3 := Below.trans hB2 (hb3.mono (by omega))
    have hs0_3 := hs0_2.below hb3 (by omega)
    clear hs0_2
    have Wo0_3 := Wo0.below hb3 (by omega)
    clear Wo0
    go_wp2_with fail
    refine ((impl_BestOrder _ _ _ z0 a1 _ _ _ HN0.out hlen0 X0.seg (by omega) _ HQ.out _ HV.out)).mono ?_
    rintro e w4 ⟨GA0, Gn0, Gc0, rfl, Gl0, Go0, hb4⟩
    have hz4 := hb4.size
    have hB4 : Below w.heap.size w w4 := Below.trans hB3 (hb4.mono (by omega))
    have hs0_4 := hs0_3.below hb4 (by omega)
    clear hs0_3
    have Wo0_4 := Wo0_3.below hb4 (by omega)
    clear Wo0_3
    have X0_4 := X0.below hb4 (by omega)
    clear X0
    obtain rfl : Gn0 = Wn0 := Gl0.symm.trans Wl0
    have HY0 := Lib.hid Gl0
    have hy0 := HYB.out
    rw [Gl0] at hy0
    clear Wl0 Gl0
    go_wp2_with fail
    refine (eqIntS_b _ _ _ _ _ _ _ _ _ _ _ HY0.out (by omega) Go0.seg Wo0_4.seg).mono ?_
    rintro e w5 ⟨rfl, hb5⟩
    have hz5 := hb5.size
    have hB5 : Below w.heap.size w w5 := Below.trans hB4 (hb5.mono (by omega))
    have hs0_5 := hs0_4.below hb5 (by omega)
    clear hs0_4
    have Wo0_5 := Wo0_4.below hb5 (by omega)
    clear Wo0_4
    have X0_5 := X0_4.below hb5 (by omega)
    clear X0_4
    have Go0_5 := Go0.below hb5 (by omega)
    clear Go0
    go_wp2_with fail
    refine (toIntS_any _ _ _ z0 w.heap.size _ HN0.out hlen0 hs0_5 (by omega)).mono ?_
    rintro e w6 ⟨rfl, cb0, hb6⟩
    have hz6 := hb6.size
    have hB6 : Below w.heap.size w w6 := Below.trans hB5 (hb6.mono (by omega))
    have hs0_6 := hs0_5.below hb6 (by omega)
    clear hs0_5
    have Wo0_6 := Wo0_5.below hb6 (by omega)
    clear Wo0_5
    have X0_6 := X0_5.below hb6 (by omega)
    clear X0_5
    have Go0_6 := Go0_5.below hb6 (by omega)
    clear Go0_5
    go_wp2_with fail
    refine (eqIntS_b _ _ _ _ _ z0 _ _ _ _ _ HN0.out hlen0 X0_6.seg cb0.seg).mono ?_
    rintro e w7 ⟨rfl, hb7⟩
    have hz7 := hb7.size
    have hB7 : Below w.heap.size w w7 := Below.trans hB6 (hb7.mono (by omega))
    have hs0_7 := hs0_6.below hb7 (by omega)
    clear hs0_6
    have Wo0_7 := Wo0_6.below hb7 (by omega)
    clear Wo0_6
    have X0_7 := X0_6.below hb7 (by omega)
    clear X0_6
    have Go0_7 := Go0_6.below hb7 (by omega)
    clear Go0_6
    have cb0_7 := cb0.below hb7 (by omega)
    clear cb0
    go_wp2_with fail
    refine (markIntS_any _ _ _ _ z0 _ _ _ HN0.out hlen0 (by omega) (by omega) X0_7).mono ?_
    rintro e w8 ⟨rfl, X0_8, row8, hg8, hr8⟩
    have hz8 := hg8.size
    have hB8 : Below w.heap.size w w8 := Below.grown hB7 hg8 (by omega) (fun g hg => by have := hr8 g hg; omega)
    have hs0_8 := hs0_7.grown hg8 (by omega) (fun g hg => by have := hr8 g hg; omega)
    clear hs0_7
    have Wo0_8 := Wo0_7.grown hg8 (by omega) (fun g hg => by have := hr8 g hg; omega)
    clear Wo0_7
    have Go0_8 := Go0_7.grown hg8 (by omega) (fun g hg => by have := hr8 g hg; omega)
    clear Go0_7
    go_wp2_with fail
    refine (eqIntS_b _ _ _ _ _ _ _ _ _ _ _ HY0.out (by omega) Go0_8.seg Wo0_8.seg).mono ?_
    rintro e w9 ⟨rfl, hb9⟩
    have hz9 := hb9.size
    have hB9 : Below w.heap.size w w9 := Below.trans hB8 (hb9.mono (by omega))
    have hs0_9 := hs0_8.below hb9 (by omega)
    clear hs0_8
    have Wo0_9 := Wo0_8.below hb9 (by omega)
    clear Wo0_8
    have Go0_9 := Go0_8.below hb9 (by omega)
    clear Go0_8
    go_wp2_with fail
    refine (markIntS_any _ _ _ _ _ _ _ _ HY0.out (by omega) (by omega) (by omega) Go0_9).mono ?_
    rintro e w10 ⟨rfl, Go0_10, row10, hg10, hr10⟩
    have hz10 := hg10.size
    have hB10 : Below w.heap.size w w10 := Below.grown hB9 hg10 (by omega) (fun g hg => by have := hr10 g hg; omega)
    have hs0_10 := hs0_9.grown hg10 (by omega) (fun g hg => by have := hr10 g hg; omega)
    clear hs0_9
    have Wo0_10 := Wo0_9.grown hg10 (by omega) (fun g hg => by have := hr10 g hg; omega)
    clear Wo0_9
    go_wp2_with fail
    refine (heldIntS_any _ _ _ _ _ _ _ (by omega) (by omega) (by omega) Go0_10.seg).mono ?_
    rintro e w110 ⟨rfl, rfl⟩
    go_wp2_with fail
    refine (toIntS_any _ _ _ z0 w.heap.size _ HN0.out hlen0 hs0_10 (by omega)).mono ?_
    rintro e w11 ⟨rfl, cc0, hb11⟩
    have hz11 := hb11.size
    have hB11 : Below w.heap.size w w11 := Below.trans hB10 (hb11.mono (by omega))
    have hs0_11 := hs0_10.below hb11 (by omega)
    clear hs0_10
    have Wo0_11 := Wo0_10.below hb11 (by omega)
    clear Wo0_10
    have Go0_11 := Go0_10.below hb11 (by omega)
    clear Go0_10
    go_wp2_with fail
    refine ((impl_BestOrder _ _ _ z0 a1 _ _ _ HN0.out hlen0 cc0.seg (by omega) _ HQ.out _ HV.out)).mono ?_
    rintro e w12 ⟨HA0, Hn0, Hc0, rfl, Hl0, Ho0, hb12⟩
    have hz12 := hb12.size
    have hB12 : Below w.heap.size w w12 := Below.trans hB11 (hb12.mono (by omega))
    have hs0_12 := hs0_11.below hb12 (by omega)
    clear hs0_11
    have Wo0_12 := Wo0_11.below hb12 (by omega)
    clear Wo0_11
    have Go0_12 := Go0_11.below hb12 (by omega)
    clear Go0_11
    have cc0_12 := cc0.below hb12 (by omega)
    clear cc0
    obtain rfl : Hn0 = Gn0 := Hl0.symm.trans HY0.out
    clear Hl0
    go_wp2_with fail
    refine (eqIntS_b _ _ _ _ _ _ _ _ _ _ _ HY0.out (by omega) Ho0.seg Wo0_12.seg).mono ?_
    rintro e w13 ⟨rfl, hb13⟩
    have hz13 := hb13.size
    have hB13 : Below w.heap.size w w13 := Below.trans hB12 (hb13.mono (by omega))
    have hs0_13 := hs0_12.below hb13 (by omega)
    clear hs0_12
    have Wo0_13 := Wo0_12.below hb13 (by omega)
    clear Wo0_12
    have Go0_13 := Go0_12.below hb13 (by omega)
    clear Go0_12
    have Ho0_13 := Ho0.below hb13 (by omega)
    clear Ho0
    go_wp2_with fail
    refine (heldIntS_any _ _ _ _ _ _ _ (by omega) (by omega) (by omega) Go0_13.seg).mono ?_
    rintro e w113 ⟨rfl, rfl⟩
    go_wp2
    go_ret
    exact ⟨rfl, hB13⟩

set_option maxRecDepth 100000 in
theorem lifted (os : Os) (started : os.Started) (H : Type) (enc : TypeId × Value → H) :
    ReturnsInHanded {} Try.checked os 4 .any (Rows.fnExactBestOrderSpec.pre6 enc Try.prog Try.f4 Rows.fnExactBestOrderRow.domain false) (Rows.fnExactBestOrderSpec.post enc Try.prog Try.f4 false true false false) := by
  refine returnsInHanded_of_change (C := Try.checked) own started (by kernel_rfl) Try.func4
    (ChangeSpec.witness6 (enc := enc) (C := Try.checked) false ⟨#[], #[.slice none 0 0, .int .i64 0], []⟩ 8 (by kernel_rfl) (by kernel_rfl) (by kernel_rfl) (by kernel_rfl)) ?_
  intro W base args ds gs before hval0 hW hcnd _
  have hval : ∀ (j : Nat) t v, Try.f4.params[j]? = some t → args[j]? = some v → Value.okWide Try.prog W .any base t v := hval0
  have hW' := hW
  obtain ⟨p, q, hA0, hV, rfl, hfz, hnd⟩ := hW
  have hA : DataW.TrodAll enc Try.prog W 0 (fun _ => true) true Try.f4.params.toList args.toList ds p := hA0
  rw [Try.params4] at hA hval
  obtain ⟨v0, vs0, d0, ds0, p0, q0, hargs, rfl, rfl, h0, r0⟩ := trodAll_cons hA
  obtain ⟨v1, vs1, d1, ds1, p1, q1, rfl, rfl, rfl, h1, r1⟩ := trodAll_cons r0
  obtain ⟨rfl, rfl, rfl⟩ := trodAll_nil r1
  obtain rfl : args = #[v0, v1] := by cases args; simp_all
  obtain ⟨rfl, rfl⟩ := trodVars_none hV
  obtain ⟨a0, len0, cap0, rfl⟩ := okWide_slice Try.underlying22 (hval 0 22 v0 rfl rfl)
  have k0 := h0
  have lt0 : ∀ x ∈ p0, x.block < W.heap.size := by obtain ⟨m, hm⟩ := k0; exact DataW.trod_lt m _ _ _ hm
  obtain ⟨z0, n0, s0⟩ : ∃ zs : List Int, zs.length = len0 ∧ Seg W 0 W.heap.size a0 zs := by
    obtain ⟨fuel, hf⟩ := h0
    rcases open_ints Try.underlying22 Try.underlying3 (by kernel_rfl) hf with ⟨hcs, _⟩ | ⟨x, l, c, zs, hcs, _, hl, hm, hz, _, hcell, hwz⟩
    · simp [Value.cells] at hcs
      obtain ⟨rfl, rfl, rfl⟩ := hcs
      exact ⟨[], rfl, .inl rfl⟩
    · simp [Value.cells] at hcs
      obtain ⟨rfl, rfl, rfl⟩ := hcs
      exact ⟨zs.take _, by rw [List.length_take, Nat.min_eq_left]; simp at hz; omega, seg_of hl (by simpa using hz) hcell⟩
  obtain ⟨a1, rfl, rfl, rfl, w1⟩ := open_int Try.underlying3 (hval 1 3 v1 rfl rfl) h1
  have b1 : -9223372036854775808 ≤ a1 ∧ a1 ≤ 9223372036854775807 := wf_bounds w1
  clear hA0 hval0
  refine (walk (w := W) n0 s0 b1).mono fun e W' ⟨he, bel⟩ => ?_
  subst he
  exact ⟨_, rfl, _, _, _, [], _, [], hW', trodAll_mk1 (shut_bool Try.underlying4 _), (trodAll_cons_mk (Below.trod laidOut (by kernel_rfl) (of_decide_eq_true (by kernel_rfl)) k0 bel lt0) (trodAll_cons_mk (shut_int Try.underlying3 w1) trodAll_mk0)), rfl, bel.frame _, fun h => by cases h⟩

theorem over : Rows.fnExactBestOrderRow.holds Try.pinned (OpenSpec.ofChange Rows.fnExactBestOrderSpec) :=
  OpenClaim.holds_of_wide 4 Try.f4 rfl rfl rfl rfl rfl rfl rfl ⟨rfl, rfl, rfl, rfl, rfl⟩ rfl rfl rfl rfl rfl (by kernel_rfl) Try.func4 (by kernel_rfl)
    (of_decide_eq_true (by kernel_rfl)) (by unfold Func.isWrapper; first | (rw [if_pos (by decide +kernel)]; kernel_rfl) | (rw [if_neg (by decide +kernel)]; exact ⟨rfl, rfl⟩))
    (fun os started H enc _ => lifted os started H enc)

theorem proved : Rows.FnExactBestOrderSaid := over
#print axioms proved
end LawBestOrder
end Go.Proofs.Ytgcljhgpihpfgac

/-
  For every text and list of numbers the law of IsPlacing returns true and leaves the list as it was.
  Conditions: none.
-/
import Derived.Test.YtgcljhgpihpfgaaPlT
import Derived.Test.YtgcljhgpihpfgaaEq
import Derived.Test.YtgcljhgpihpfgaaCopy
import Derived.OpenShut
import Derived.ShutString
import Derived.ChangeOld
namespace Go.Proofs.Ytgcljhgpihpfgaa
namespace LawIsPlacing
open Go.ChangeShapes Go.WideShapes Go.ChangeAt Go.RowKit
open Go.ChangeMaps (open_string shut_string)
set_option linter.unusedVariables false

theorem own : ownKnob Try.prog.godebug = none := by kernel_rfl
theorem laidOut : laidOutB Try.prog = true := by kernel_rfl

set_option maxHeartbeats 1000000 in
theorem walk {a0 : ByteArray} {a1 : Option Addr} {len1 cap1 : Nat} {z1 : List Int} {w : World} (hn1 : z1.length = len1) (hs1 : Seg w 0 w.heap.size a1 z1) :
    Calls Try.prog 7 #[.string a0, .slice a1 len1 cap1] w fun e w' => e = .returned (.bool true) ∧ Below w.heap.size w w' := by
  by_cases hbig0 : 1048576 < a0.size
  · clear hs1 hn1
    go_enter Try.func7, Try.ntmps7
    go_wp2
    go_ret
    exact ⟨rfl, Below.refl _ _⟩
  have hlen0 : a0.size ≤ 1048576 := by omega
  by_cases hbig1 : 1048576 < len1
  · clear hs1 hn1
    go_enter Try.func7, Try.ntmps7
    go_wp2
    go_ret
    exact ⟨rfl, Below.refl _ _⟩
  have hlen1 : len1 ≤ 1048576 := by omega
  have HN1 := Lib.hid hn1
  obtain ⟨q, hq⟩ : ∃ q, ldB a0.data.toList = q := ⟨_, rfl⟩
  have HQ := Lib.hid hq
  clear hq
  obtain ⟨v, hv⟩ : ∃ v, isP (u8 a0.data.toList) z1 = v := ⟨_, rfl⟩
  have HV := Lib.hid hv
  clear hv
  cases q
  clear hn1
  all_goals
    go_enter Try.func7, Try.ntmps7
    go_wp2_with fail
    refine (toIntS_any _ _ _ z1 w.heap.size _ HN1.out hlen1 hs1 (by omega)).mono ?_
    rintro e w1 ⟨rfl, ca1, hb1⟩
    have hz1 := hb1.size
    have hB1 : Below w.heap.size w w1 := Below.trans (Below.refl _ _) (hb1.mono (by omega))
    have hs1_1 := hs1.below hb1 (by omega)
    clear hs1
    go_wp2_with fail
    refine (spec_IsPlacing a0 _ _ _ z1 _ _ _ HN1.out hlen1 ca1.seg (by omega) _ HQ.out _ HV.out).mono ?_
    rintro e w2 ⟨rfl, hb2⟩
    have hz2 := hb2.size
    have hB2 : Below w.heap.size w w2 := Below.trans hB1 (hb2.mono (by omega))
    have hs1_2 := hs1_1.below hb2 (by omega)
    clear hs1_1
    have ca1_2 := ca1.below hb2 (by omega)
    clear ca1
    go_wp2_with fail
    refine (toIntS_any _ _ _ z1 w.heap.size _ HN1.out hlen1 hs1_2 (by omega)).mono ?_
    rintro e w3 ⟨rfl, X1, hb3⟩
    have hz3 := hb3.size
    have hB3 : Below w.heap.size w w3 := Below.trans hB2 (hb3.mono (by omega))
    have hs1_3 := hs1_2.below hb3 (by omega)
    clear hs1_2
    go_wp2_with fail
    refine (impl_IsPlacing a0 _ _ _ z1 _ _ _ HN1.out hlen1 X1.seg (by omega) _ HQ.out _ HV.out).mono ?_
    rintro e w4 ⟨rfl, hb4⟩
    have hz4 := hb4.size
    have hB4 : Below w.heap.size w w4 := Below.trans hB3 (hb4.mono (by omega))
    have hs1_4 := hs1_3.below hb4 (by omega)
    clear hs1_3
    have X1_4 := X1.below hb4 (by omega)
    clear X1
    go_wp2_with fail
    refine (toIntS_any _ _ _ z1 w.heap.size _ HN1.out hlen1 hs1_4 (by omega)).mono ?_
    rintro e w5 ⟨rfl, cb1, hb5⟩
    have hz5 := hb5.size
    have hB5 : Below w.heap.size w w5 := Below.trans hB4 (hb5.mono (by omega))
    have hs1_5 := hs1_4.below hb5 (by omega)
    clear hs1_4
    have X1_5 := X1_4.below hb5 (by omega)
    clear X1_4
    go_wp2_with fail
    refine (eqIntS_b _ _ _ _ _ z1 _ _ _ _ _ HN1.out hlen1 X1_5.seg cb1.seg).mono ?_
    rintro e w6 ⟨rfl, hb6⟩
    have hz6 := hb6.size
    have hB6 : Below w.heap.size w w6 := Below.trans hB5 (hb6.mono (by omega))
    have hs1_6 := hs1_5.below hb6 (by omega)
    clear hs1_5
    have X1_6 := X1_5.below hb6 (by omega)
    clear X1_5
    have cb1_6 := cb1.below hb6 (by omega)
    clear cb1
    go_wp2
    go_ret
    exact ⟨rfl, hB6⟩

set_option maxRecDepth 100000 in
theorem lifted (os : Os) (started : os.Started) (H : Type) (enc : TypeId × Value → H) :
    ReturnsInHanded {} Try.checked os 7 .any (Rows.fnExactIsPlacingSpec.pre6 enc Try.prog Try.f7 Rows.fnExactIsPlacingRow.domain false) (Rows.fnExactIsPlacingSpec.post enc Try.prog Try.f7 false true false false) := by
  refine returnsInHanded_of_change (C := Try.checked) own started (by kernel_rfl) Try.func7
    (ChangeSpec.witness6 (enc := enc) (C := Try.checked) false ⟨#[], #[.string ByteArray.empty, .slice none 0 0], []⟩ 8 (by kernel_rfl) (by kernel_rfl) (by kernel_rfl) (by kernel_rfl)) ?_
  intro W base args ds gs before hval0 hW hcnd _
  have hval : ∀ (j : Nat) t v, Try.f7.params[j]? = some t → args[j]? = some v → Value.okWide Try.prog W .any base t v := hval0
  have hW' := hW
  obtain ⟨p, q, hA0, hV, rfl, hfz, hnd⟩ := hW
  have hA : DataW.TrodAll enc Try.prog W 0 (fun _ => true) true Try.f7.params.toList args.toList ds p := hA0
  rw [Try.params7] at hA hval
  obtain ⟨v0, vs0, d0, ds0, p0, q0, hargs, rfl, rfl, h0, r0⟩ := trodAll_cons hA
  obtain ⟨v1, vs1, d1, ds1, p1, q1, rfl, rfl, rfl, h1, r1⟩ := trodAll_cons r0
  obtain ⟨rfl, rfl, rfl⟩ := trodAll_nil r1
  obtain rfl : args = #[v0, v1] := by cases args; simp_all
  obtain ⟨rfl, rfl⟩ := trodVars_none hV
  obtain ⟨a0, rfl, rfl, rfl, w0⟩ := open_string Try.underlying9 (hval 0 9 v0 rfl rfl) h0
  obtain ⟨a1, len1, cap1, rfl⟩ := okWide_slice Try.underlying26 (hval 1 26 v1 rfl rfl)
  have k1 := h1
  have lt1 : ∀ x ∈ p1, x.block < W.heap.size := by obtain ⟨m, hm⟩ := k1; exact DataW.trod_lt m _ _ _ hm
  obtain ⟨z1, n1, s1⟩ : ∃ zs : List Int, zs.length = len1 ∧ Seg W 0 W.heap.size a1 zs := by
    obtain ⟨fuel, hf⟩ := h1
    rcases open_ints Try.underlying26 Try.underlying3 (by kernel_rfl) hf with ⟨hcs, _⟩ | ⟨x, l, c, zs, hcs, _, hl, hm, hz, _, hcell, hwz⟩
    · simp [Value.cells] at hcs
      obtain ⟨rfl, rfl, rfl⟩ := hcs
      exact ⟨[], rfl, .inl rfl⟩
    · simp [Value.cells] at hcs
      obtain ⟨rfl, rfl, rfl⟩ := hcs
      exact ⟨zs.take _, by rw [List.length_take, Nat.min_eq_left]; simp at hz; omega, seg_of hl (by simpa using hz) hcell⟩
  clear hA0 hval0
  refine (walk (w := W) n1 s1).mono fun e W' ⟨he, bel⟩ => ?_
  subst he
  exact ⟨_, rfl, _, _, _, [], _, [], hW', trodAll_mk1 (shut_bool Try.underlying4 _), (trodAll_cons_mk (shut_string Try.underlying9 w0) (trodAll_cons_mk (Below.trod laidOut (by kernel_rfl) (of_decide_eq_true (by kernel_rfl)) k1 bel lt1) trodAll_mk0)), rfl, bel.frame _, fun h => by cases h⟩

theorem over : Rows.fnExactIsPlacingRow.holds Try.pinned (OpenSpec.ofChange Rows.fnExactIsPlacingSpec) :=
  OpenClaim.holds_of_wide 7 Try.f7 rfl rfl rfl rfl rfl rfl rfl ⟨rfl, rfl, rfl, rfl, rfl⟩ rfl rfl rfl rfl rfl (by kernel_rfl) Try.func7 (by kernel_rfl)
    (of_decide_eq_true (by kernel_rfl)) (by unfold Func.isWrapper; first | (rw [if_pos (by decide +kernel)]; kernel_rfl) | (rw [if_neg (by decide +kernel)]; exact ⟨rfl, rfl⟩))
    (fun os started H enc _ => lifted os started H enc)

theorem proved : Rows.FnExactIsPlacingSaid := over
#print axioms proved
end LawIsPlacing
end Go.Proofs.Ytgcljhgpihpfgaa

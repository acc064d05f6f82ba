/-
  For every list of books, width and list of numbers the law of HeightOfCase returns true and leaves the lists as they were.
  Conditions: none.
-/
import Derived.Test.YtmdeijjlcebmaaaShelfHigh
import Derived.Test.YtmdeijjlcebmaaaCopy
import Derived.Test.YtmdeijjlcebmaaaEq
import Derived.OpenShut
import Derived.ShutString
import Derived.ChangeOld
namespace Go.Proofs.Ytmdeijjlcebmaaa
namespace LawHeightOfCase
open Go.ChangeShapes Go.WideShapes Go.ChangeAt Go.RowKit
open Go.ChangeMaps (open_string shut_string)
set_option linter.unusedVariables false

theorem own : ownKnob Try.prog.godebug = none := by kernel_rfl
theorem laidOut : laidOutB Try.prog = true := by kernel_rfl

set_option maxHeartbeats 1000000 in
theorem walk {a0 : Option Addr} {len0 cap0 : Nat} {z0 : List (Int × Int)} {a1 : Int} {a2 : Option Addr} {len2 cap2 : Nat} {z2 : List Int} {w : World} (hm0 : len0 ≤ 9223372036854775807) (hn0 : z0.length = len0) (hs0 : Seg w 0 w.heap.size a0 (flat z0)) (hi1 : -9223372036854775808 ≤ a1 ∧ a1 ≤ 9223372036854775807) (hn2 : z2.length = len2) (hs2 : Seg w 0 w.heap.size a2 z2) :
    Calls Try.prog 6 #[.slice a0 len0 cap0, .int .i64 a1, .slice a2 len2 cap2] w fun e w' => e = .returned (.bool true) ∧ Below w.heap.size w w' := by
  by_cases hbig2 : 1048576 < len2
  · clear hs0 hn0 hs2 hn2
    go_enter Try.func6, Try.ntmps6
    go_wp2
    go_ret
    exact ⟨rfl, Below.refl _ _⟩
  have hlen2 : len2 ≤ 1048576 := by omega
  by_cases hbig0 : 1048576 < len0
  · clear hs0 hn0 hs2 hn2
    go_enter Try.func6, Try.ntmps6
    go_wp2_with fail
    refine (szBookS_big _ _ _ _ hbig0 hm0).mono ?_
    rintro e w0 ⟨rfl, rfl⟩
    go_wp2
    go_ret
    exact ⟨rfl, Below.refl _ _⟩
  have hlen0 : len0 ≤ 1048576 := by omega
  have HN0 := Lib.hid hn0
  have HN2 := Lib.hid hn2
  obtain ⟨p, hp⟩ : ∃ p, bothB z0 a1 z2 = p := ⟨_, rfl⟩
  have HP := Lib.hid hp
  clear hp
  cases p
  clear hn0 hn2
  all_goals
    go_enter Try.func6, Try.ntmps6
    go_wp2_with fail
    refine (szBookS_any _ _ _ _ hlen0).mono ?_
    rintro e w0 ⟨rfl, rfl⟩
    go_wp2_with fail
    refine (toBookS_any _ _ _ z0 w.heap.size _ HN0.out hlen0 hs0 (by omega)).mono ?_
    rintro e w1 ⟨rfl, ca0, hb1⟩
    have hz1 := hb1.size
    have hB1 : Below w.heap.size w w1 := Below.trans (Below.refl _ _) (hb1.mono (by omega))
    have hs0_1 := hs0.below hb1 (by omega)
    clear hs0
    have hs2_1 := hs2.below hb1 (by omega)
    clear hs2
    go_wp2_with fail
    refine (toIntS_any _ _ _ z2 w.heap.size _ HN2.out hlen2 hs2_1 (by omega)).mono ?_
    rintro e w2 ⟨rfl, ca2, hb2⟩
    have hz2 := hb2.size
    have hB2 : Below w.heap.size w w2 := Below.trans hB1 (hb2.mono (by omega))
    have hs0_2 := hs0_1.below hb2 (by omega)
    clear hs0_1
    have hs2_2 := hs2_1.below hb2 (by omega)
    clear hs2_1
    have ca0_2 := ca0.below hb2 (by omega)
    clear ca0
    go_wp2_with fail
    refine (spec_HeightOfCase _ _ _ _ _ _ z0 a1 z2 _ _ _ _ _ HN0.out hlen0 (Nat.le_refl _) HN2.out hlen2 ca0_2.seg (by omega) ca2.seg (by omega) _ HP.out).mono ?_
    rintro e w3 ⟨rfl, hb3⟩
    have hz3 := hb3.size
    have hB3 : Below w.heap.size w w3 := Below.trans hB2 (hb3.mono (by omega))
    have hs0_3 := hs0_2.below hb3 (by omega)
    clear hs0_2
    have hs2_3 := hs2_2.below hb3 (by omega)
    clear hs2_2
    have ca0_3 := ca0_2.below hb3 (by omega)
    clear ca0_2
    have ca2_3 := ca2.below hb3 (by omega)
    clear ca2
    go_wp2_with fail
    refine (toBookS_any _ _ _ z0 w.heap.size _ HN0.out hlen0 hs0_3 (by omega)).mono ?_
    rintro e w4 ⟨rfl, X0, hb4⟩
    have hz4 := hb4.size
    have hB4 : Below w.heap.size w w4 := Below.trans hB3 (hb4.mono (by omega))
    have hs0_4 := hs0_3.below hb4 (by omega)
    clear hs0_3
    have hs2_4 := hs2_3.below hb4 (by omega)
    clear hs2_3
    go_wp2_with fail
    refine (toIntS_any _ _ _ z2 w.heap.size _ HN2.out hlen2 hs2_4 (by omega)).mono ?_
    rintro e w5 ⟨rfl, X2, hb5⟩
    have hz5 := hb5.size
    have hB5 : Below w.heap.size w w5 := Below.trans hB4 (hb5.mono (by omega))
    have hs0_5 := hs0_4.below hb5 (by omega)
    clear hs0_4
    have hs2_5 := hs2_4.below hb5 (by omega)
    clear hs2_4
    have X0_5 := X0.below hb5 (by omega)
    clear X0
    go_wp2_with fail
    refine (impl_HeightOfCase _ _ _ _ _ _ z0 a1 z2 _ _ _ _ _ HN0.out hlen0 (Nat.le_refl _) HN2.out hlen2 X0_5.seg (by omega) X2.seg (by omega) _ HP.out).mono ?_
    rintro e w6 ⟨rfl, hb6⟩
    have hz6 := hb6.size
    have hB6 : Below w.heap.size w w6 := Below.trans hB5 (hb6.mono (by omega))
    have hs0_6 := hs0_5.below hb6 (by omega)
    clear hs0_5
    have hs2_6 := hs2_5.below hb6 (by omega)
    clear hs2_5
    have X0_6 := X0_5.below hb6 (by omega)
    clear X0_5
    have X2_6 := X2.below hb6 (by omega)
    clear X2
    go_wp2_with fail
    refine (toBookS_any _ _ _ z0 w.heap.size _ HN0.out hlen0 hs0_6 (by omega)).mono ?_
    rintro e w7 ⟨rfl, cb0, hb7⟩
    have hz7 := hb7.size
    have hB7 : Below w.heap.size w w7 := Below.trans hB6 (hb7.mono (by omega))
    have hs0_7 := hs0_6.below hb7 (by omega)
    clear hs0_6
    have hs2_7 := hs2_6.below hb7 (by omega)
    clear hs2_6
    have X0_7 := X0_6.below hb7 (by omega)
    clear X0_6
    have X2_7 := X2_6.below hb7 (by omega)
    clear X2_6
    go_wp2_with fail
    refine (eqBookS_b _ _ _ _ _ z0 _ _ _ _ _ HN0.out hlen0 X0_7.seg cb0.seg (by omega) (by omega)).mono ?_
    rintro e w8 ⟨rfl, hb8⟩
    have hz8 := hb8.size
    have hB8 : Below w.heap.size w w8 := Below.trans hB7 (hb8.mono (by omega))
    have hs0_8 := hs0_7.below hb8 (by omega)
    clear hs0_7
    have hs2_8 := hs2_7.below hb8 (by omega)
    clear hs2_7
    have X0_8 := X0_7.below hb8 (by omega)
    clear X0_7
    have X2_8 := X2_7.below hb8 (by omega)
    clear X2_7
    have cb0_8 := cb0.below hb8 (by omega)
    clear cb0
    go_wp2_with fail
    refine (toIntS_any _ _ _ z2 w.heap.size _ HN2.out hlen2 hs2_8 (by omega)).mono ?_
    rintro e w9 ⟨rfl, cb2, hb9⟩
    have hz9 := hb9.size
    have hB9 : Below w.heap.size w w9 := Below.trans hB8 (hb9.mono (by omega))
    have hs0_9 := hs0_8.below hb9 (by omega)
    clear hs0_8
    have hs2_9 := hs2_8.below hb9 (by omega)
    clear hs2_8
    have X0_9 := X0_8.below hb9 (by omega)
    clear X0_8
    have X2_9 := X2_8.below hb9 (by omega)
    clear X2_8
    go_wp2_with fail
    refine (eqIntS_b _ _ _ _ _ z2 _ _ _ _ _ HN2.out hlen2 X2_9.seg cb2.seg).mono ?_
    rintro e w10 ⟨rfl, hb10⟩
    have hz10 := hb10.size
    have hB10 : Below w.heap.size w w10 := Below.trans hB9 (hb10.mono (by omega))
    have hs0_10 := hs0_9.below hb10 (by omega)
    clear hs0_9
    have hs2_10 := hs2_9.below hb10 (by omega)
    clear hs2_9
    have X0_10 := X0_9.below hb10 (by omega)
    clear X0_9
    have X2_10 := X2_9.below hb10 (by omega)
    clear X2_9
    have cb2_10 := cb2.below hb10 (by omega)
    clear cb2
    go_wp2
    go_ret
    exact ⟨rfl, hB10⟩

set_option maxRecDepth 100000 in
theorem lifted (os : Os) (started : os.Started) (H : Type) (enc : TypeId × Value → H) :
    ReturnsInHanded {} Try.checked os 6 .any (Rows.fnExactHeightOfCaseSpec.pre6 enc Try.prog Try.f6 Rows.fnExactHeightOfCaseRow.domain false) (Rows.fnExactHeightOfCaseSpec.post enc Try.prog Try.f6 false true false false) := by
  refine returnsInHanded_of_change (C := Try.checked) own started (by kernel_rfl) Try.func6
    (ChangeSpec.witness6 (enc := enc) (C := Try.checked) false ⟨#[], #[.slice none 0 0, .int .i64 0, .slice none 0 0], []⟩ 8 (by kernel_rfl) (by kernel_rfl) (by kernel_rfl) (by kernel_rfl)) ?_
  intro W base args ds gs before hval0 hW hcnd _
  have hval : ∀ (j : Nat) t v, Try.f6.params[j]? = some t → args[j]? = some v → Value.okWide Try.prog W .any base t v := hval0
  have hW' := hW
  obtain ⟨p, q, hA0, hV, rfl, hfz, hnd⟩ := hW
  have hA : DataW.TrodAll enc Try.prog W 0 (fun _ => true) true Try.f6.params.toList args.toList ds p := hA0
  rw [Try.params6] at hA hval
  obtain ⟨v0, vs0, d0, ds0, p0, q0, hargs, rfl, rfl, h0, r0⟩ := trodAll_cons hA
  obtain ⟨v1, vs1, d1, ds1, p1, q1, rfl, rfl, rfl, h1, r1⟩ := trodAll_cons r0
  obtain ⟨v2, vs2, d2, ds2, p2, q2, rfl, rfl, rfl, h2, r2⟩ := trodAll_cons r1
  obtain ⟨rfl, rfl, rfl⟩ := trodAll_nil r2
  obtain rfl : args = #[v0, v1, v2] := by cases args; simp_all
  obtain ⟨rfl, rfl⟩ := trodVars_none hV
  obtain ⟨a0, len0, cap0, rfl⟩ := okWide_slice Try.underlying22 (hval 0 22 v0 rfl rfl)
  have k0 := h0
  have lt0 : ∀ x ∈ p0, x.block < W.heap.size := by obtain ⟨m, hm⟩ := k0; exact DataW.trod_lt m _ _ _ hm
  obtain ⟨m0, z0, n0, s0⟩ : len0 ≤ 9223372036854775807 ∧ ∃ zs : List (Int × Int), zs.length = len0 ∧ Seg W 0 W.heap.size a0 (flat zs) := by
    obtain ⟨fuel, hf⟩ := h0
    exact open_books hf
  obtain ⟨a1, rfl, rfl, rfl, w1⟩ := open_int Try.underlying3 (hval 1 3 v1 rfl rfl) h1
  have b1 : -9223372036854775808 ≤ a1 ∧ a1 ≤ 9223372036854775807 := wf_bounds w1
  obtain ⟨a2, len2, cap2, rfl⟩ := okWide_slice Try.underlying23 (hval 2 23 v2 rfl rfl)
  have k2 := h2
  have lt2 : ∀ x ∈ p2, x.block < W.heap.size := by obtain ⟨m, hm⟩ := k2; exact DataW.trod_lt m _ _ _ hm
  obtain ⟨z2, n2, s2⟩ : ∃ zs : List Int, zs.length = len2 ∧ Seg W 0 W.heap.size a2 zs := by
    obtain ⟨fuel, hf⟩ := h2
    rcases open_ints Try.underlying23 Try.underlying3 (by kernel_rfl) hf with ⟨hcs, _⟩ | ⟨x, l, c, zs, hcs, _, hl, hm, hz, _, hcell, hwz⟩
    · simp [Value.cells] at hcs
      obtain ⟨rfl, rfl, rfl⟩ := hcs
      exact ⟨[], rfl, .inl rfl⟩
    · simp [Value.cells] at hcs
      obtain ⟨rfl, rfl, rfl⟩ := hcs
      exact ⟨zs.take _, by rw [List.length_take, Nat.min_eq_left]; simp at hz; omega, seg_of hl (by simpa using hz) hcell⟩
  clear hA0 hval0
  refine (walk (w := W) m0 n0 s0 b1 n2 s2).mono fun e W' ⟨he, bel⟩ => ?_
  subst he
  exact ⟨_, rfl, _, _, _, [], _, [], hW', trodAll_mk1 (shut_bool Try.underlying4 _), (trodAll_cons_mk (Below.trod laidOut (by kernel_rfl) (of_decide_eq_true (by kernel_rfl)) k0 bel lt0) (trodAll_cons_mk (shut_int Try.underlying3 w1) (trodAll_cons_mk (Below.trod laidOut (by kernel_rfl) (of_decide_eq_true (by kernel_rfl)) k2 bel lt2) trodAll_mk0))), rfl, bel.frame _, fun h => by cases h⟩

theorem over : Rows.fnExactHeightOfCaseRow.holds Try.pinned (OpenSpec.ofChange Rows.fnExactHeightOfCaseSpec) :=
  OpenClaim.holds_of_wide 6 Try.f6 rfl rfl rfl rfl rfl rfl rfl ⟨rfl, rfl, rfl, rfl, rfl⟩ rfl rfl rfl rfl rfl (by kernel_rfl) Try.func6 (by kernel_rfl)
    (of_decide_eq_true (by kernel_rfl)) (by unfold Func.isWrapper; first | (rw [if_pos (by decide +kernel)]; kernel_rfl) | (rw [if_neg (by decide +kernel)]; exact ⟨rfl, rfl⟩))
    (fun os started H enc _ => lifted os started H enc)

theorem proved : Rows.FnExactHeightOfCaseSaid := over
#print axioms proved
end LawHeightOfCase
end Go.Proofs.Ytmdeijjlcebmaaa

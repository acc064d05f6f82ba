/-
  For every list the law of PiecesText returns true and leaves the list as it was; the card.
  Conditions: the listed package-level variables read as the program's text writes them (the card ties them to it).
-/
import Derived.Test.YtjpejhpilfjheabDoorTxPcAsk
import Derived.Test.YtjpejhpilfjheabDoorTie
import Derived.Test.YtjpejhpilfjheabDoorCards
import Derived.OpenShut
import Derived.ShutString
import Derived.ChangeOld
import Derived.LaidMore
import Derived.Stop.Joined
import Derived.Stop.LaidErr
import Derived.SevenTiedAt
namespace Go.Proofs.YtjpejhpilfjheabDoor
namespace PiecesText
open Go.ChangeShapes Go.WideShapes Go.ChangeAt Go.RowKit
open Go.ChangeMaps (open_string shut_string)
set_option linter.unusedVariables false

theorem own : ownKnob Tryd.prog.godebug = none := by kernel_rfl
theorem laidOut : laidOutB Tryd.prog = true := by kernel_rfl

set_option maxHeartbeats 1000000 in
theorem walk {a0 : Option Addr} {len0 cap0 : Nat} {z0 : List (Int × Int × Int)} {w : World} (hm0 : len0 ≤ 9223372036854775807) (hn : z0.length = len0) (hs : Seg w 0 w.heap.size a0 (flat3 z0)) (hT : Tab w) :
    Calls Tryd.prog 3 #[.slice a0 len0 cap0] w fun e w' => e = .returned (.bool true) ∧ Below w.heap.size w w' := by
  by_cases hbig : 1048576 < len0
  · clear hs hn
    go_enter Tryd.func3, Tryd.ntmps3
    go_wp2_with fail
    refine (szPieceS_big _ _ _ _ hbig hm0).mono ?_
    rintro e w0 ⟨rfl, rfl⟩
    go_wp2
    go_ret
    exact ⟨rfl, Below.refl _ _⟩
  · have hlen : len0 ≤ 1048576 := by omega
    obtain ⟨b, hb⟩ : ∃ b, goodPc z0 = b := ⟨_, rfl⟩
    obtain ⟨t, ht⟩ : ∃ t, someKZ b (joinB 44 (z0.map bxSZ)) = t := ⟨_, rfl⟩
    have HN := Lib.hid hn
    have HB := Lib.hid hb
    have HH := Lib.hid ht
    have HT := Lib.hid hT
    clear hb hn ht hT
    cases b
    all_goals
      go_enter Tryd.func3, Tryd.ntmps3
      go_wp2_with fail
      refine (szPieceS_any _ _ _ _ hlen).mono ?_
      rintro e w0 ⟨rfl, rfl⟩
      go_wp2_with fail
      refine (toPieceS_any _ _ _ z0 w.heap.size _ HN.out hlen hs (Nat.le_refl _)).mono ?_; rintro e w1 ⟨rfl, ho1, hb1⟩
      have hz1 := hb1.size
      go_wp2_with fail
      refine (specBoxesText_anyZ _ _ _ z0 _ _ _ HN.out hlen ho1.seg (Nat.le_refl _) _ HB.out).mono ?_; rw [HH.out]; rintro e w2 ⟨rfl, hb2⟩
      have hz2 := hb2.size
      have hs2 := hs.below (hb1.trans (hb2.mono hz1)) (Nat.le_refl _)
      go_wp2_with fail
      refine (toPieceS_any _ _ _ z0 w.heap.size _ HN.out hlen hs2 (Nat.le_trans hz1 hz2)).mono ?_; rintro e w3 ⟨rfl, ho3, hb3⟩
      have hz3 := hb3.size
      have hb13 := hb1.trans ((hb2.mono hz1).trans (hb3.mono (Nat.le_trans hz1 hz2)))
      have HT3 := Lib.hid (HT.out.below hb13 (Nat.le_refl _))
      go_wp2_with fail
      refine (implBoxesText_anyZ _ _ _ z0 _ _ _ HN.out hlen ho3.seg (Nat.le_refl _) _ HB.out HT3.out).mono ?_; rw [HH.out]; rintro e w4 ⟨rfl, hb4⟩
      have hz4 := hb4.size
      have hb14 := hb13.trans (hb4.mono hb13.size)
      have hs4 := hs.below hb14 (Nat.le_refl _)
      go_wp2_with fail
      refine (toPieceS_any _ _ _ z0 w.heap.size _ HN.out hlen hs4 hb14.size).mono ?_; rintro e w5 ⟨rfl, ho5, hb5⟩
      have hz5 := hb5.size
      have ho35 := (ho3.below hb4 (Nat.le_refl _)).below hb5 hz4
      go_wp2_with fail
      refine (eqPieceS_b _ _ _ _ _ z0 _ _ _ _ _ HN.out hlen ho35.seg ho5.seg (by omega) (by omega)).mono ?_; rintro e w6 ⟨rfl, hb6⟩
      have hB5 := hb14.trans (hb5.mono hb14.size)
      go_wp2
      go_ret
      exact ⟨rfl, hB5.trans (hb6.mono hB5.size)⟩

/-- What the row lists. -/
def lists : List (String × DataW Unit) := [("math/bits.deBruijn32tab", Rows.laid_math_bits_deBruijn32tab), ("math/bits.deBruijn64tab", Rows.laid_math_bits_deBruijn64tab), ("internal/strconv.uint64pow10", Rows.laid_internal_strconv_uint64pow10)]

theorem door_met (os : Os) (args : Array Value) : laidMetH Tryd.prog lists ((World.doorLaid Tryd.prog 400 os).forCall (fun _ _ => 0) ⟨#[], args, []⟩).memory :=
  laidMetH_of_parts3 (fuel := 8) (laidMet_of_run' 8 (by kernel_rfl) (by kernel_rfl)) (by kernel_rfl) (by kernel_rfl)

theorem tab_of {W : World} (h : laidMetH Tryd.prog lists W) : Tab W := by
  rw [MakeChecks.laidMetH_plain _ _ _ (by kernel_rfl)] at h
  have h2 : laidMet Tryd.prog [("internal/strconv.uint64pow10", Lib.tabData .u64 Lib.pow10Tab)] W := h.tail.tail
  exact Lib.tabIs_of_head (g := 0) (t := 71) (e := 61) (n := 20) (by kernel_rfl) (by kernel_rfl) Tryd.underlying71 Tryd.underlying61 (by kernel_rfl) (by kernel_rfl) h2

set_option maxRecDepth 100000 in
theorem lifted (os : Os) (started : os.Started) (H : Type) (enc : TypeId × Value → H) :
    ReturnsInHanded {} Tryd.checked os 3 .any (fun w args => (Rows.fnExactPiecesTextSpec.pre enc Tryd.prog Tryd.f3 [] false w args ∧ laidMetH Tryd.prog lists w) ∧ sizedMet enc Tryd.prog Tryd.f3 (OpenSpec.ofChange Rows.fnExactPiecesTextSpec) false w args)
      (Rows.fnExactPiecesTextSpec.post enc Tryd.prog Tryd.f3 false true false false) := by
  refine returnsInHanded_of_change_and (C := Tryd.checked) (X := fun w _ => laidMetH Tryd.prog lists w) (fun _ _ _ hh h => h.of_heap hh) own started (by kernel_rfl) Tryd.func3
    (ChangeSpec.witness_shaped (enc := enc) (C := Tryd.checked) (os := os) (X := fun w _ => laidMetH Tryd.prog lists w) false (World.doorLaid Tryd.prog 400 os) #[.slice none 0 0] 8 rfl (World.shaped_of_RefB (by kernel_rfl) (by kernel_rfl)) (by kernel_rfl) (by kernel_rfl) (by kernel_rfl) (door_met os _)) ?_
  intro W base args ds gs before hval0 hW _ _ hL _
  have hval : ∀ (j : Nat) t v, Tryd.f3.params[j]? = some t → args[j]? = some v → Value.okWide Tryd.prog W .any base t v := hval0
  have hW' := hW
  obtain ⟨p, q, hA0, hV, rfl, hfz, hnd⟩ := hW
  have hA : DataW.TrodAll enc Tryd.prog W 0 (fun _ => true) true Tryd.f3.params.toList args.toList ds p := hA0
  rw [Tryd.params3] at hA hval
  obtain ⟨v0, vs0, d0, ds0, p0, q0, hargs, rfl, rfl, h0, r0⟩ := trodAll_cons hA
  obtain ⟨rfl, rfl, rfl⟩ := trodAll_nil r0
  obtain rfl : args = #[v0] := by cases args; simp_all
  obtain ⟨rfl, rfl⟩ := trodVars_none hV
  obtain ⟨a0, len0, cap0, rfl⟩ := okWide_slice Tryd.underlying22 (hval 0 22 v0 rfl rfl)
  have k0 := h0
  have lt0 : ∀ x ∈ p0, x.block < W.heap.size := by obtain ⟨m, hm⟩ := k0; exact DataW.trod_lt m _ _ _ hm
  obtain ⟨m0, z0, n0, s0⟩ : len0 ≤ 9223372036854775807 ∧ ∃ zs : List (Int × Int × Int), zs.length = len0 ∧ Seg W 0 W.heap.size a0 (flat3 zs) := by
    obtain ⟨fuel, hf⟩ := h0
    exact open_pieces hf
  clear hA0 hval0
  refine (walk (w := W) m0 n0 s0 (tab_of hL)).mono fun e W' ⟨he, bel⟩ => ?_
  subst he
  exact ⟨_, rfl, _, _, _, [], _, [], hW', trodAll_mk1 (shut_bool Tryd.underlying4 _), (trodAll_cons_mk (Below.trod laidOut (by kernel_rfl) (of_decide_eq_true (by kernel_rfl)) k0 bel lt0) trodAll_mk0), rfl, bel.frame _, fun h => by cases h⟩

theorem over : Rows.FnExactPiecesTextSaid :=
  OpenClaim.holds_of_wide 3 Tryd.f3 rfl rfl rfl rfl rfl rfl rfl ⟨rfl, rfl, rfl, rfl, rfl⟩ rfl rfl rfl rfl rfl (by kernel_rfl) Tryd.func3 (by kernel_rfl)
    (of_decide_eq_true (by kernel_rfl)) (by unfold Func.isWrapper; first | (rw [if_pos (by decide +kernel)]; kernel_rfl) | (rw [if_neg (by decide +kernel)]; exact ⟨rfl, rfl⟩))
    (fun os started H enc _ => lifted os started H enc)

theorem proved : Rows.FnExactPiecesTextCardSaid :=
  Claim7.holds_tied_plain_at .later [] [.data, .data, .data] true Rows.fnExactPiecesTextCard.stood.harness false
    over (fun _ h => by cases h) (by kernel_rfl) (fun _ h => by cases h) fnExactPiecesText_row_tie rfl ⟨rfl, rfl⟩ (by kernel_rfl) rfl
    (fun f fn hf hfn => by
      obtain rfl : f = 3 := Option.some.inj ((show Tryd.prog.funcNamed "loop.example/g01334/laws.FnExactPiecesText" = some 3 by kernel_rfl).symm.trans hf) |>.symm
      obtain rfl : fn = Tryd.f3 := (Option.some.inj (Tryd.func3.symm.trans hfn)).symm
      exact ⟨by kernel_rfl, fun j t ht => by
        rw [Tryd.params3] at ht
        have hm : t ∈ [22] := by simpa using Array.mem_of_getElem? ht
        have hall : ([22].all fun u => !Tryd.prog.wantsStandIn u) = true := by kernel_rfl
        exact (show Tryd.prog.wantsStandIn t = false by simpa using List.all_eq_true.1 hall t hm)⟩)
    (by kernel_rfl)
#print axioms proved
end PiecesText
end Go.Proofs.YtjpejhpilfjheabDoor

/-
  How many of one piece can be cut out, by both programs.
  Conditions: none.
-/
import Derived.Test.YtjpejhpilfjheaaBdCan
import Derived.Lib.SmallJoins
namespace Go.Proofs.Ytjpejhpilfjheaa
set_option linter.unusedVariables false
set_option linter.unusedSimpArgs false
open Go.RowKit

/-- Three cells in memory. -/
def PcAt (w : World) (g : Nat) (x y z : Int) : Prop := w.cell? ⟨g, 0, none⟩ = some (.int .i64 x) ∧ w.cell? ⟨g, 1, none⟩ = some (.int .i64 y) ∧ w.cell? ⟨g, 2, none⟩ = some (.int .i64 z)
theorem PcAt.of {w : World} {g : Nat} {x y z : Int} {T : Nat} (h : w.heap[g]? = some (.cells #[.int .i64 x, .int .i64 y, .int .i64 z] T (0, 0))) : PcAt w g x y z := ⟨cell_of h 0, cell_of h 1, cell_of h 2⟩
theorem PcAt.below {w w' : World} {g : Nat} {x y z : Int} (h : PcAt w g x y z) (hb : Below w.heap.size w w') : PcAt w' g x y z :=
  ⟨(hb.cell (cell_lt h.1)).trans h.1, (hb.cell (cell_lt h.2.1)).trans h.2.1, (hb.cell (cell_lt h.2.2)).trans h.2.2⟩
/-- One piece as a list in memory. -/
theorem one_seg {w : World} {g : Nat} {x y z : Int} {T : Nat} (h : w.heap[g]? = some (.cells #[.int .i64 x, .int .i64 y, .int .i64 z] T (0, 0))) (lo : Nat) (hlo : lo ≤ g) : Seg w lo (g + 1) (some ⟨g, 0, none⟩) (flat3 [(x, y, z)]) := by
  refine .inr ⟨g, 0, rfl, hlo, by omega, fun k hk => ?_⟩
  rw [flat3_length] at hk
  simp only [List.length_cons, List.length_nil] at hk
  rw [Nat.zero_add, cell_of h k]
  match k, hk with
  | 0, _ => rfl
  | 1, _ => rfl
  | 2, _ => rfl
/-- How many are cut out. -/
def oneN (p : Int × Int × Int) (tu : Bool) (x y : Int) : Int := if askP x y [p] = true then valB [(p.1, p.2.1, 1)] tu x.toNat y.toNat else 0
theorem oneN_no {p : Int × Int × Int} {tu : Bool} {x y : Int} (h : askP x y [p] = false) : oneN p tu x y = 0 := by rw [oneN, h]; rfl
theorem goodPc_one (p : Int × Int × Int) : goodPc [p] = pcB p := by simp [goodPc, inB]
theorem pcB_one {x y z : Int} (h : pcB (x, y, z) = true) : pcB (x, y, 1) = true := by
  have h1 := pcB_true.1 h
  exact pcB_true.2 ⟨h1.1, by simp⟩

set_option maxRecDepth 100000 in
set_option maxHeartbeats 1000000 in
theorem toPc_any (x y z : Int) (w : World) :
    Calls Try.prog 11 #[.agg #[.int .i64 x, .int .i64 y, .int .i64 z]] w fun e w' => e = .returned (.agg #[.int .i64 x, .int .i64 y, .int .i64 z]) ∧ Below w.heap.size w w' := by
  go_enter Try.func11, Try.ntmps11
  go_wp2
  refine bodyPost_ret (v := .agg #[.int .i64 x, .int .i64 y, .int .i64 z]) (by simp [results, Try.results11, go_sem]) rfl ⟨rfl, ?_⟩
  exact (((Below.refl _ _).alloc (Nat.le_refl _) _).alloc (by simp) _).alloc (by simp; omega) _

set_option maxRecDepth 100000 in
set_option maxHeartbeats 2000000 in
theorem spec_MostOfOne (x y px py pz : Int) (tu : Bool) (w : World) (q : Bool) (hq : askP x y [(px, py, pz)] = q) (v : Int) (hv : oneN (px, py, pz) tu x y = v) :
    Calls Try.prog 10 #[.int .i64 x, .int .i64 y, .agg #[.int .i64 px, .int .i64 py, .int .i64 pz], .bool tu] w (RetI v q w) := by
  obtain ⟨W1, hW1⟩ : ∃ W1, (w.alloc (.cells #[.int .i64 px, .int .i64 py, .int .i64 pz] 26)).alloc (.cells #[.int .i64 px, .int .i64 py, .int .i64 pz] 26) = W1 := ⟨_, rfl⟩
  have hb1 : Below w.heap.size w W1 := by rw [← hW1]; exact ((Below.refl _ _).alloc (Nat.le_refl _) _).alloc (by simp) _
  have hz1 : W1.heap.size = w.heap.size + 2 := by rw [← hW1]; simp
  have k0 : W1.heap[w.heap.size]? = some (.cells #[.int .i64 px, .int .i64 py, .int .i64 pz] 26 (0, 0)) := by rw [← hW1]; exact (alloc_old _ (by simp) _).trans (new_at _ _ rfl)
  have k1 : W1.heap[w.heap.size + 1]? = some (.cells #[.int .i64 px, .int .i64 py, .int .i64 pz] 26 (0, 0)) := by rw [← hW1]; exact new_at _ _ (by simp)
  have HA := Lib.hid (bdAsked_any x y (some ⟨w.heap.size + 1, 0, none⟩) 1 1 [(px, py, pz)] 0 (w.heap.size + 2) W1 rfl (by omega) ((one_seg k1 0 (Nat.zero_le _)).more (Nat.le_refl _) (by omega)) (by omega) q hq)
  have HK0 := Lib.hid k0
  have HB1 := Lib.hid hb1
  have HW1 := Lib.hid hW1
  have hz1' : w.heap.size + 2 ≤ W1.heap.size := by omega
  clear hb1 hz1 k0 k1 hW1
  cases q
  · obtain rfl : v = 0 := by rw [← hv]; exact oneN_no hq
    clear hv hq
    go_enter Try.func10, Try.ntmps10
    go_wp2_with fail
    rw [HW1.out]
    refine HA.out.mono ?_
    rintro e w1 ⟨rfl, hb⟩
    have HB2 := Lib.hid (HB1.out.trans (hb.mono (by omega)))
    clear hb
    go_wp2
    go_ret2
    exact ⟨rfl, HB2.out⟩
  · obtain ⟨h1, h2⟩ := askP_true.1 hq
    obtain ⟨a, b, rfl, rfl, ⟨a1, a2⟩, b1, b2⟩ := bdB_nat h1
    have HVS := Lib.hid (goodPc_vals (ps := [(px, py, 1)]) (by rw [goodPc_one]; exact pcB_one (by rw [goodPc_one] at h2; exact h2)))
    have HV := Lib.hid (show valB [(px, py, 1)] tu a b = v by rw [← hv, oneN, if_pos hq]; rfl)
    clear hv hq h1 h2
    go_enter Try.func10, Try.ntmps10
    go_wp2_with fail
    rw [HW1.out]
    refine HA.out.mono ?_
    rintro e w1 ⟨rfl, hb⟩
    have HB2 := Lib.hid (HB1.out.trans (hb.mono (by omega)))
    have hz2 := hb.size
    have m0 := (hb.block _ (by omega)).trans HK0.out
    have j0 := cell_of m0 0
    have j1 := cell_of m0 1
    have j2 := cell_of m0 2
    have hbu : ∀ W : World, (Instr.build 26 #[(0, .int .i64 px), (1, .int .i64 py), (2, .int .i64 1)]).run Try.prog W = .ok (.agg #[.int .i64 px, .int .i64 py, .int .i64 1]) W := fun W => run_build W 26 _ _ (by kernel_rfl)
    obtain ⟨W2, hW2⟩ : ∃ W2, w1.alloc (.cells #[.int .i64 px, .int .i64 py, .int .i64 1] 26) = W2 := ⟨_, rfl⟩
    have hzw : W2.heap.size = w1.heap.size + 1 := by rw [← hW2]; simp
    have hb2 : Below w.heap.size w W2 := by rw [← hW2]; exact HB2.out.alloc HB2.out.size _
    have k2 : W2.heap[w1.heap.size]? = some (.cells #[.int .i64 px, .int .i64 py, .int .i64 1] 26 (0, 0)) := by rw [← hW2]; exact new_at _ _ rfl
    have HS2 := Lib.hid (one_seg k2 0 (Nat.zero_le _))
    have HB3 := Lib.hid hb2
    have HW2 := Lib.hid hW2
    have hzw' : w1.heap.size + 1 ≤ W2.heap.size := by omega
    clear hb m0 hzw hb2 k2 hW2
    go_wp2_with fail
    rw [HW2.out]
    clear j0 j1 j2
    refine (bdValues_any a b (some ⟨w1.heap.size, 0, none⟩) 1 1 [(px, py, 1)] 0 (w1.heap.size + 1) tu W2 a1 a2 b1 b2 (Lib.hid rfl) (by omega) HVS HS2 (by omega)).mono ?_
    rintro e w2 ⟨F, rfl, ht, hb⟩
    have hi0 : (a : Int) < (a : Int) + 1 := by omega
    have hi1 : (b : Int) < (b : Int) + 1 := by omega
    obtain ⟨g, e1, e2⟩ := ht.read (a := a) (b := b) a1 (Nat.le_refl _) b1 (Nat.le_refl _) (.inr (Nat.le_refl _))
    rw [HV.out] at e2
    have HB4 := Lib.hid (HB3.out.trans (hb.mono (by omega)))
    clear ht hb
    go_wp2
    go_ret2
    exact ⟨rfl, HB4.out⟩

set_option maxRecDepth 100000 in
set_option maxHeartbeats 2000000 in
theorem impl_MostOfOne (x y px py pz : Int) (tu : Bool) (w : World) (q : Bool) (hq : askP x y [(px, py, pz)] = q) (v : Int) (hv : oneN (px, py, pz) tu x y = v) :
    Calls Try.prog 12 #[.int .i64 x, .int .i64 y, .agg #[.int .i64 px, .int .i64 py, .int .i64 pz], .bool tu] w (RetI v q w) := by
  obtain ⟨W1, hW1⟩ : ∃ W1, w.alloc (.cells #[.int .i64 px, .int .i64 py, .int .i64 pz] 26) = W1 := ⟨_, rfl⟩
  have hb1 : Below w.heap.size w W1 := by rw [← hW1]; exact (Below.refl _ _).alloc (Nat.le_refl _) _
  have hz1 : w.heap.size + 1 ≤ W1.heap.size := by rw [← hW1]; simp
  have k0 : W1.heap[w.heap.size]? = some (.cells #[.int .i64 px, .int .i64 py, .int .i64 pz] 26 (0, 0)) := by rw [← hW1]; exact new_at _ _ rfl
  have j0 := cell_of k0 0
  have j1 := cell_of k0 1
  have j2 := cell_of k0 2
  rw [← hW1] at j0 j1 j2
  have HK0 := Lib.hid k0
  have HB1 := Lib.hid hb1
  have HW1 := Lib.hid hW1
  clear hb1 k0 hW1
  cases hp : pcB (px, py, pz)
  · obtain rfl : q = false := by rw [← hq, askP, goodPc_one, hp, Bool.and_false]
    obtain rfl : v = 0 := by rw [← hv]; exact oneN_no hq
    clear hv hq
    go_enter Try.func12, Try.ntmps12
    go_wp2_with fail
    rw [HW1.out]
    refine (isPiece_any px py pz W1 false hp).mono ?_
    rintro e w1 ⟨rfl, hb⟩
    have HB2 := Lib.hid (HB1.out.trans (hb.mono (by omega)))
    clear hb j0 j1 j2
    go_wp2
    go_ret2
    exact ⟨rfl, HB2.out⟩
  · have HQ := Lib.hid (show askP x y [(px, py, 1)] = q by rw [← hq, askP, askP, goodPc_one, goodPc_one, hp, pcB_one hp])
    have HV := Lib.hid (show bpN [(px, py, 1)] tu x y = v by
      rw [← hv, oneN, bpN, HQ.out, hq])
    have HP := Lib.hid hp
    clear hv hq hp
    go_enter Try.func12, Try.ntmps12
    go_wp2_with fail
    rw [HW1.out]
    refine (isPiece_any px py pz W1 true HP.out).mono ?_
    rintro e w1 ⟨rfl, hb⟩
    have HB2 := Lib.hid (HB1.out.trans (hb.mono (by omega)))
    have hz2 := hb.size
    have m0 := (hb.block _ (by omega)).trans HK0.out
    clear hb j0 j1 j2
    have j0 := cell_of m0 0
    have j1 := cell_of m0 1
    have j2 := cell_of m0 2
    clear m0
    go_wp2_with fail
    refine (withValue_any px py pz 1 w1).mono ?_
    rintro e w2 ⟨rfl, hb⟩
    have HB3 := Lib.hid (HB2.out.trans (hb.mono (by omega)))
    have hz3 := hb.size
    obtain ⟨W2, hW2⟩ : ∃ W2, w2.alloc (.cells #[.int .i64 px, .int .i64 py, .int .i64 1] 26) = W2 := ⟨_, rfl⟩
    have hzw : W2.heap.size = w2.heap.size + 1 := by rw [← hW2]; simp
    have hb2 : Below w.heap.size w W2 := by rw [← hW2]; exact HB3.out.alloc HB3.out.size _
    have k2 : W2.heap[w2.heap.size]? = some (.cells #[.int .i64 px, .int .i64 py, .int .i64 1] 26 (0, 0)) := by rw [← hW2]; exact new_at _ _ rfl
    have HS2 := Lib.hid (one_seg k2 0 (Nat.zero_le _))
    have HB4 := Lib.hid hb2
    have HW2 := Lib.hid hW2
    have hzw' : w2.heap.size + 1 ≤ W2.heap.size := by omega
    clear hb hzw hb2 k2 hW2 j0 j1 j2
    go_wp2_with fail
    rw [HW2.out]
    refine (impl_BestValue x y (some ⟨w2.heap.size, 0, none⟩) 1 1 [(px, py, 1)] 0 (w2.heap.size + 1) tu W2 rfl (by omega) HS2.out (by omega) q HQ.out v HV.out).mono ?_
    rintro e w3 ⟨rfl, hb⟩
    have HB5 := Lib.hid (HB4.out.trans (hb.mono (by omega)))
    clear hb
    go_wp2
    go_ret2
    exact ⟨rfl, HB5.out⟩
end Go.Proofs.Ytjpejhpilfjheaa

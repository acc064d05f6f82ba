/-
  Both programs' greatest squares cut off.
  Conditions: none.
-/
import Derived.Test.YtbaofgbkcolmmaaPcGood
import Derived.Test.YtbaofgbkcolmmaaBdE
import Derived.Test.YtbaofgbkcolmmaaSomeN
import Derived.Test.YtbaofgbkcolmmaaAppend
import Derived.Test.YtbaofgbkcolmmaaL1Own
namespace Go.Proofs.Ytbaofgbkcolmmaa
set_option linter.unusedVariables false
open Go.RowKit

/-- How much of a board is left, read in memory. -/
def meas (B0 : Nat) (w : World) : Nat := match w.heap[B0]? with
  | some (.cells cs _ _) => match cs[0]?, cs[1]? with
    | some x, some y => (intOf x).toNat + (intOf y).toNat
    | _, _ => 0
  | _ => 0
theorem meas_of {B0 T : Nat} {w : World} {a b : Nat} (h : w.heap[B0]? = some (.cells #[.int .i64 (a : Int), .int .i64 (b : Int)] T (0, 0))) : meas B0 w = a + b := by
  unfold meas
  rw [h]
  simp [intOf]

/-- The squares of a board, if it is one. -/
def eucT (x y : Int) : List Int := eucL x.toNat y.toNat
theorem eucT_nat (a b : Nat) : eucT (a : Int) (b : Int) = eucL a b := rfl
theorem eucT_len {x y : Int} (h : bdB x y = true) : (eucT x y).length ≤ 48 := by
  have h1 := bdB_true.1 h
  have := eucL_len _ x.toNat y.toNat (Nat.le_refl _)
  unfold eucT
  omega

set_option maxRecDepth 100000 in
set_option maxHeartbeats 1000000 in
theorem spec_EuclidSquares (x y : Int) (w : World) (q : Bool) (hq : bdB x y = q) :
    Calls Try.prog 22 #[.int .i64 x, .int .i64 y] w (RetL q (someN q (eucT x y)) w) := by
  cases q
  · go_enter Try.func22, Try.ntmps22
    go_wp2_with fail
    refine (bdGood_p x y _ false hq).mono ?_
    rintro e w1 ⟨rfl, rfl⟩
    go_wp2
    go_ret2
    exact ⟨none, 0, 0, rfl, rfl, Own.nil_, Below.refl _ _⟩
  · obtain ⟨a0, b0, rfl, rfl, ⟨a1, a2⟩, b1, b2⟩ := bdB_nat hq
    obtain ⟨i0, hi0, hz0, hz1, hz2⟩ := info_parts int_info
    have hlen := eucL_len _ a0 b0 (Nat.le_refl _)
    rw [eucT_nat]
    obtain ⟨all, hall⟩ : ∃ all, eucL a0 b0 = all := ⟨_, rfl⟩
    rw [hall] at hlen ⊢
    have HALL := Lib.hid hall
    have HQ := Lib.hid hq
    clear hq hall
    go_enter Try.func22, Try.ntmps22
    go_wp2_with fail
    refine (bdGood_p _ _ _ true HQ.out).mono ?_
    rintro e w1 ⟨rfl, rfl⟩
    go_wp2
    go_loopw [0, 1, 6] (fun p q v wr => ∃ (a b : Nat) (pre : List Int), a ≤ 24 ∧ b ≤ 24 ∧ p = .int .i64 (a : Int) ∧ q = .int .i64 (b : Int) ∧ pre ++ eucL a b = all ∧ Below w.heap.size w wr ∧ wr.ownsRow w.heap.size 3 1 v pre.length (pre.map (Value.int .i64))) (fun p q _ _ => (intOf p).toNat + (intOf q).toNat)
    case atStart => exact ⟨a0, b0, [], a2, b2, rfl, rfl, HALL.out, Below.refl _ _, World.ownsRow_nil _ _ _ _⟩
    case round =>
      obtain ⟨a, b, pre, ha, hb, rfl, rfl, hpre, hbw, hown⟩ := hrel
      have hsz := hbw.size
      have HB := Lib.hid hbw
      obtain ⟨Bv, dv, rfl⟩ := ownsRow_form hown
      obtain ⟨m, hm⟩ : ∃ m, pre.length = m := ⟨_, rfl⟩
      have hm48 : m ≤ 48 := by rw [← hpre, List.length_append] at hlen; omega
      rw [hm] at hown ⊢
      have HM := Lib.hid hm
      have HPRE := Lib.hid hpre
      have HOW := Lib.hid hown
      have HLT := Lib.hid hown.lt
      clear hm hpre hown
      by_cases hz : a = 0 ∨ b = 0
      · have HE := Lib.hid (show pre = all by rw [← HPRE.out, eucL_none hz, List.append_nil])
        have hd1 : decide (0 < (a : Int)) = decide (0 < a) := by simp
        by_cases hza : a = 0
        · subst hza
          go_wp2
          go_ret2
          exact ⟨Bv, m, dv, rfl, by rw [← HE.out]; exact HM.out, by rw [← HE.out]; exact (ownsRow_own (ys := pre) (by rw [HM.out]; exact HOW.out)).2, HB.out⟩
        · have hzb : b = 0 := by omega
          subst hzb
          have ha0 : 0 < a := by omega
          have hda : decide (0 < (a : Int)) = true := by simpa using ha0
          go_wp2
          go_ret2
          exact ⟨Bv, m, dv, rfl, by rw [← HE.out]; exact HM.out, by rw [← HE.out]; exact (ownsRow_own (ys := pre) (by rw [HM.out]; exact HOW.out)).2, HB.out⟩
      · have ha0 : 0 < a := by omega
        have hb0 : 0 < b := by omega
        have hda : decide (0 < (a : Int)) = true := by simpa using ha0
        have hdb : decide (0 < (b : Int)) = true := by simpa using hb0
        by_cases hle : b ≤ a
        · have hdl : decide ((b : Int) ≤ (a : Int)) = true := by simpa using hle
          have hwd : IntKind.i64.wrap ((a : Int) - (b : Int)) = ((a - b : Nat) : Int) := by rw [IntKind.wrap_i64]; omega
          have HNX := Lib.hid (show (pre ++ [(b : Int)]) ++ eucL (a - b) b = all by rw [← HPRE.out, eucL_wide ha0 hb0 hle, List.append_assoc]; rfl)
          have HOW2 := Lib.hid (HOW.out.alloc (.cells #[.int .i64 (b : Int)] 3))
          go_wp2_with (at_builtin; refine wpList_append_seg _ rfl _ _ 29 rfl w.heap.size 3 i0 Try.underlying29 hi0 hz0 hz1 hz2 _ m _ rfl HOW2.out _ 1 1 [(b : Int)] _ _ rfl rfl (seg_one wr _ 3) (by omega) (by simp; omega) ?_; intro v3 w3 hown3 hgr3; obtain ⟨A3, c3, rfl⟩ := ownsRow_form hown3; have HO3 := Lib.hid (show w3.ownsRow w.heap.size 3 1 (.slice A3 (m + 1) c3) (m + 1) ((pre ++ [(b : Int)]).map (Value.int .i64)) by rw [List.map_append]; exact hown3); have HB3 := Lib.hid ((HB.out.alloc hsz _).grown hgr3 (by simp; omega) (fun g' hg' => (HLT.out g' hg').1)); clear hown3 hgr3)
          go_wp2
          go_roundw
          case rel => exact ⟨a - b, b, pre ++ [(b : Int)], by omega, hb, rfl, rfl, HNX.out, HB3.out, by rw [List.length_append, HM.out]; exact HO3.out⟩
          case measure => simp [intOf]; omega
        · have hdl : decide ((b : Int) ≤ (a : Int)) = false := by simpa using hle
          have hwd : IntKind.i64.wrap ((b : Int) - (a : Int)) = ((b - a : Nat) : Int) := by rw [IntKind.wrap_i64]; omega
          have HNX := Lib.hid (show (pre ++ [(a : Int)]) ++ eucL a (b - a) = all by rw [← HPRE.out, eucL_high ha0 hb0 hle, List.append_assoc]; rfl)
          have HOW2 := Lib.hid (HOW.out.alloc (.cells #[.int .i64 (a : Int)] 3))
          go_wp2_with (at_builtin; refine wpList_append_seg _ rfl _ _ 29 rfl w.heap.size 3 i0 Try.underlying29 hi0 hz0 hz1 hz2 _ m _ rfl HOW2.out _ 1 1 [(a : Int)] _ _ rfl rfl (seg_one wr _ 3) (by omega) (by simp; omega) ?_; intro v3 w3 hown3 hgr3; obtain ⟨A3, c3, rfl⟩ := ownsRow_form hown3; have HO3 := Lib.hid (show w3.ownsRow w.heap.size 3 1 (.slice A3 (m + 1) c3) (m + 1) ((pre ++ [(a : Int)]).map (Value.int .i64)) by rw [List.map_append]; exact hown3); have HB3 := Lib.hid ((HB.out.alloc hsz _).grown hgr3 (by simp; omega) (fun g' hg' => (HLT.out g' hg').1)); clear hown3 hgr3)
          go_wp2
          go_roundw
          case rel => exact ⟨a, b - a, pre ++ [(a : Int)], ha, by omega, rfl, rfl, HNX.out, HB3.out, by rw [List.length_append, HM.out]; exact HO3.out⟩
          case measure => simp [intOf]; omega

set_option maxRecDepth 100000 in
set_option maxHeartbeats 1000000 in
theorem greatest_any (a0 b0 : Nat) (w : World) (a1 : 1 ≤ a0) (a2 : a0 ≤ 24) (b1 : 1 ≤ b0) (b2 : b0 ≤ 24) :
    Calls Try.prog 59 #[.agg #[.int .i64 (a0 : Int), .int .i64 (b0 : Int)]] w fun e w' => ∃ A n c, e = .returned (.slice A n c) ∧ (eucL a0 b0).length = n ∧ Own w' w.heap.size w'.heap.size A (eucL a0 b0) ∧ Below w.heap.size w w' := by
  obtain ⟨i0, hi0, hz0, hz1, hz2⟩ := info_parts int_info
  have hlen := eucL_len _ a0 b0 (Nat.le_refl _)
  obtain ⟨all, hall⟩ : ∃ all, eucL a0 b0 = all := ⟨_, rfl⟩
  rw [hall] at hlen ⊢
  have HALL := Lib.hid hall
  clear hall
  have HBX := Lib.hid (new_at w (.cells #[.int .i64 (a0 : Int), .int .i64 (b0 : Int)] 58) rfl)
  have HB0 := Lib.hid ((Below.refl w.heap.size w).alloc (Nat.le_refl _) (.cells #[.int .i64 (a0 : Int), .int .i64 (b0 : Int)] 58))
  go_enter Try.func59, Try.ntmps59
  go_wp2
  go_loopw [3, 4] (fun v _ wr => ∃ (a b : Nat) (pre : List Int), a ≤ 24 ∧ b ≤ 24 ∧ wr.heap[w.heap.size]? = some (.cells #[.int .i64 (a : Int), .int .i64 (b : Int)] 58 (0, 0)) ∧ pre ++ eucL a b = all ∧ Below w.heap.size w wr ∧ wr.ownsRow (w.heap.size + 1) 3 1 v pre.length (pre.map (Value.int .i64))) (fun _ _ wr => meas w.heap.size wr)
  case atStart => exact ⟨a0, b0, [], a2, b2, HBX.out, HALL.out, HB0.out, World.ownsRow_nil _ _ _ _⟩
  case round =>
    obtain ⟨a, b, pre, ha, hb, hbx, hpre, hbw, hown⟩ := hrel
    have hsz := hbw.size
    have HB := Lib.hid hbw
    have HX := Lib.hid hbx
    obtain ⟨Bv, dv, rfl⟩ := ownsRow_form hown
    obtain ⟨m, hm⟩ : ∃ m, pre.length = m := ⟨_, rfl⟩
    have hm48 : m ≤ 48 := by rw [← hpre, List.length_append] at hlen; omega
    rw [hm] at hown ⊢
    have HM := Lib.hid hm
    have HPRE := Lib.hid hpre
    have HOW := Lib.hid hown
    have c0 := cell_of hbx 0
    have c1 := cell_of hbx 1
    have hms : meas w.heap.size wr = a + b := meas_of hbx
    have HMS := Lib.hid hms
    clear hm hpre hown hbx hms
    go_wp2_with fail
    refine (area_any a b ha hb _).mono ?_
    rintro e w2 ⟨rfl, hb2'⟩
    clear c0 c1
    have HX2 := Lib.hid ((hb2'.block _ (heap_lt HX.out)).trans HX.out)
    have HW2 := Lib.hid (HB.out.trans (hb2'.mono hsz))
    have HR2 := Lib.hid (row_below HOW.out hb2')
    have HLT := Lib.hid HR2.out.lt
    have hsz2 := HW2.out.size
    have hlx := heap_lt HX2.out
    by_cases hz : a = 0 ∨ b = 0
    · have hpz : a * b = 0 := by rcases hz with rfl | rfl <;> simp
      have HE := Lib.hid (show pre = all by rw [← HPRE.out, eucL_none hz, List.append_nil])
      rw [hpz]
      go_wp2
      go_ret
      exact ⟨Bv, m, dv, rfl, by rw [← HE.out]; exact HM.out, by rw [← HE.out]; exact (ownsRow_own (ys := pre) (by rw [HM.out]; exact HR2.out)).2.more (by omega) (Nat.le_refl _), HW2.out⟩
    · have ha0 : 0 < a := by omega
      have hb0 : 0 < b := by omega
      obtain ⟨ab, hab⟩ : ∃ ab, a * b = ab := ⟨_, rfl⟩
      have hab0 : 0 < ab := by rw [← hab]; exact Nat.mul_pos ha0 hb0
      have hdp : decide (0 < (ab : Int)) = true := by simpa using hab0
      rw [hab]
      clear hab
      have d0 := cell_of HX2.out 0
      have d1 := cell_of HX2.out 1
      rcases Nat.lt_trichotomy a b with hlt | hlt | hlt
      · skip
        have h1 : (a : Int) ≤ (b : Int) := by omega
        have h2 : ¬ (b : Int) ≤ (a : Int) := by omega
        have h3 : ¬ (b : Int) < (a : Int) := by omega
        have hd2 : decide ((b : Int) ≤ (a : Int)) = false := decide_eq_false h2
        have hwd : IntKind.i64.wrap ((b : Int) - (a : Int)) = ((b - a : Nat) : Int) := by rw [IntKind.wrap_i64]; omega
        have HNX := Lib.hid (show (pre ++ [(a : Int)]) ++ eucL a (b - a) = all by rw [← HPRE.out, eucL_high ha0 hb0 (by omega), List.append_assoc]; rfl)
        have HOW2 := Lib.hid (HR2.out.alloc (.cells #[.int .i64 (a : Int)] 3))
        go_wp2_with (at_builtin; refine wpList_append_seg _ rfl _ _ 29 rfl (w.heap.size + 1) 3 i0 Try.underlying29 hi0 hz0 hz1 hz2 _ m _ rfl HOW2.out _ 1 1 [(a : Int)] _ _ rfl rfl (seg_one w2 _ 3) (by omega) (by simp; omega) ?_; intro v3 w3 hown3 hgr3; obtain ⟨A3, c3, rfl⟩ := ownsRow_form hown3; have HO3 := Lib.hid (show w3.ownsRow (w.heap.size + 1) 3 1 (.slice A3 (m + 1) c3) (m + 1) ((pre ++ [(a : Int)]).map (Value.int .i64)) by rw [List.map_append]; exact hown3); have HB3 := Lib.hid ((HW2.out.alloc hsz2 (.cells #[.int .i64 (a : Int)] 3)).grown hgr3 (by simp; omega) (fun g' hg' => by have := (HLT.out g' hg').1; omega)); have hx3 := (hgr3.block w.heap.size (by simp; omega) (fun e => by have := (HLT.out _ e.symm).1; omega)).trans ((alloc_old w2 hlx (.cells #[.int .i64 (a : Int)] 3)).trans HX2.out); have e0 := cell_of hx3 0; have e1 := cell_of hx3 1; have f0 := frozen_of hx3 0; have f1 := frozen_of hx3 1; have HX3 := Lib.hid hx3; clear hown3 hgr3 hx3 d0 d1)
        clear e0 e1 f0 f1
        go_roundw
        case rel => exact ⟨a, (b - a), pre ++ [(a : Int)], by omega, by omega, set_self HX3.out 1 (.int .i64 ((b - a : Nat) : Int)), HNX.out, HB3.out.setCell (p := ⟨w.heap.size, 1, none⟩) (Nat.le_refl _) _, by rw [List.length_append, HM.out]; exact HO3.out.kept (grown_set (World.grownBy.refl w3 (some w.heap.size)) (p := ⟨w.heap.size, 1, none⟩) rfl _) (.inr (fun e => by have := (HO3.out.lt _ e).1; omega))⟩
        case measure => rw [HMS.out, meas_of (set_self HX3.out 1 (.int .i64 ((b - a : Nat) : Int)))]; omega
      · obtain rfl : a = b := hlt
        have HNX := Lib.hid (show (pre ++ [(a : Int)]) ++ eucL 0 a = all by rw [← HPRE.out, eucL_wide ha0 hb0 (by omega), Nat.sub_self, List.append_assoc]; rfl)
        have HOW2 := Lib.hid (HR2.out.alloc (.cells #[.int .i64 (a : Int)] 3))
        go_wp2_with (at_builtin; refine wpList_append_seg _ rfl _ _ 29 rfl (w.heap.size + 1) 3 i0 Try.underlying29 hi0 hz0 hz1 hz2 _ m _ rfl HOW2.out _ 1 1 [(a : Int)] _ _ rfl rfl (seg_one w2 _ 3) (by omega) (by simp; omega) ?_; intro v3 w3 hown3 hgr3; obtain ⟨A3, c3, rfl⟩ := ownsRow_form hown3; have HO3 := Lib.hid (show w3.ownsRow (w.heap.size + 1) 3 1 (.slice A3 (m + 1) c3) (m + 1) ((pre ++ [(a : Int)]).map (Value.int .i64)) by rw [List.map_append]; exact hown3); have HB3 := Lib.hid ((HW2.out.alloc hsz2 (.cells #[.int .i64 (a : Int)] 3)).grown hgr3 (by simp; omega) (fun g' hg' => by have := (HLT.out g' hg').1; omega)); have hx3 := (hgr3.block w.heap.size (by simp; omega) (fun e => by have := (HLT.out _ e.symm).1; omega)).trans ((alloc_old w2 hlx (.cells #[.int .i64 (a : Int)] 3)).trans HX2.out); have e0 := cell_of hx3 0; have e1 := cell_of hx3 1; have f0 := frozen_of hx3 0; have f1 := frozen_of hx3 1; have HX3 := Lib.hid hx3; clear hown3 hgr3 hx3 d0 d1)
        clear e0 e1 f0 f1
        go_roundw
        case rel => exact ⟨0, a, pre ++ [(a : Int)], by omega, by omega, set_self HX3.out 0 (.int .i64 0), HNX.out, HB3.out.setCell (p := ⟨w.heap.size, 0, none⟩) (Nat.le_refl _) _, by rw [List.length_append, HM.out]; exact HO3.out.kept (grown_set (World.grownBy.refl w3 (some w.heap.size)) (p := ⟨w.heap.size, 0, none⟩) rfl _) (.inr (fun e => by have := (HO3.out.lt _ e).1; omega))⟩
        case measure => rw [HMS.out, meas_of (a := 0) (b := a) (set_self HX3.out 0 (.int .i64 0))]; omega
      · skip
        have h1 : (b : Int) ≤ (a : Int) := by omega
        have h2 : ¬ (a : Int) ≤ (b : Int) := by omega
        have h3 : ¬ (a : Int) < (b : Int) := by omega
        have hd2 : decide ((b : Int) ≤ (a : Int)) = true := decide_eq_true h1
        have hwd : IntKind.i64.wrap ((a : Int) - (b : Int)) = ((a - b : Nat) : Int) := by rw [IntKind.wrap_i64]; omega
        have HNX := Lib.hid (show (pre ++ [(b : Int)]) ++ eucL (a - b) b = all by rw [← HPRE.out, eucL_wide ha0 hb0 (by omega), List.append_assoc]; rfl)
        have HOW2 := Lib.hid (HR2.out.alloc (.cells #[.int .i64 (b : Int)] 3))
        go_wp2_with (at_builtin; refine wpList_append_seg _ rfl _ _ 29 rfl (w.heap.size + 1) 3 i0 Try.underlying29 hi0 hz0 hz1 hz2 _ m _ rfl HOW2.out _ 1 1 [(b : Int)] _ _ rfl rfl (seg_one w2 _ 3) (by omega) (by simp; omega) ?_; intro v3 w3 hown3 hgr3; obtain ⟨A3, c3, rfl⟩ := ownsRow_form hown3; have HO3 := Lib.hid (show w3.ownsRow (w.heap.size + 1) 3 1 (.slice A3 (m + 1) c3) (m + 1) ((pre ++ [(b : Int)]).map (Value.int .i64)) by rw [List.map_append]; exact hown3); have HB3 := Lib.hid ((HW2.out.alloc hsz2 (.cells #[.int .i64 (b : Int)] 3)).grown hgr3 (by simp; omega) (fun g' hg' => by have := (HLT.out g' hg').1; omega)); have hx3 := (hgr3.block w.heap.size (by simp; omega) (fun e => by have := (HLT.out _ e.symm).1; omega)).trans ((alloc_old w2 hlx (.cells #[.int .i64 (b : Int)] 3)).trans HX2.out); have e0 := cell_of hx3 0; have e1 := cell_of hx3 1; have f0 := frozen_of hx3 0; have f1 := frozen_of hx3 1; have HX3 := Lib.hid hx3; clear hown3 hgr3 hx3 d0 d1)
        clear e0 e1 f0 f1
        go_roundw
        case rel => exact ⟨(a - b), b, pre ++ [(b : Int)], by omega, by omega, set_self HX3.out 0 (.int .i64 ((a - b : Nat) : Int)), HNX.out, HB3.out.setCell (p := ⟨w.heap.size, 0, none⟩) (Nat.le_refl _) _, by rw [List.length_append, HM.out]; exact HO3.out.kept (grown_set (World.grownBy.refl w3 (some w.heap.size)) (p := ⟨w.heap.size, 0, none⟩) rfl _) (.inr (fun e => by have := (HO3.out.lt _ e).1; omega))⟩
        case measure => rw [HMS.out, meas_of (set_self HX3.out 0 (.int .i64 ((a - b : Nat) : Int)))]; omega

set_option maxHeartbeats 1000000 in
theorem impl_EuclidSquares (x y : Int) (w : World) (q : Bool) (hq : bdB x y = q) :
    Calls Try.prog 23 #[.int .i64 x, .int .i64 y] w (RetL q (someN q (eucT x y)) w) := by
  have hbd : ∀ (W : World) (x y : Int), (Instr.build 58 #[(0, .int .i64 x), (1, .int .i64 y)]).run Try.prog W = .ok (.agg #[.int .i64 x, .int .i64 y]) W := fun W x y => run_build W 58 _ _ (by kernel_rfl)
  have HB0 := Lib.hid ((Below.refl w.heap.size w).alloc (Nat.le_refl _) (.cells #[.int .i64 x, .int .i64 y] 58))
  have HX0 := Lib.hid (new_at w (.cells #[.int .i64 x, .int .i64 y] 58) rfl)
  cases q
  · go_enter Try.func23, Try.ntmps23
    go_wp2_with fail
    refine (isBoard_any x y _ false hq).mono ?_
    rintro e w1 ⟨rfl, hb1⟩
    go_wp2
    go_ret2
    exact ⟨none, 0, 0, rfl, rfl, Own.nil_, HB0.out.trans (hb1.mono (by simp))⟩
  · obtain ⟨a, b, rfl, rfl, ⟨a1, a2⟩, b1, b2⟩ := bdB_nat hq
    have HQ := Lib.hid hq
    rw [eucT_nat]
    clear hq
    go_enter Try.func23, Try.ntmps23
    go_wp2_with fail
    refine (isBoard_any _ _ _ true HQ.out).mono ?_
    rintro e w1 ⟨rfl, hb1⟩
    have hx1 := (hb1.block w.heap.size (by simp)).trans HX0.out
    have HB1 := Lib.hid (HB0.out.trans (hb1.mono (by simp)))
    have hz1 := HB1.out.size
    clear hb1 hbd
    have c0 := cell_of hx1 0
    have c1 := cell_of hx1 1
    go_wp2_with fail
    refine (greatest_any a b _ a1 a2 b1 b2).mono ?_
    rintro e w2 ⟨A, n, c, rfl, hl, ho, hb2'⟩
    clear c0 c1
    go_wp2
    go_ret2
    exact ⟨A, n, c, rfl, hl, ho.more hz1 (Nat.le_refl _), HB1.out.trans (hb2'.mono hz1)⟩
end Go.Proofs.Ytbaofgbkcolmmaa

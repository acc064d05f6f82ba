/-
  The written program's count of cuttings.
  Conditions: none.
-/
import Derived.Test.YtbaofgbkcolmmaaBdWS
import Derived.Test.YtbaofgbkcolmmaaBdT3
import Derived.Test.YtbaofgbkcolmmaaBdW
namespace Go.Proofs.Ytbaofgbkcolmmaa
set_option linter.unusedVariables false
open Go.RowKit

theorem ways_all (A H : Nat) (w : World) (hA1 : 1 ≤ A) (hA : A ≤ 24) (hH1 : 1 ≤ H) (hH : H ≤ 24) :
    Calls Try.prog 66 #[.agg #[.int .i64 (A : Int), .int .i64 (H : Int)]] w fun e w' => ∃ X, e = .returned (.func (.func 102) #[] #[.pointer (some ⟨X, 0, none⟩)]) ∧
      Worth w' w'.heap.size X wayB (fun a b => 1 ≤ a ∧ 1 ≤ b ∧ a ≤ A ∧ b ≤ H) ∧ Below w.heap.size w w' := by
  have hb0 := (Below.refl w.heap.size w).alloc (Nat.le_refl _) (.cells #[.int .i64 (A : Int), .int .i64 (H : Int)] 58)
  have HB0 := Lib.hid hb0
  clear hb0
  go_enter Try.func66, Try.ntmps66
  go_wp2_with fail
  refine (valueW A H wayB _ hA1 hA hH1 hH (fun w' B1 X a b hb a1 aA b1 bH hW hB => ?_)).mono ?_
  · exact ways1_any a b B1 X wayB w' a1 (by omega) b1 (by omega) hW hB (fun a' b' ha' hb' h => wayB_ok _ a' b' (Nat.le_refl _) ha' hb') _ (wayB_eq a1 b1).symm
  · rintro e w1 ⟨X, rfl, hW, hb1⟩
    go_wp2
    go_ret
    exact ⟨X, rfl, hW, HB0.out.trans (hb1.mono (by simp))⟩

set_option maxRecDepth 100000 in
set_option maxHeartbeats 1000000 in
theorem impl_CountCuttings (x y : Int) (w : World) (q : Bool) (hq : wayQ x y = q) (v : Int) (hv : wayN x y = v) :
    Calls Try.prog 38 #[.int .i64 x, .int .i64 y] w (RetI v q w) := by
  have hbd := built_board
  have hb0 := (Below.refl w.heap.size w).alloc (Nat.le_refl _) (.cells #[.int .i64 x, .int .i64 y] 58)
  have hx0 := new_at w (.cells #[.int .i64 x, .int .i64 y] 58) rfl
  have HB0 := Lib.hid hb0
  have HX0 := Lib.hid hx0
  clear hb0 hx0
  cases h1 : bdB x y
  · obtain rfl : q = false := by rw [← hq, wayQ, h1]; rfl
    obtain rfl : v = 0 := by rw [← hv, wayN, hq]; rfl
    clear hv hq
    go_enter Try.func38, Try.ntmps38
    go_wp2_with fail
    refine (isBoard_any x y _ false h1).mono ?_
    rintro e w1 ⟨rfl, hb1⟩
    go_wp2
    go_ret2
    exact ⟨rfl, HB0.out.trans (hb1.mono (by simp))⟩
  · obtain ⟨a, b, rfl, rfl, ⟨a1, a2⟩, b1, b2⟩ := bdB_nat h1
    obtain ⟨u, hu⟩ : ∃ u, wayB a b = u := ⟨_, rfl⟩
    have hbv := wayB_ok _ a b (Nat.le_refl _) a1 b1
    have H1 := Lib.hid h1
    have HQ := Lib.hid hq
    have HV := Lib.hid hv
    have HU := Lib.hid hu
    have HBV := Lib.hid hbv
    clear hq hv h1 hu hbv
    go_enter Try.func38, Try.ntmps38
    go_wp2_with fail
    refine (isBoard_any _ _ _ true H1.out).mono ?_
    rintro e w1 ⟨rfl, hb1⟩
    have hx1 := (hb1.block w.heap.size (by simp)).trans HX0.out
    have HB1 := Lib.hid (HB0.out.trans (hb1.mono (by simp)))
    clear hb1 hbd
    have c0 := cell_of hx1 0
    have c1 := cell_of hx1 1
    go_wp2_with fail
    refine wp_region_held_drew (S := (fun wq => wq.heap[w.heap.size]? = some (.cells #[.int .i64 (a : Int), .int .i64 (b : Int)] 58 (0, 0)))) (by kernel_rfl) hx1 (fun hH0 => ?_)
    clear c0 c1
    refine wpAnyH_take (i := 0) (v := ?_) (ops_at rfl) (by kernel_rfl) (by kernel_rfl) (by kernel_rfl) (fun _ _ _ h => h) (Or.inl ⟨by rfl, ?ya0⟩) (by assumption) ?na0
    case ya0 => (intro wS hSw; (have k0 := cell_of hSw 0); (have k1 := cell_of hSw 1); go_simp; try rfl)
    try simp only [Act.put, List.setIfInBounds_toArray, List.set_cons_zero, List.set_cons_succ]
    refine wpAnyH_take (i := 2) (v := ?_) (ops_at rfl) (by kernel_rfl) (by kernel_rfl) (by kernel_rfl) (fun _ _ _ h => h) (Or.inl ⟨by rfl, ?ya2⟩) (by assumption) ?na2
    case ya2 => (intro wS hSw; (have k0 := cell_of hSw 0); (have k1 := cell_of hSw 1); go_simp; try rfl)
    try simp only [Act.put, List.setIfInBounds_toArray, List.set_cons_zero, List.set_cons_succ]
    refine wpAnyH_ready (rs := [1, 3]) (by kernel_rfl) (by simp) ?_
    refine AllReadyH.cons (ops_at rfl) (fun K hK => ?_) (AllReadyH.cons (ops_at rfl) (fun K hK => ?_) AllReadyH.nil)
    · go_simp
      refine (ways_all a b _ a1 a2 b1 b2).mono ?_
      rintro e w2 ⟨X, rfl, hW, hb2⟩
      have hb2' := undrew hb2
      have hx2 := (hb2'.block _ (heap_lt hx1)).trans hx1
      refine hK.out _ _ hx2 (fun hH1 => ?_)
      clear hK K
      refine wpAnyH_ready (rs := [3]) (by kernel_rfl) (by simp) ?_
      refine AllReadyH.cons (ops_at rfl) (fun K hK => ?_) AllReadyH.nil
      go_simp
      have hx3 := (alloc_old w2 (heap_lt hx2) (.cells #[.int .i64 (a : Int), .int .i64 (b : Int)] 58)).trans hx2
      refine hK.out _ _ hx3 (fun hH2 => ?_)
      clear hK K
      refine wpAnyH_ready (rs := [4]) (by kernel_rfl) (by simp) ?_
      refine AllReadyH.cons (ops_at rfl) (fun K hK => ?_) AllReadyH.nil
      go_simp
      refine (worth_any w2.heap.size X w2.heap.size 1 1 wayB _ [(a, b)] _ (hW.below ((Below.refl _ _).alloc (Nat.le_refl _) _) (Nat.le_refl _)) (by simp) rfl (by omega) (by simp) (one_cell (new_at _ _ rfl)) (fun p hp => ?_) (fun p hp => ?_) u (by rw [sumB_one]; exact HU.out)).mono ?_
      · simp at hp; subst hp; exact ⟨a1, b1, Nat.le_refl _, Nat.le_refl _⟩
      · simp at hp; subst hp; exact ⟨by have := HBV.out.1; show 0 ≤ wayB a b; omega, HBV.out.2⟩
      rintro e w3 ⟨rfl, hb3⟩
      refine hK.out _ _ ((hb3.block _ (heap_lt hx3)).trans hx3) (fun hH3 => ?_)
      clear hK K
      refine wpAnyH_take (i := 5) (v := ?_) (ops_at rfl) (by kernel_rfl) (by kernel_rfl) (by kernel_rfl) (fun _ _ _ h => h) (Or.inl ⟨by rfl, ?yb5⟩) (by assumption) ?nb5
      case yb5 => (intro wS hSw; (have k0 := cell_of hSw 0); (have k1 := cell_of hSw 1); go_simp; try rfl)
      try simp only [Act.put, List.setIfInBounds_toArray, List.set_cons_zero, List.set_cons_succ]
      refine wpAnyH_done (by kernel_rfl) ?_ _
      have HBE := Lib.hid (((HB1.out.trans (hb2'.mono HB1.out.size)).alloc (by have := HB1.out.size; have := hb2'.size; omega) _).trans (hb3.mono (by have := HB1.out.size; have := hb2'.size; simp; omega)))
      by_cases hbig : 1000000000000000 < u
      · have hdb : decide (1000000000000000 < u) = true := decide_eq_true hbig
        obtain rfl : q = false := by rw [← HQ.out, wayQ, H1.out]; show (true && decide (wayB a b ≤ 1000000000000000)) = false; rw [HU.out, Bool.true_and]; exact decide_eq_false (by omega)
        obtain rfl : v = 0 := by rw [← HV.out, wayN, HQ.out]; rfl
        go_wp2
        go_ret2
        exact ⟨rfl, HBE.out⟩
      · have hdb : decide (1000000000000000 < u) = false := decide_eq_false hbig
        obtain rfl : q = true := by rw [← HQ.out, wayQ, H1.out]; show (true && decide (wayB a b ≤ 1000000000000000)) = true; rw [HU.out, Bool.true_and]; exact decide_eq_true (by omega)
        obtain rfl : v = u := by rw [← HV.out, wayN, HQ.out, if_pos rfl]; exact HU.out
        go_wp2
        go_ret2
        exact ⟨rfl, HBE.out⟩
    · go_simp
      have hx2 := (alloc_old w1 (heap_lt hx1) (.cells #[.int .i64 (a : Int), .int .i64 (b : Int)] 58)).trans hx1
      refine hK.out _ _ hx2 (fun hH1 => ?_)
      clear hK K
      refine wpAnyH_ready (rs := [1]) (by kernel_rfl) (by simp) ?_
      refine AllReadyH.cons (ops_at rfl) (fun K hK => ?_) AllReadyH.nil
      go_simp
      refine (ways_all a b _ a1 a2 b1 b2).mono ?_
      rintro e w2 ⟨X, rfl, hW, hb2⟩
      have hb2' := undrew hb2
      have hx3 := (hb2'.block _ (heap_lt hx2)).trans hx2
      have hg := (hb2'.block w1.heap.size (by simp)).trans (new_at w1 (.cells #[.int .i64 (a : Int), .int .i64 (b : Int)] 58) rfl)
      refine hK.out _ _ hx3 (fun hH2 => ?_)
      clear hK K
      refine wpAnyH_ready (rs := [4]) (by kernel_rfl) (by simp) ?_
      refine AllReadyH.cons (ops_at rfl) (fun K hK => ?_) AllReadyH.nil
      go_simp
      refine (worth_any w2.heap.size X w1.heap.size 1 1 wayB _ [(a, b)] _ hW (Nat.le_refl _) rfl (by omega) (heap_lt hg) (one_cell hg) (fun p hp => ?_) (fun p hp => ?_) u (by rw [sumB_one]; exact HU.out)).mono ?_
      · simp at hp; subst hp; exact ⟨a1, b1, Nat.le_refl _, Nat.le_refl _⟩
      · simp at hp; subst hp; exact ⟨by have := HBV.out.1; show 0 ≤ wayB a b; omega, HBV.out.2⟩
      rintro e w3 ⟨rfl, hb3⟩
      refine hK.out _ _ ((hb3.block _ (heap_lt hx3)).trans hx3) (fun hH3 => ?_)
      clear hK K
      refine wpAnyH_take (i := 5) (v := ?_) (ops_at rfl) (by kernel_rfl) (by kernel_rfl) (by kernel_rfl) (fun _ _ _ h => h) (Or.inl ⟨by rfl, ?yc5⟩) (by assumption) ?nc5
      case yc5 => (intro wS hSw; (have k0 := cell_of hSw 0); (have k1 := cell_of hSw 1); go_simp; try rfl)
      try simp only [Act.put, List.setIfInBounds_toArray, List.set_cons_zero, List.set_cons_succ]
      refine wpAnyH_done (by kernel_rfl) ?_ _
      have HBE := Lib.hid (((HB1.out.alloc HB1.out.size _).trans (hb2'.mono (by have := HB1.out.size; simp; omega))).trans (hb3.mono (by have := HB1.out.size; have := hb2'.size; simp at this; omega)))
      by_cases hbig : 1000000000000000 < u
      · have hdb : decide (1000000000000000 < u) = true := decide_eq_true hbig
        obtain rfl : q = false := by rw [← HQ.out, wayQ, H1.out]; show (true && decide (wayB a b ≤ 1000000000000000)) = false; rw [HU.out, Bool.true_and]; exact decide_eq_false (by omega)
        obtain rfl : v = 0 := by rw [← HV.out, wayN, HQ.out]; rfl
        go_wp2
        go_ret2
        exact ⟨rfl, HBE.out⟩
      · have hdb : decide (1000000000000000 < u) = false := decide_eq_false hbig
        obtain rfl : q = true := by rw [← HQ.out, wayQ, H1.out]; show (true && decide (wayB a b ≤ 1000000000000000)) = true; rw [HU.out, Bool.true_and]; exact decide_eq_true (by omega)
        obtain rfl : v = u := by rw [← HV.out, wayN, HQ.out, if_pos rfl]; exact HU.out
        go_wp2
        go_ret2
        exact ⟨rfl, HBE.out⟩
end Go.Proofs.Ytbaofgbkcolmmaa

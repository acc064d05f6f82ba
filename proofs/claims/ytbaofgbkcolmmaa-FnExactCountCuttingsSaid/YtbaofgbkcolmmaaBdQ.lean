/-
  Both programs' fewest squares, and the cuts to them.
  Conditions: none.
-/
import Derived.Test.YtbaofgbkcolmmaaBdS1
import Derived.Test.YtbaofgbkcolmmaaBdX1
import Derived.Test.YtbaofgbkcolmmaaBdT1
namespace Go.Proofs.Ytbaofgbkcolmmaa
set_option linter.unusedVariables false
open Go.RowKit

theorem bdGood_any (x y : Int) (w : World) (q : Bool) (hq : bdB x y = q) : Calls Try.prog 57 #[.int .i64 x, .int .i64 y] w fun e w' => e = .returned (.bool q) ∧ w = w' := by
  cases h1 : inB x 1 24
  · obtain rfl : q = false := by rw [← hq]; simp [bdB, h1]
    clear hq
    go_enter Try.func57, Try.ntmps57
    go_wp2_with fail
    refine (l1In_any _ _ _ false h1 _).mono ?_
    rintro e w' ⟨rfl, rfl⟩
    go_wp2
    go_ret
    exact ⟨rfl, rfl⟩
  · have h2 : inB y 1 24 = q := by rw [← hq]; simp [bdB, h1]
    clear hq
    go_enter Try.func57, Try.ntmps57
    go_wp2_with fail
    refine (l1In_any _ _ _ true h1 _).mono ?_
    rintro e w' ⟨rfl, rfl⟩
    go_wp2_with fail
    refine (l1In_any _ _ _ q h2 _).mono ?_
    rintro e w' ⟨rfl, rfl⟩
    go_wp2
    go_ret
    exact ⟨rfl, rfl⟩

/-- The number that is told of a board, if it is one. -/
def bdN (t : Nat → Nat → Int) (x y : Int) : Int := if bdB x y = true then t x.toNat y.toNat else 0
theorem bdN_no {t : Nat → Nat → Int} {x y : Int} (h : bdB x y = false) : bdN t x y = 0 := by rw [bdN, h]; rfl
theorem bdN_yes {t : Nat → Nat → Int} {a b : Nat} (h : bdB (a : Int) (b : Int) = true) : bdN t (a : Int) (b : Int) = t a b := by rw [bdN, if_pos h]; rfl

theorem few_all (A H : Nat) (w : World) (hA1 : 1 ≤ A) (hA : A ≤ 24) (hH1 : 1 ≤ H) (hH : H ≤ 24) :
    Calls Try.prog 63 #[.agg #[.int .i64 (A : Int), .int .i64 (H : Int)]] w fun e w' => ∃ X, e = .returned (.func (.func 102) #[] #[.pointer (some ⟨X, 0, none⟩)]) ∧
      Worth w' w'.heap.size X fewB (fun a b => 1 ≤ a ∧ 1 ≤ b ∧ a ≤ A ∧ b ≤ H) ∧ Below w.heap.size w w' := by
  have hb0 := (Below.refl w.heap.size w).alloc (Nat.le_refl _) (.cells #[.int .i64 (A : Int), .int .i64 (H : Int)] 58)
  have HB0 := Lib.hid hb0
  clear hb0
  go_enter Try.func63, Try.ntmps63
  go_wp2_with fail
  refine (valueF A H fewB _ hA1 hA hH1 hH (fun w' B1 X a b hb a1 aA b1 bH hW hB => ?_)).mono ?_
  · exact few1_any a b B1 X fewB w' a1 (by omega) b1 (by omega) hW hB (fun a' b' ha' hb' h => by have := fewB_one _ a' b' (Nat.le_refl _) ha' hb'; have h2 : a' * b' ≤ 48 * 48 := Nat.mul_le_mul (by omega) (by omega); omega) _ (fewB_eq a1 b1).symm
  · rintro e w1 ⟨X, rfl, hW, hb1⟩
    go_wp2
    go_ret
    exact ⟨X, rfl, hW, HB0.out.trans (hb1.mono (by simp))⟩

set_option maxHeartbeats 1000000 in
theorem spec_FewestSquares (x y : Int) (w : World) (q : Bool) (hq : bdB x y = q) (v : Int) (hv : bdN fewB x y = v) :
    Calls Try.prog 33 #[.int .i64 x, .int .i64 y] w (RetI v q w) := by
  cases q
  · obtain rfl : v = 0 := by rw [← hv]; exact bdN_no hq
    clear hv
    go_enter Try.func33, Try.ntmps33
    go_wp2_with fail
    refine (bdGood_any x y _ false hq).mono ?_
    rintro e w1 ⟨rfl, rfl⟩
    go_wp2
    go_ret2
    exact ⟨rfl, Below.refl _ _⟩
  · obtain ⟨a, b, rfl, rfl, ⟨a1, a2⟩, b1, b2⟩ := bdB_nat hq
    have hva : fewB a b = v := by rw [← hv]; exact (bdN_yes hq).symm
    have hbd := fewB_bd a b a1 a2 b1 b2
    have HQ := Lib.hid hq
    have HV := Lib.hid hva
    clear hq hv
    go_enter Try.func33, Try.ntmps33
    go_wp2_with fail
    refine (bdGood_any _ _ _ true HQ.out).mono ?_
    rintro e w1 ⟨rfl, rfl⟩
    go_wp2_with fail
    refine (bdSquares_any a b _ a1 a2 b1 b2).mono ?_
    rintro e w2 ⟨F, rfl, ht, hb⟩
    obtain ⟨g, e1, e2⟩ := ht.read (a := a) (b := b) a1 (Nat.le_refl _) b1 (Nat.le_refl _) (.inr (Nat.le_refl _))
    rw [HV.out] at e2
    clear hva
    clear ht
    go_wp2
    go_ret2
    exact ⟨rfl, hb⟩

set_option maxRecDepth 100000 in
set_option maxHeartbeats 1000000 in
theorem impl_FewestSquares (x y : Int) (w : World) (q : Bool) (hq : bdB x y = q) (v : Int) (hv : bdN fewB x y = v) :
    Calls Try.prog 34 #[.int .i64 x, .int .i64 y] w (RetI v q w) := by
  have hbd : ∀ (W : World) (x y : Int), (Instr.build 58 #[(0, .int .i64 x), (1, .int .i64 y)]).run Try.prog W = .ok (.agg #[.int .i64 x, .int .i64 y]) W := fun W x y => run_build W 58 _ _ (by kernel_rfl)
  have hb0 := (Below.refl w.heap.size w).alloc (Nat.le_refl _) (.cells #[.int .i64 x, .int .i64 y] 58)
  have hx0 := new_at w (.cells #[.int .i64 x, .int .i64 y] 58) rfl
  have HB0 := Lib.hid hb0
  have HX0 := Lib.hid hx0
  clear hb0 hx0
  cases q
  · obtain rfl : v = 0 := by rw [← hv]; exact bdN_no hq
    clear hv
    go_enter Try.func34, Try.ntmps34
    go_wp2_with fail
    refine (isBoard_any x y _ false hq).mono ?_
    rintro e w1 ⟨rfl, hb1⟩
    go_wp2
    go_ret2
    exact ⟨rfl, HB0.out.trans (hb1.mono (by simp))⟩
  · obtain ⟨a, b, rfl, rfl, ⟨a1, a2⟩, b1, b2⟩ := bdB_nat hq
    have hva : fewB a b = v := by rw [← hv]; exact (bdN_yes hq).symm
    have hbv := fewB_bd a b a1 a2 b1 b2
    have HQ := Lib.hid hq
    have HV := Lib.hid hva
    clear hq hv hva
    go_enter Try.func34, Try.ntmps34
    go_wp2_with fail
    refine (isBoard_any _ _ _ true HQ.out).mono ?_
    rintro e w1 ⟨rfl, hb1⟩
    have hx1 := (hb1.block w.heap.size (by simp)).trans HX0.out
    have HB1 := Lib.hid (HB0.out.trans (hb1.mono (by simp)))
    clear hb1 hbd
    have c0 := cell_of hx1 0
    have c1 := cell_of hx1 1
    go_wp2_with fail
    refine wp_region_held_drew (S := (fun wq => wq.heap[w.heap.size]? = some (.cells #[.int .i64 (a : Int), .int .i64 (b : Int)] 58 (0, 0)))) (by kernel_rfl) hx1 (fun hH0 => ?_)
    clear c0 c1
    refine wpAnyH_take (i := 0) (v := ?_) (ops_at rfl) (by kernel_rfl) (by kernel_rfl) (by kernel_rfl) (fun _ _ _ h => h) (Or.inl ⟨by rfl, ?ya0⟩) (by assumption) ?na0
    case ya0 => (intro wS hSw; (have k0 := cell_of hSw 0); (have k1 := cell_of hSw 1); go_simp; try rfl)
    try simp only [Act.put, List.setIfInBounds_toArray, List.set_cons_zero, List.set_cons_succ]
    refine wpAnyH_take (i := 2) (v := ?_) (ops_at rfl) (by kernel_rfl) (by kernel_rfl) (by kernel_rfl) (fun _ _ _ h => h) (Or.inl ⟨by rfl, ?ya2⟩) (by assumption) ?na2
    case ya2 => (intro wS hSw; (have k0 := cell_of hSw 0); (have k1 := cell_of hSw 1); go_simp; try rfl)
    try simp only [Act.put, List.setIfInBounds_toArray, List.set_cons_zero, List.set_cons_succ]
    refine wpAnyH_ready (rs := [1, 3]) (by kernel_rfl) (by simp) ?_
    refine AllReadyH.cons (ops_at rfl) (fun K hK => ?_) (AllReadyH.cons (ops_at rfl) (fun K hK => ?_) AllReadyH.nil)
    · go_simp
      refine (few_all a b _ a1 a2 b1 b2).mono ?_
      rintro e w2 ⟨X, rfl, hW, hb2⟩
      have hb2' := undrew hb2
      have hx2 := (hb2'.block _ (heap_lt hx1)).trans hx1
      refine hK.out _ _ hx2 (fun hH1 => ?_)
      clear hK K
      refine wpAnyH_ready (rs := [3]) (by kernel_rfl) (by simp) ?_
      refine AllReadyH.cons (ops_at rfl) (fun K hK => ?_) AllReadyH.nil
      go_simp
      have hx3 := (alloc_old w2 (heap_lt hx2) (.cells #[.int .i64 (a : Int), .int .i64 (b : Int)] 58)).trans hx2
      refine hK.out _ _ hx3 (fun hH2 => ?_)
      clear hK K
      refine wpAnyH_ready (rs := [4]) (by kernel_rfl) (by simp) ?_
      refine AllReadyH.cons (ops_at rfl) (fun K hK => ?_) AllReadyH.nil
      go_simp
      refine (worth_any w2.heap.size X w2.heap.size 1 1 fewB _ [(a, b)] _ (hW.below ((Below.refl _ _).alloc (Nat.le_refl _) _) (Nat.le_refl _)) (by simp) rfl (by omega) (by simp) (one_cell (new_at _ _ rfl)) (fun p hp => ?_) (fun p hp => ?_) v (by rw [sumB_one]; exact HV.out)).mono ?_
      · simp at hp; subst hp; exact ⟨a1, b1, Nat.le_refl _, Nat.le_refl _⟩
      · simp at hp; subst hp; simp only []; omega
      rintro e w3 ⟨rfl, hb3⟩
      refine hK.out _ _ ((hb3.block _ (heap_lt hx3)).trans hx3) (fun hH3 => ?_)
      clear hK K
      refine wpAnyH_take (i := 5) (v := ?_) (ops_at rfl) (by kernel_rfl) (by kernel_rfl) (by kernel_rfl) (fun _ _ _ h => h) (Or.inl ⟨by rfl, ?yb5⟩) (by assumption) ?nb5
      case yb5 => (intro wS hSw; (have k0 := cell_of hSw 0); (have k1 := cell_of hSw 1); go_simp; try rfl)
      try simp only [Act.put, List.setIfInBounds_toArray, List.set_cons_zero, List.set_cons_succ]
      refine wpAnyH_take (i := 6) (v := ?_) (ops_at rfl) (by kernel_rfl) (by kernel_rfl) (by kernel_rfl) (fun _ _ _ h => h) (Or.inl ⟨by rfl, ?yb6⟩) (by assumption) ?nb6
      case yb6 => (intro wS hSw; (have k0 := cell_of hSw 0); (have k1 := cell_of hSw 1); go_simp; try rfl)
      try simp only [Act.put, List.setIfInBounds_toArray, List.set_cons_zero, List.set_cons_succ]
      refine wpAnyH_done (by kernel_rfl) ?_ _
      go_wp2
      go_ret2
      exact ⟨rfl, ((HB1.out.trans (hb2'.mono HB1.out.size)).alloc (by have := HB1.out.size; have := hb2'.size; omega) _).trans (hb3.mono (by have := HB1.out.size; have := hb2'.size; simp; omega))⟩
    · go_simp
      have hx2 := (alloc_old w1 (heap_lt hx1) (.cells #[.int .i64 (a : Int), .int .i64 (b : Int)] 58)).trans hx1
      refine hK.out _ _ hx2 (fun hH1 => ?_)
      clear hK K
      refine wpAnyH_ready (rs := [1]) (by kernel_rfl) (by simp) ?_
      refine AllReadyH.cons (ops_at rfl) (fun K hK => ?_) AllReadyH.nil
      go_simp
      refine (few_all a b _ a1 a2 b1 b2).mono ?_
      rintro e w2 ⟨X, rfl, hW, hb2⟩
      have hb2' := undrew hb2
      have hx3 := (hb2'.block _ (heap_lt hx2)).trans hx2
      have hg := (hb2'.block w1.heap.size (by simp)).trans (new_at w1 (.cells #[.int .i64 (a : Int), .int .i64 (b : Int)] 58) rfl)
      refine hK.out _ _ hx3 (fun hH2 => ?_)
      clear hK K
      refine wpAnyH_ready (rs := [4]) (by kernel_rfl) (by simp) ?_
      refine AllReadyH.cons (ops_at rfl) (fun K hK => ?_) AllReadyH.nil
      go_simp
      refine (worth_any w2.heap.size X w1.heap.size 1 1 fewB _ [(a, b)] _ hW (Nat.le_refl _) rfl (by omega) (heap_lt hg) (one_cell hg) (fun p hp => ?_) (fun p hp => ?_) v (by rw [sumB_one]; exact HV.out)).mono ?_
      · simp at hp; subst hp; exact ⟨a1, b1, Nat.le_refl _, Nat.le_refl _⟩
      · simp at hp; subst hp; simp only []; omega
      rintro e w3 ⟨rfl, hb3⟩
      refine hK.out _ _ ((hb3.block _ (heap_lt hx3)).trans hx3) (fun hH3 => ?_)
      clear hK K
      refine wpAnyH_take (i := 5) (v := ?_) (ops_at rfl) (by kernel_rfl) (by kernel_rfl) (by kernel_rfl) (fun _ _ _ h => h) (Or.inl ⟨by rfl, ?yc5⟩) (by assumption) ?nc5
      case yc5 => (intro wS hSw; (have k0 := cell_of hSw 0); (have k1 := cell_of hSw 1); go_simp; try rfl)
      try simp only [Act.put, List.setIfInBounds_toArray, List.set_cons_zero, List.set_cons_succ]
      refine wpAnyH_take (i := 6) (v := ?_) (ops_at rfl) (by kernel_rfl) (by kernel_rfl) (by kernel_rfl) (fun _ _ _ h => h) (Or.inl ⟨by rfl, ?yc6⟩) (by assumption) ?nc6
      case yc6 => (intro wS hSw; (have k0 := cell_of hSw 0); (have k1 := cell_of hSw 1); go_simp; try rfl)
      try simp only [Act.put, List.setIfInBounds_toArray, List.set_cons_zero, List.set_cons_succ]
      refine wpAnyH_done (by kernel_rfl) ?_ _
      go_wp2
      go_ret2
      exact ⟨rfl, ((HB1.out.alloc HB1.out.size _).trans (hb2'.mono (by have := HB1.out.size; simp; omega))).trans (hb3.mono (by have := HB1.out.size; have := hb2'.size; simp at this; omega))⟩
set_option maxHeartbeats 1000000 in
theorem spec_CutsToSquares (x y : Int) (w : World) (q : Bool) (hq : bdB x y = q) (v : Int) (hv : bdN (fun a b => fewB a b - 1) x y = v) :
    Calls Try.prog 35 #[.int .i64 x, .int .i64 y] w (RetI v q w) := by
  cases q
  · obtain rfl : v = 0 := by rw [← hv]; exact bdN_no hq
    clear hv
    go_enter Try.func35, Try.ntmps35
    go_wp2_with fail
    refine (bdGood_any x y _ false hq).mono ?_
    rintro e w1 ⟨rfl, rfl⟩
    go_wp2
    go_ret2
    exact ⟨rfl, Below.refl _ _⟩
  · obtain ⟨a, b, rfl, rfl, ⟨a1, a2⟩, b1, b2⟩ := bdB_nat hq
    have hva : fewB a b - 1 = v := by rw [← hv]; exact (bdN_yes (t := fun a b => fewB a b - 1) hq).symm
    have hbd := fewB_bd a b a1 a2 b1 b2
    have HQ := Lib.hid hq
    have HV := Lib.hid hva
    clear hq hv
    go_enter Try.func35, Try.ntmps35
    go_wp2_with fail
    refine (bdGood_any _ _ _ true HQ.out).mono ?_
    rintro e w1 ⟨rfl, rfl⟩
    go_wp2_with fail
    refine (bdSquares_any a b _ a1 a2 b1 b2).mono ?_
    rintro e w2 ⟨F, rfl, ht, hb⟩
    obtain ⟨g, e1, e2⟩ := ht.read (a := a) (b := b) a1 (Nat.le_refl _) b1 (Nat.le_refl _) (.inr (Nat.le_refl _))
    obtain ⟨u, hu⟩ : ∃ u, fewB a b = u := ⟨_, rfl⟩
    rw [hu] at e2 hbd hva
    have hwu : IntKind.i64.wrap (u - 1) = u - 1 := by rw [IntKind.wrap_i64]; omega
    clear hu
    clear ht
    go_wp2
    go_ret2
    exact ⟨rfl, hb⟩

theorem impl_CutsToSquares (x y : Int) (w : World) (q : Bool) (hq : bdB x y = q) (v : Int) (hv : bdN (fun a b => fewB a b - 1) x y = v) :
    Calls Try.prog 36 #[.int .i64 x, .int .i64 y] w (RetI v q w) := by
  cases q
  · obtain rfl : v = 0 := by rw [← hv]; exact bdN_no hq
    have HF := Lib.hid (impl_FewestSquares x y w false hq 0 (bdN_no hq))
    clear hv hq
    go_enter Try.func36, Try.ntmps36
    go_wp2_with fail
    refine HF.out.mono ?_
    rintro e w1 ⟨rfl, hb1⟩
    go_wp2
    go_ret2
    exact ⟨rfl, hb1⟩
  · obtain ⟨a, b, rfl, rfl, ⟨a1, a2⟩, b1, b2⟩ := bdB_nat hq
    have hva : fewB a b - 1 = v := by rw [← hv]; exact (bdN_yes (t := fun a b => fewB a b - 1) hq).symm
    have hbv := fewB_bd a b a1 a2 b1 b2
    obtain ⟨u, hu⟩ : ∃ u, fewB a b = u := ⟨_, rfl⟩
    have HF := Lib.hid (impl_FewestSquares _ _ w true hq u (by rw [bdN_yes hq]; exact hu))
    rw [hu] at hva hbv
    have hwu : IntKind.i64.wrap (u - 1) = u - 1 := by rw [IntKind.wrap_i64]; omega
    have HVA := Lib.hid hva
    clear hv hq hu hva
    go_enter Try.func36, Try.ntmps36
    go_wp2_with fail
    refine HF.out.mono ?_
    rintro e w1 ⟨rfl, hb1⟩
    go_wp2
    go_ret2
    exact ⟨by rw [HVA.out]; rfl, hb1⟩

end Go.Proofs.Ytbaofgbkcolmmaa

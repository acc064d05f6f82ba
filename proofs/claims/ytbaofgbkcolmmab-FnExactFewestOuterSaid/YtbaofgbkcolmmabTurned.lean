/-
  The written program's box with its sides ordered, and its test whether one fits into another one.
  Conditions: none.
-/
import Derived.Test.YtbaofgbkcolmmabNestM
import Derived.Test.YtbaofgbkcolmmabSortOrd
namespace Go.Proofs.Ytbaofgbkcolmmab
set_option linter.unusedVariables false
open Go.RowKit

theorem row3_of {w : World} {g : Nat} {x y z : Int} {T : Nat} (h : w.heap[g]? = some (.cells #[.int .i64 x, .int .i64 y, .int .i64 z] T (0, 0))) : Row w g T 3 [x, y, z] := by
  refine ⟨_, h, rfl, fun j u hu => ?_⟩
  have hj := (List.getElem?_eq_some_iff.1 hu).1
  have hk3 : j = 0 ∨ j = 1 ∨ j = 2 := by simp at hj; omega
  rcases hk3 with rfl | rfl | rfl <;> (simp at hu; subst hu; rfl)

/-- The box as a value. -/
def triV (b : Int × Int × Int) : Value := .agg #[.int .i64 b.1, .int .i64 b.2.1, .int .i64 b.2.2]

set_option maxRecDepth 100000 in
set_option maxHeartbeats 1000000 in
theorem turned_any (x y z : Int) (w : World) :
    Calls Try.prog 148 #[.agg #[.int .i64 x, .int .i64 y, .int .i64 z]] w fun e w' => e = .returned (.agg #[.int .i64 (s3 (x, y, z)).1, .int .i64 (s3 (x, y, z)).2.1, .int .i64 (s3 (x, y, z)).2.2]) ∧ Below w.heap.size w w' := by
  have HS := Lib.hid (s3_eq (x, y, z))
  obtain ⟨p, hp⟩ : ∃ p, (s3 (x, y, z)).1 = p := ⟨_, rfl⟩
  obtain ⟨q, hq⟩ : ∃ q, (s3 (x, y, z)).2.1 = q := ⟨_, rfl⟩
  obtain ⟨r, hr⟩ : ∃ r, (s3 (x, y, z)).2.2 = r := ⟨_, rfl⟩
  rw [hp, hq, hr] at HS ⊢
  clear hp hq hr
  have HT := Lib.hid (par2 w (.cells #[.int .i64 x, .int .i64 y, .int .i64 z] 61) (.cells #[.int .i64 0, .int .i64 0, .int .i64 0] 61))
  have HB0 := Lib.hid (((Below.refl w.heap.size w).alloc (Nat.le_refl _) (.cells #[.int .i64 x, .int .i64 y, .int .i64 z] 61)).alloc (by simp) (.cells #[.int .i64 0, .int .i64 0, .int .i64 0] 61))
  go_enter Try.func148, Try.ntmps148
  go_wp2_with fail
  refine (sides_any x y z _).mono ?_
  rintro e w1 ⟨g, rfl, hg, hc, hb1⟩
  have hg2 : w.heap.size + 2 ≤ g := by simpa using hg
  have hz1 := hb1.size
  have hz2 : w.heap.size + 2 ≤ w1.heap.size := by simpa using hz1
  have HB1 := Lib.hid (HB0.out.trans (hb1.mono HB0.out.size))
  have hT := (hb1.block (w.heap.size + 1) (by simp)).trans HT.out.2
  have HT1 := Lib.hid hT
  have HR := Lib.hid (row3_of hc)
  clear hc hb1 hT hz1 hg
  go_wp2_with fail
  refine (sort3_any g _ 3 _ [x, y, z] _ rfl HR.out).mono ?_
  rintro e w2 ⟨rfl, hrow, honly⟩
  have hrow' : Row w2 g 3 3 [p, q, r] := by rw [← HS.out]; exact hrow
  have hT2 : w2.heap[w.heap.size + 1]? = some (.cells #[.int .i64 0, .int .i64 0, .int .i64 0] 61 (0, 0)) := (honly.block (w.heap.size + 1) (by omega) (by omega)).trans HT1.out
  have HB2 := Lib.hid (HB1.out.trans (honly.below (B := w.heap.size) (by omega) (fun k hk => by omega)))
  have c0 : w2.cell? ⟨g, 0, none⟩ = some (.int .i64 p) := hrow'.cell (j := 0) rfl
  have c1 : w2.cell? ⟨g, 1, none⟩ = some (.int .i64 q) := hrow'.cell (j := 1) rfl
  have c2 : w2.cell? ⟨g, 2, none⟩ = some (.int .i64 r) := hrow'.cell (j := 2) rfl
  have d0 : w2.cell? ⟨w.heap.size + 1, 0, none⟩ = some (.int .i64 0) := cell_of hT2 0
  have d1 : w2.cell? ⟨w.heap.size + 1, 1, none⟩ = some (.int .i64 0) := cell_of hT2 1
  have d2 : w2.cell? ⟨w.heap.size + 1, 2, none⟩ = some (.int .i64 0) := cell_of hT2 2
  have f0 := frozen_of hT2 0
  have f1 := frozen_of hT2 1
  have f2 := frozen_of hT2 2
  have HT2 := Lib.hid hT2
  clear hrow hrow' hT2 honly
  go_wp2
  go_region
  all_goals go_wp2
  have hf := set_self (set_self (set_self HT2.out 0 (.int .i64 p)) 1 (.int .i64 q)) 2 (.int .i64 r)
  have hbf : Below w.heap.size w (((w2.setCell ⟨w.heap.size + 1, 0, none⟩ (.int .i64 p)).setCell ⟨w.heap.size + 1, 1, none⟩ (.int .i64 q)).setCell ⟨w.heap.size + 1, 2, none⟩ (.int .i64 r)) :=
    ((HB2.out.setCell (Nat.le_succ _) _).setCell (Nat.le_succ _) _).setCell (Nat.le_succ _) _
  have e0 := cell_of hf 0
  have e1 := cell_of hf 1
  have e2 := cell_of hf 2
  obtain ⟨W3, hW3⟩ : ∃ W3, (((w2.setCell ⟨w.heap.size + 1, 0, none⟩ (.int .i64 p)).setCell ⟨w.heap.size + 1, 1, none⟩ (.int .i64 q)).setCell ⟨w.heap.size + 1, 2, none⟩ (.int .i64 r)) = W3 := ⟨_, rfl⟩
  rw [hW3] at e0 e1 e2 hbf ⊢
  have g0 : W3.drew.cell? ⟨w.heap.size + 1, 0, none⟩ = some (.int .i64 p) := e0
  have g1 : W3.drew.cell? ⟨w.heap.size + 1, 1, none⟩ = some (.int .i64 q) := e1
  have g2 : W3.drew.cell? ⟨w.heap.size + 1, 2, none⟩ = some (.int .i64 r) := e2
  obtain ⟨W4, hW4⟩ : ∃ W4, W3.drew = W4 := ⟨_, rfl⟩
  have hb4 : Below w.heap.size w W4 := hW4 ▸ hbf.drew
  rw [hW4] at g0 g1 g2 ⊢
  clear e0 e1 e2 hf hW3 hW4 hbf HS HT HB0 HB1 HT1 HR HB2 HT2 c0 c1 c2 d0 d1 d2 f0 f1 f2
  refine bodyPost_ret (v := .agg #[.int .i64 p, .int .i64 q, .int .i64 r]) (by simp [results, Try.results148, go_sem, g0, g1, g2]) rfl ⟨rfl, hb4⟩

theorem two_keep {w : World} {x y z x' y' z' : Int} {W W' : World} (h : Below w.heap.size w W ∧ (W.cell? ⟨w.heap.size, 0, none⟩ = some (.int .i64 x) ∧ W.cell? ⟨w.heap.size, 1, none⟩ = some (.int .i64 y) ∧ W.cell? ⟨w.heap.size, 2, none⟩ = some (.int .i64 z)) ∧ (W.cell? ⟨w.heap.size + 1, 0, none⟩ = some (.int .i64 x') ∧ W.cell? ⟨w.heap.size + 1, 1, none⟩ = some (.int .i64 y') ∧ W.cell? ⟨w.heap.size + 1, 2, none⟩ = some (.int .i64 z'))) (hb : Below W.heap.size W W') :
    Below w.heap.size w W' ∧ (W'.cell? ⟨w.heap.size, 0, none⟩ = some (.int .i64 x) ∧ W'.cell? ⟨w.heap.size, 1, none⟩ = some (.int .i64 y) ∧ W'.cell? ⟨w.heap.size, 2, none⟩ = some (.int .i64 z)) ∧ (W'.cell? ⟨w.heap.size + 1, 0, none⟩ = some (.int .i64 x') ∧ W'.cell? ⟨w.heap.size + 1, 1, none⟩ = some (.int .i64 y') ∧ W'.cell? ⟨w.heap.size + 1, 2, none⟩ = some (.int .i64 z')) :=
  ⟨h.1.trans (hb.mono h.1.size), (show BoxAt W w.heap.size x y z from h.2.1).below hb, (show BoxAt W (w.heap.size + 1) x' y' z' from h.2.2).below hb⟩

set_option maxRecDepth 100000 in
set_option maxHeartbeats 1000000 in
theorem fits_any (x y z x' y' z' : Int) (w : World) (p : Bool) (hp : fitT (x, y, z) (x', y', z') = p) :
    Calls Try.prog 134 #[.agg #[.int .i64 x, .int .i64 y, .int .i64 z], .agg #[.int .i64 x', .int .i64 y', .int .i64 z']] w fun e w' => e = .returned (.bool p) ∧ Below w.heap.size w w' := by
  have HP := Lib.hid (show insideB ((s3 (x, y, z)).1, (s3 (x, y, z)).2.1, (s3 (x, y, z)).2.2) ((s3 (x', y', z')).1, (s3 (x', y', z')).2.1, (s3 (x', y', z')).2.2) = p from hp)
  clear hp
  have hP := par2 w (.cells #[.int .i64 x, .int .i64 y, .int .i64 z] 61) (.cells #[.int .i64 x', .int .i64 y', .int .i64 z'] 61)
  have HT := Lib.hid (And.intro (BoxAt.of hP.1) (BoxAt.of hP.2))
  have HB0 := Lib.hid (((Below.refl w.heap.size w).alloc (Nat.le_refl _) (.cells #[.int .i64 x, .int .i64 y, .int .i64 z] 61)).alloc (by simp) (.cells #[.int .i64 x', .int .i64 y', .int .i64 z'] 61))
  clear hP
  go_enter Try.func134, Try.ntmps134
  go_wp2_with fail
  refine wp_region_held_drew (S := (fun wq => Below w.heap.size w wq ∧ (wq.cell? ⟨w.heap.size, 0, none⟩ = some (.int .i64 x) ∧ wq.cell? ⟨w.heap.size, 1, none⟩ = some (.int .i64 y) ∧ wq.cell? ⟨w.heap.size, 2, none⟩ = some (.int .i64 z)) ∧ (wq.cell? ⟨w.heap.size + 1, 0, none⟩ = some (.int .i64 x') ∧ wq.cell? ⟨w.heap.size + 1, 1, none⟩ = some (.int .i64 y') ∧ wq.cell? ⟨w.heap.size + 1, 2, none⟩ = some (.int .i64 z')))) (by kernel_rfl) ⟨below_drewN HB0.out 1, HT.out.1, HT.out.2⟩ (fun hH0 => ?_)
  refine wpAnyH_take (i := 0) (v := ?_) (ops_at rfl) (by kernel_rfl) (by kernel_rfl) (by kernel_rfl) (fun _ _ _ h => h) (Or.inl ⟨by rfl, ?ya0⟩) (by assumption) ?na0
  case ya0 => (intro wS hSw; (try dsimp only at hSw); go_simp; try rfl)
  try simp only [Act.put, List.setIfInBounds_toArray, List.set_cons_zero, List.set_cons_succ]
  refine wpAnyH_take (i := 2) (v := ?_) (ops_at rfl) (by kernel_rfl) (by kernel_rfl) (by kernel_rfl) (fun _ _ _ h => h) (Or.inl ⟨by rfl, ?ya2⟩) (by assumption) ?na2
  case ya2 => (intro wS hSw; (try dsimp only at hSw); go_simp; try rfl)
  try simp only [Act.put, List.setIfInBounds_toArray, List.set_cons_zero, List.set_cons_succ]
  refine wpAnyH_ready (rs := [1]) (by kernel_rfl) (by simp) ?_
  refine AllReadyH.cons (ops_at rfl) (fun K hK => ?_) AllReadyH.nil
  go_simp
  refine (turned_any x y z _).mono ?_
  rintro e w1 ⟨rfl, hb1⟩
  refine hK.out _ _ (two_keep hH0 hb1) (fun hHa1 => ?_)
  clear hK K
  refine wpAnyH_ready (rs := [3]) (by kernel_rfl) (by simp) ?_
  refine AllReadyH.cons (ops_at rfl) (fun K hK => ?_) AllReadyH.nil
  go_simp
  refine (turned_any x' y' z' _).mono ?_
  rintro e w2 ⟨rfl, hb2⟩
  refine hK.out _ _ (two_keep hHa1 hb2) (fun hHa3 => ?_)
  clear hK K
  refine wpAnyH_ready (rs := [4]) (by kernel_rfl) (by simp) ?_
  refine AllReadyH.cons (ops_at rfl) (fun K hK => ?_) AllReadyH.nil
  go_simp
  refine (fitsAs_any _ _ _ _ _ _ _ _ HP.out).mono ?_
  rintro e w3 ⟨rfl, hb3⟩
  refine hK.out _ _ (two_keep hHa3 hb3) (fun hHa4 => ?_)
  clear hK K
  refine wpAnyH_take (i := 5) (v := ?_) (ops_at rfl) (by kernel_rfl) (by kernel_rfl) (by kernel_rfl) (fun _ _ _ h => h) (Or.inl ⟨by rfl, ?ya5⟩) (by assumption) ?na5
  case ya5 => (intro wS hSw; (try dsimp only at hSw); go_simp; try rfl)
  try simp only [Act.put, List.setIfInBounds_toArray, List.set_cons_zero, List.set_cons_succ]
  refine wpAnyH_done (by kernel_rfl) ?_ _
  go_wp2
  go_ret
  exact ⟨rfl, hHa4.1⟩
end Go.Proofs.Ytbaofgbkcolmmab

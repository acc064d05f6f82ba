/-
  The written program's pieces cut out, counted in place.
  Conditions: a board, and pieces.
-/
import Derived.Test.YtjpejhpilfjheaaBdN1
import Derived.Test.YtjpejhpilfjheaaBdFJ
namespace Go.Proofs.Ytjpejhpilfjheaa
set_option linter.unusedVariables false
open Go.RowKit

theorem Worth.only {w w' : World} {B0 X g : Nat} {t : Nat → Nat → Int} {ok : Nat → Nat → Prop} (h : Worth w B0 X t ok) (ho : Only (fun k => k = g) w w') (hB : B0 ≤ g) (hg : g < w.heap.size) : Worth w' B0 X t ok :=
  h.below (ho.below (B := g) (by omega) (fun k hk => by have : k = g := hk; omega)) hB

set_option maxRecDepth 100000 in
set_option maxHeartbeats 4000000 in
theorem count_any (A H X B0 g T np cp0 lo hi : Nat) (C0 : Option Addr) (ps : List (Int × Int × Int)) (tu : Bool) (HN : Hid (ps.length = np)) (HG : Hid (goodPc ps = true)) (hA : A ≤ 24) (hH : H ≤ 24) (hig : hi ≤ g) (hBg : B0 ≤ g) :
    ∀ (n a b : Nat) (ks : List Int) (M : Int) (w : World), a + b ≤ n → 1 ≤ a → a ≤ A → 1 ≤ b → b ≤ H → 0 ≤ M → M + ((a * b : Nat) : Int) ≤ 1000 → Hid (CntOk ps.length M ks) → Hid (Seg w lo hi C0 (flat3 ps)) → Hid (Worth w B0 X (valB ps tu) (fun a' b' => 1 ≤ a' ∧ 1 ≤ b' ∧ a' ≤ A ∧ b' ≤ H)) → Hid (Arr w g T ks) →
    Calls Try.prog 67 #[.agg #[.int .i64 (A : Int), .int .i64 (H : Int), .slice C0 np cp0, .bool tu, .func (.func 75) #[] #[.pointer (some ⟨X, 0, none⟩)]], .agg #[.int .i64 (a : Int), .int .i64 (b : Int)], .slice (some ⟨g, 0, none⟩) np np] w (RetCnt g T (cntF ps tu a b ks) w) := by
  intro n
  induction n with
  | zero => intro a b ks M w h ha; omega
  | succ n ih =>
    intro a b ks M w hab a1 aA b1 bH hM hMb HC HS HW HA
    have IH := Lib.hid ih
    clear ih
    have hn4 : np ≤ 4 := by rw [← HN.out]; exact (goodPc_at HG.out).2.1
    have hgw := HA.out.lt
    obtain ⟨o, ho⟩ : ∃ o, fcP ps tu a b = o := ⟨_, rfl⟩
    obtain ⟨W1, hW1⟩ : ∃ W1, (w.alloc (.cells #[.int .i64 (A : Int), .int .i64 (H : Int), .slice C0 np cp0, .bool tu, .func (.func 75) #[] #[.pointer (some ⟨X, 0, none⟩)]] 59)).alloc (.cells #[.int .i64 (a : Int), .int .i64 (b : Int)] 55) = W1 := ⟨_, rfl⟩
    have hb1 : Below w.heap.size w W1 := by rw [← hW1]; exact ((Below.refl _ _).alloc (Nat.le_refl _) _).alloc (by simp) _
    have hz1 : W1.heap.size = w.heap.size + 2 := by rw [← hW1]; simp
    have k0 : W1.heap[w.heap.size]? = some (.cells #[.int .i64 (A : Int), .int .i64 (H : Int), .slice C0 np cp0, .bool tu, .func (.func 75) #[] #[.pointer (some ⟨X, 0, none⟩)]] 59 (0, 0)) := by rw [← hW1]; exact (alloc_old _ (by simp) _).trans (new_at _ _ rfl)
    have k1' : W1.heap[w.heap.size + 1]? = some (.cells #[.int .i64 (a : Int), .int .i64 (b : Int)] 55 (0, 0)) := by rw [← hW1]; exact new_at _ _ (by simp)
    have hcut := sheetCut_any A H a b X B0 C0 np cp0 ps lo hi tu W1 HN.out (by omega) (HS.out.below hb1 (by omega)) (by omega) HG.out hA hH a1 aA b1 bH (HW.out.below hb1 (by omega)) (by omega) o ho
    have HCUT := Lib.hid hcut
    have HW1 := Lib.hid hW1
    have HB1 := Lib.hid hb1
    have HK0 := Lib.hid k0
    have HK1 := Lib.hid k1'
    clear hcut hW1 hb1 k0 k1'
    have hz1' : w.heap.size + 2 ≤ W1.heap.size := by omega
    clear hz1
    cases o with
    | some c =>
      obtain ⟨⟨ca, cb⟩, da, db⟩ := c
      have hm := (fcP_mem ho).1
      have hl := cut_less hm a1 b1
      have HCF := Lib.hid (cntF_cut a1 b1 ho ks)
      have hpa : a * b = ca * cb + da * db := by
        rcases mem_cutsL.1 hm with ⟨k, k1, k2, e⟩ | ⟨k, k1, k2, e⟩
        · simp only [Prod.mk.injEq] at e
          obtain ⟨⟨rfl, rfl⟩, rfl, rfl⟩ := e
          exact cut_area k2
        · simp only [Prod.mk.injEq] at e
          obtain ⟨⟨rfl, rfl⟩, rfl, rfl⟩ := e
          exact cut_area2 k2
      simp only [] at hl HCF
      have HM1 := Lib.hid (show M + ((ca * cb : Nat) : Int) ≤ 1000 by rw [hpa] at hMb; push_cast at hMb ⊢; have h0 : (0 : Int) ≤ (da : Int) * (db : Int) := Int.mul_nonneg (by omega) (by omega); omega)
      have HM2 := Lib.hid (show M + ((ca * cb : Nat) : Int) + ((da * db : Nat) : Int) ≤ 1000 by rw [hpa] at hMb; push_cast at hMb ⊢; omega)
      obtain ⟨⟨l1, l2, l3, l4, l5⟩, l6, l7, l8, l9, l10⟩ := hl
      have HC2 := Lib.hid (cntF_ok ps tu _ ca cb ks M (Nat.le_refl _) l1 l2 hM HC.out)
      have HM3 := Lib.hid (show 0 ≤ M + ((ca * cb : Nat) : Int) by have : (0 : Int) ≤ ((ca * cb : Nat) : Int) := Int.natCast_nonneg _; omega)
      clear hpa hMb ho hm
      go_enter Try.func67, Try.ntmps67
      go_wp2_with fail
      rw [HW1.out]
      refine HCUT.out.mono ?_
      rintro e w2 ⟨hb2, he⟩
      simp only [] at he
      subst he
      have HB2 := Lib.hid (HB1.out.trans (hb2.mono (by omega)))
      have hz2 := hb2.size
      obtain ⟨W2, hW2⟩ : ∃ W2, (w2.alloc (.cells #[.int .i64 (ca : Int), .int .i64 (cb : Int)] 55)).alloc (.cells #[.int .i64 (da : Int), .int .i64 (db : Int)] 55) = W2 := ⟨_, rfl⟩
      have hbW : Below w2.heap.size w2 W2 := by rw [← hW2]; exact ((Below.refl _ _).alloc (Nat.le_refl _) _).alloc (by simp) _
      have hzW : W2.heap.size = w2.heap.size + 2 := by rw [← hW2]; simp
      have m0 : W2.heap[w.heap.size]? = _ := (hbW.block _ (by omega)).trans ((hb2.block _ (by omega)).trans HK0.out)
      have m1 : W2.heap[w2.heap.size]? = some (.cells #[.int .i64 (ca : Int), .int .i64 (cb : Int)] 55 (0, 0)) := by rw [← hW2]; exact (alloc_old _ (by simp) _).trans (new_at _ _ rfl)
      have m2 : W2.heap[w2.heap.size + 1]? = some (.cells #[.int .i64 (da : Int), .int .i64 (db : Int)] 55 (0, 0)) := by rw [← hW2]; exact new_at _ _ (by simp)
      have HBW := Lib.hid (HB2.out.trans (hbW.mono (by omega)))
      have HM0 := Lib.hid m0
      have HMA := Lib.hid m1
      have HMB := Lib.hid m2
      have HWW := Lib.hid hW2
      have hzW' : w2.heap.size + 2 ≤ W2.heap.size := by omega
      have j0 := cell_of m0 0
      have j1 := cell_of m0 1
      have j2 := cell_of m0 2
      have j3 := cell_of m0 3
      have j4 := cell_of m0 4
      have j5 := cell_of m1 0
      have j6 := cell_of m1 1
      rw [← hW2] at j0 j1 j2 j3 j4 j5 j6
      clear hb2 hbW m0 m1 m2 hW2 hzW
      have HS2 := Lib.hid (HS.out.below HBW.out (by omega))
      have HW2 := Lib.hid (HW.out.below HBW.out (by omega))
      have HA2 := Lib.hid (HA.out.keep (HBW.out.block g hgw))
      go_wp2_with fail
      rw [HWW.out]
      clear j0 j1 j2 j3 j4 j5 j6
      refine (IH.out ca cb ks M W2 (by omega) l1 (by omega) l2 (by omega) hM HM1.out HC HS2 HW2 HA2).mono ?_
      rintro e w3 ⟨rfl, ha3, ho3⟩
      have HS3 := Lib.hid (HS2.out.only ho3 (by omega) (fun g' h => .inr (by have : g' = g := h; omega)))
      have HW3 := Lib.hid (HW2.out.only ho3 hBg HA2.out.lt)
      have HA3 := Lib.hid ha3
      have HO3 := Lib.hid ((only_b (g := g) HBW.out).trans ho3)
      have m0 := (ho3.block _ (by omega) (by show ¬ w.heap.size = g; omega)).trans HM0.out
      have m2 := (ho3.block _ (by omega) (by show ¬ w2.heap.size + 1 = g; omega)).trans HMB.out
      have j0 := cell_of m0 0
      have j1 := cell_of m0 1
      have j2 := cell_of m0 2
      have j3 := cell_of m0 3
      have j4 := cell_of m0 4
      have j5 := cell_of m2 0
      have j6 := cell_of m2 1
      clear ha3 ho3 m0 m2
      go_wp2_with fail
      refine (IH.out da db _ _ w3 (by omega) l6 (by omega) l7 (by omega) HM3.out HM2.out HC2 HS3 HW3 HA3).mono ?_
      rintro e w4 ⟨rfl, ha4, ho4⟩
      have HA4 := Lib.hid ha4
      have HO4 := Lib.hid (HO3.out.trans ho4)
      clear ha4 ho4 j0 j1 j2 j3 j4 j5 j6
      go_wp2
      go_end0
      exact ⟨rfl, by rw [HCF.out]; exact HA4.out, HO4.out⟩
    | none =>
      obtain ⟨v, hv⟩ : ∃ v, valB ps tu a b = v := ⟨_, rfl⟩
      have HV := Lib.hid hv
      have hvb := valB_bd4 (goodPc_vals HG.out) tu a b a1 (by omega) b1 (by omega)
      rw [hv] at hvb
      go_enter Try.func67, Try.ntmps67
      go_wp2_with fail
      rw [HW1.out]
      refine HCUT.out.mono ?_
      rintro e w2 ⟨hb2, he⟩
      simp only [] at he
      subst he
      have HB2 := Lib.hid (HB1.out.trans (hb2.mono (by omega)))
      have hz2 := hb2.size
      obtain ⟨W2, hW2⟩ : ∃ W2, (w2.alloc (.cells #[.int .i64 0, .int .i64 0] 55)).alloc (.cells #[.int .i64 0, .int .i64 0] 55) = W2 := ⟨_, rfl⟩
      have hbW : Below w2.heap.size w2 W2 := by rw [← hW2]; exact ((Below.refl _ _).alloc (Nat.le_refl _) _).alloc (by simp) _
      have hzW : W2.heap.size = w2.heap.size + 2 := by rw [← hW2]; simp
      have m0 : W2.heap[w.heap.size]? = _ := (hbW.block _ (by omega)).trans ((hb2.block _ (by omega)).trans HK0.out)
      have m1 : W2.heap[w.heap.size + 1]? = _ := (hbW.block _ (by omega)).trans ((hb2.block _ (by omega)).trans HK1.out)
      have HBW := Lib.hid (HB2.out.trans (hbW.mono (by omega)))
      have HM0 := Lib.hid m0
      have HMA := Lib.hid m1
      have HWW := Lib.hid hW2
      have hzW' : w2.heap.size + 2 ≤ W2.heap.size := by omega
      have hnew : (W2.alloc (.cells #[.int .i64 (a : Int), .int .i64 (b : Int)] 55)).heap[w2.heap.size + 1 + 1]? = some (.cells #[.int .i64 (a : Int), .int .i64 (b : Int)] 55 (0, 0)) := by rw [show w2.heap.size + 1 + 1 = W2.heap.size by omega]; exact new_at W2 _ rfl
      have HNEW := Lib.hid hnew
      have j4 := cell_of m0 4
      have j5 := cell_of m1 0
      have j6 := cell_of m1 1
      rw [← hW2] at j4 j5 j6
      clear hb2 hbW m0 m1 hW2 hzW hnew
      have HS2 := Lib.hid (HS.out.below HBW.out (by omega))
      have HW2 := Lib.hid (HW.out.below HBW.out (by omega))
      have HA2 := Lib.hid (HA.out.keep (HBW.out.block g hgw))
      go_wp2_with fail
      rw [HWW.out]
      clear j4 j5 j6
      refine (worth_any B0 X (w2.heap.size + 1 + 1) 1 1 (valB ps tu) _ [(a, b)] _ (HW2.out.below ((Below.refl W2.heap.size W2).alloc (Nat.le_refl _) _) (by omega)) (by simp; omega) rfl (by omega) (heap_lt HNEW.out) (one_cell HNEW.out) (fun p hp => ?_) (fun p hp => ?_) v (by rw [sumB_one]; exact HV.out)).mono ?_
      · simp at hp; subst hp; exact ⟨a1, b1, aA, bH⟩
      · simp at hp; subst hp; rw [show valB ps tu (a, b).1 (a, b).2 = v from HV.out]; omega
      rintro e w3 ⟨rfl, hb3⟩
      have h23 : Below W2.heap.size W2 w3 := ((Below.refl _ _).alloc (Nat.le_refl _) _).trans (hb3.mono (by simp))
      have HB3 := Lib.hid (HBW.out.trans (h23.mono (by omega)))
      have hz3 := h23.size
      have m0 := (h23.block _ (by omega)).trans HM0.out
      have m1 := (h23.block _ (by omega)).trans HMA.out
      have HA3 := Lib.hid (HA2.out.keep (h23.block g (by omega)))
      have HS3 := Lib.hid (HS2.out.below h23 (by omega))
      have HW3 := Lib.hid (HW2.out.below h23 (by omega))
      clear hb3 h23
      by_cases h0 : 0 < v
      · obtain ⟨i, hi'⟩ := come_to a1 b1 (by rw [hv]; exact h0) ho
        have HCF := Lib.hid (cntF_kind a1 b1 ho (by rw [hv]; exact h0) hi' ks)
        rw [hv] at hi'
        have hin : i < np := by rw [← HN.out]; exact kindK_lt hi'
        have hkl : ks.length = np := by rw [HC.out.1]; exact HN.out
        obtain ⟨u, hu⟩ : ∃ u, ks.getD i 0 = u := ⟨_, rfl⟩
        have hus : ks[i]? = some u := by rw [List.getElem?_eq_getElem (by omega), ← hu]; simp [List.getD, show i < ks.length by omega]
        have hub := HC.out.2 u (List.mem_of_getElem? hus)
        have hprod : (0 : Int) ≤ ((a * b : Nat) : Int) := Int.natCast_nonneg _
        have hM1 : M ≤ 1000 := by omega
        have hwu : IntKind.i64.wrap (u + 1) = u + 1 := by rw [IntKind.wrap_i64]; omega
        rw [hu] at HCF
        have HKI := Lib.hid (show kindI ps tu a b v = (i : Int) by rw [kindI, hi'])
        have hdt : decide (0 < v) = true := decide_eq_true h0
        have hin' : (i : Int) < (np : Int) := by omega
        have j0 := cell_of m0 0
        have j1 := cell_of m0 1
        have j2 := cell_of m0 2
        have j3 := cell_of m0 3
        have j4 := cell_of m0 4
        have j5 := cell_of m1 0
        have j6 := cell_of m1 1
        clear hv ho hi' hu hMb hprod m0 m1
        go_wp2_with fail
        refine (kindOf_any A H a b X B0 C0 np cp0 ps lo hi tu (valB ps tu) w3 HN.out (by omega) HS3.out (by omega) hn4 a1 aA b1 bH HW3.out (by omega) (by rw [HV.out]; omega) v HV.out _ HKI.out).mono ?_
        rintro e w4 ⟨rfl, hb4⟩
        have HA4 := Lib.hid (HA3.out.keep (hb4.block g (by omega)))
        have HO4 := Lib.hid ((only_b (g := g) HB3.out).trans (only_b (g := g) hb4))
        have c0 := HA4.out.cell hus
        have f0 := HA4.out.frozen i
        clear hb4 j0 j1 j2 j3 j4 j5 j6
        go_wp2
        go_end0
        exact ⟨rfl, by rw [HCF.out]; exact HA4.out.set i _, HO4.out.setCell (p := ⟨g, i, none⟩) rfl _⟩
      · have HCF := Lib.hid (cntF_no a1 b1 ho (by rw [hv]; exact h0) ks)
        have hdt : decide (0 < v) = false := decide_eq_false h0
        clear hv ho hMb m0 m1
        go_wp2
        go_end0
        exact ⟨rfl, by rw [HCF.out]; exact HA3.out, only_b (g := g) HB3.out⟩
end Go.Proofs.Ytjpejhpilfjheaa

/-
  The first cut of a sheet, and the written program's FirstCut.
  Conditions: none.
-/
import Derived.Test.YtjpejhpilfjheaaBdFI
import Derived.Test.YtjpejhpilfjheaaBdFS
namespace Go.Proofs.Ytjpejhpilfjheaa
set_option linter.unusedVariables false
open Go.RowKit

set_option maxRecDepth 100000 in
set_option maxHeartbeats 4000000 in
theorem sheetCut_any (A H a b X B0 : Nat) (C0 : Option Addr) (np cp0 : Nat) (ps : List (Int × Int × Int)) (lo hi : Nat) (tu : Bool) (w : World) (hn : ps.length = np) (hlen : np ≤ 1048576) (hs : Seg w lo hi C0 (flat3 ps)) (hB : hi ≤ w.heap.size) (hg : goodPc ps = true) (hA : A ≤ 24) (hH : H ≤ 24) (a1 : 1 ≤ a) (aA : a ≤ A) (b1 : 1 ≤ b) (bH : b ≤ H)
    (hW : Worth w B0 X (valB ps tu) (fun a' b' => 1 ≤ a' ∧ 1 ≤ b' ∧ a' ≤ A ∧ b' ≤ H)) (hB0 : B0 ≤ w.heap.size) (o : Option Cut) (ho : fcP ps tu a b = o) :
    Calls Try.prog 54 #[.agg #[.int .i64 (A : Int), .int .i64 (H : Int), .slice C0 np cp0, .bool tu, .func (.func 75) #[] #[.pointer (some ⟨X, 0, none⟩)]], .agg #[.int .i64 (a : Int), .int .i64 (b : Int)]] w (RetFC o w) := by
  have hnp : np ≤ 4 := by rw [← hn]; exact (goodPc_at hg).2.1
  have hbn : ∀ W : World, (Instr.build 55 #[]).run Try.prog W = .ok (.agg #[.int .i64 0, .int .i64 0]) W := fun W => run_build W 55 _ _ (by kernel_rfl)
  obtain ⟨v, hv⟩ : ∃ v, valB ps tu a b = v := ⟨_, rfl⟩
  have hvb := valB_bd4 (goodPc_vals hg) tu a b a1 (by omega) b1 (by omega)
  obtain ⟨W1, hW1⟩ : ∃ W1, (((w.alloc (.cells #[.int .i64 (A : Int), .int .i64 (H : Int), .slice C0 np cp0, .bool tu, .func (.func 75) #[] #[.pointer (some ⟨X, 0, none⟩)]] 59)).alloc (.cells #[.int .i64 (a : Int), .int .i64 (b : Int)] 55)).alloc (.cells #[.int .i64 0, .int .i64 0] 55)).alloc (.cells #[.int .i64 0, .int .i64 0] 55) = W1 := ⟨_, rfl⟩
  have hb1 : Below w.heap.size w W1 := by rw [← hW1]; exact ((((Below.refl _ _).alloc (Nat.le_refl _) _).alloc (by first | (simp; done) | (simp; omega)) _).alloc (by first | (simp; done) | (simp; omega)) _).alloc (by first | (simp; done) | (simp; omega)) _
  have hz1 : W1.heap.size = w.heap.size + 4 := by rw [← hW1]; simp
  have k0 : W1.heap[w.heap.size]? = some (.cells #[.int .i64 (A : Int), .int .i64 (H : Int), .slice C0 np cp0, .bool tu, .func (.func 75) #[] #[.pointer (some ⟨X, 0, none⟩)]] 59 (0, 0)) := by rw [← hW1]; exact (alloc_old _ (by first | (simp; done) | (simp; omega)) _).trans ((alloc_old _ (by first | (simp; done) | (simp; omega)) _).trans ((alloc_old _ (by first | (simp; done) | (simp; omega)) _).trans (new_at _ _ rfl)))
  have k1 : W1.heap[w.heap.size + 1]? = some (.cells #[.int .i64 (a : Int), .int .i64 (b : Int)] 55 (0, 0)) := by rw [← hW1]; exact (alloc_old _ (by first | (simp; done) | (simp; omega)) _).trans ((alloc_old _ (by first | (simp; done) | (simp; omega)) _).trans (new_at _ _ (by simp)))
  have k2 : W1.heap[w.heap.size + 1 + 1]? = some (.cells #[.int .i64 0, .int .i64 0] 55 (0, 0)) := by rw [← hW1]; exact (alloc_old _ (by first | (simp; done) | (simp; omega)) _).trans (new_at _ _ (by simp))
  have k3 : W1.heap[w.heap.size + 1 + 1 + 1]? = some (.cells #[.int .i64 0, .int .i64 0] 55 (0, 0)) := by rw [← hW1]; exact new_at _ _ (by simp)
  have HB1 := Lib.hid hb1
  have HKS := Lib.hid (And.intro k0 (And.intro k1 (And.intro k2 k3)))
  have HW1 := Lib.hid hW1
  have HW := Lib.hid hW
  have HV := Lib.hid hv
  have HG := Lib.hid hg
  have HN := Lib.hid hn
  have HS := Lib.hid hs
  have HO := Lib.hid ho
  have HVB := Lib.hid hvb
  have hz1' : w.heap.size + 4 ≤ W1.heap.size := by omega
  have hnew : (W1.alloc (.cells #[.int .i64 (a : Int), .int .i64 (b : Int)] 55)).heap[w.heap.size + 4]? = some (.cells #[.int .i64 (a : Int), .int .i64 (b : Int)] 55 (0, 0)) := by rw [← hz1]; exact new_at W1 _ rfl
  have HNEW := Lib.hid hnew
  clear hb1 k0 k1 k2 k3 hW1 hW hv hg hn hs ho hvb hz1 hnew
  go_enter Try.func54, Try.ntmps54
  go_wp2_with fail
  rw [HW1.out]
  refine (worth_any B0 X (w.heap.size + 4) 1 1 (valB ps tu) _ [(a, b)] _ (HW.out.below (HB1.out.alloc HB1.out.size _) hB0) (by simp; omega) rfl (by omega) (heap_lt HNEW.out) (one_cell HNEW.out) (fun p hp => ?_) (fun p hp => ?_) v (by rw [sumB_one]; exact HV.out)).mono ?_
  · simp at hp; subst hp; exact ⟨a1, b1, aA, bH⟩
  · simp at hp; subst hp; have := HVB.out; simp only []; omega
  rintro e w2 ⟨rfl, hb2⟩
  have h12 : Below W1.heap.size W1 w2 := ((Below.refl _ _).alloc (Nat.le_refl _) _).trans (hb2.mono (by simp))
  have HB2 := Lib.hid (HB1.out.trans (h12.mono HB1.out.size))
  have k0 := (h12.block _ (heap_lt HKS.out.1)).trans HKS.out.1
  have k1 := (h12.block _ (heap_lt HKS.out.2.1)).trans HKS.out.2.1
  have k2 := (h12.block _ (heap_lt HKS.out.2.2.1)).trans HKS.out.2.2.1
  have k3 := (h12.block _ (heap_lt HKS.out.2.2.2)).trans HKS.out.2.2.2
  have HK0 := Lib.hid k0
  have HK1 := Lib.hid k1
  have HK2 := Lib.hid k2
  have HK3 := Lib.hid k3
  have hz2 := HB2.out.size
  clear hb2 h12 HKS k0 k1 k2 k3 HNEW HW1
  by_cases hv0 : v = 0
  · subst hv0
    obtain rfl : o = none := by rw [← HO.out, fcP, HV.out, if_pos (.inl rfl)]
    have s2 := set_two HK2.out (.int .i64 0) (.int .i64 0)
    have hg3 : ((w2.setCell ⟨w.heap.size + 1 + 1, 0, none⟩ (.int .i64 0)).setCell ⟨w.heap.size + 1 + 1, 1, none⟩ (.int .i64 0)).heap[w.heap.size + 1 + 1 + 1]? = _ := (set_far _ (by show w.heap.size + 1 + 1 + 1 ≠ w.heap.size + 1 + 1; omega) _).trans ((set_far _ (by show w.heap.size + 1 + 1 + 1 ≠ w.heap.size + 1 + 1; omega) _).trans HK3.out)
    have s3 := set_two hg3 (.int .i64 0) (.int .i64 0)
    have x2 : ((((w2.setCell ⟨w.heap.size + 1 + 1, 0, none⟩ (.int .i64 0)).setCell ⟨w.heap.size + 1 + 1, 1, none⟩ (.int .i64 0)).setCell ⟨w.heap.size + 1 + 1 + 1, 0, none⟩ (.int .i64 0)).setCell ⟨w.heap.size + 1 + 1 + 1, 1, none⟩ (.int .i64 0)).heap[w.heap.size + 1 + 1]? = _ := (set_far _ (by show w.heap.size + 1 + 1 ≠ w.heap.size + 1 + 1 + 1; omega) _).trans ((set_far _ (by show w.heap.size + 1 + 1 ≠ w.heap.size + 1 + 1 + 1; omega) _).trans s2)
    have hB5 : Below w.heap.size w ((((w2.setCell ⟨w.heap.size + 1 + 1, 0, none⟩ (.int .i64 0)).setCell ⟨w.heap.size + 1 + 1, 1, none⟩ (.int .i64 0)).setCell ⟨w.heap.size + 1 + 1 + 1, 0, none⟩ (.int .i64 0)).setCell ⟨w.heap.size + 1 + 1 + 1, 1, none⟩ (.int .i64 0)) := (((HB2.out.setCell (p := ⟨w.heap.size + 1 + 1, 0, none⟩) (by show w.heap.size ≤ w.heap.size + 1 + 1; omega) _).setCell (p := ⟨w.heap.size + 1 + 1, 1, none⟩) (by show w.heap.size ≤ w.heap.size + 1 + 1; omega) _).setCell (p := ⟨w.heap.size + 1 + 1 + 1, 0, none⟩) (by show w.heap.size ≤ w.heap.size + 1 + 1 + 1; omega) _).setCell (p := ⟨w.heap.size + 1 + 1 + 1, 1, none⟩) (by show w.heap.size ≤ w.heap.size + 1 + 1 + 1; omega) _
    have HZ2 := Lib.hid x2
    have HZ3 := Lib.hid s3
    have HZB := Lib.hid hB5
    have c20 := cell_of HK2.out 0
    have c21 := cell_of HK2.out 1
    have c30 := cell_of HK3.out 0
    have c31 := cell_of HK3.out 1
    have f20 := frozen_of HK2.out 0
    have f21 := frozen_of HK2.out 1
    have f30 := frozen_of HK3.out 0
    have f31 := frozen_of HK3.out 1
    clear s2 hg3 s3 x2 hB5
    go_wp2
    have x2 := HZ2.out
    have x3 := HZ3.out
    have hB5 := HZB.out
    clear HZ2 HZ3 HZB c20 c21 c30 c31 f20 f21 f30 f31
    generalize ((((w2.setCell ⟨w.heap.size + 1 + 1, 0, none⟩ (.int .i64 0)).setCell ⟨w.heap.size + 1 + 1, 1, none⟩ (.int .i64 0)).setCell ⟨w.heap.size + 1 + 1 + 1, 0, none⟩ (.int .i64 0)).setCell ⟨w.heap.size + 1 + 1 + 1, 1, none⟩ (.int .i64 0)) = Y at x2 x3 hB5 ⊢
    have d0 := cell_of x2 0
    have d1 := cell_of x2 1
    have d2 := cell_of x3 0
    have d3 := cell_of x3 1
    refine bodyPost_ret (v := .tuple #[.agg #[(.int .i64 0), (.int .i64 0)], .agg #[(.int .i64 0), (.int .i64 0)], .bool false]) (by simp [results, Try.results54, go_sem, d0, d1, d2, d3]) rfl ⟨hB5, rfl⟩
  · have hvd : (v == 0) = false := by rw [beq_eq_false_iff_ne]; exact hv0
    obtain ⟨kk, hkk⟩ : ∃ kk, kindI ps tu a b v = kk := ⟨_, rfl⟩
    have hks := (kind_some (ps := ps) (tu := tu) (a := a) (b := b) (v := v)).1
    rw [hkk] at hks
    have HKK := Lib.hid hkk
    have HKS := Lib.hid hks
    clear hkk hks
    have e0 := cell_of HK0.out 0
    have e1 := cell_of HK0.out 1
    have e2 := cell_of HK0.out 2
    have e3 := cell_of HK0.out 3
    have e4 := cell_of HK0.out 4
    have e5 := cell_of HK1.out 0
    have e6 := cell_of HK1.out 1
    go_wp2_with fail
    refine (kindOf_any A H a b X B0 C0 np cp0 ps lo hi tu (valB ps tu) w2 HN.out hlen (HS.out.below HB2.out hB) (by omega) hnp a1 aA b1 bH (HW.out.below HB2.out hB0) (by omega) (by have := HVB.out; omega) v HV.out kk HKK.out).mono ?_
    rintro e w3 ⟨rfl, hb3⟩
    have HB3 := Lib.hid (HB2.out.trans (hb3.mono hz2))
    have HL0 := Lib.hid ((hb3.block _ (heap_lt HK0.out)).trans HK0.out)
    have HL1 := Lib.hid ((hb3.block _ (heap_lt HK1.out)).trans HK1.out)
    have HL2 := Lib.hid ((hb3.block _ (heap_lt HK2.out)).trans HK2.out)
    have HL3 := Lib.hid ((hb3.block _ (heap_lt HK3.out)).trans HK3.out)
    have hz3 := HB3.out.size
    clear hb3 e0 e1 e2 e3 e4 e5 e6 HK0 HK1 HK2 HK3
    by_cases hpos : 0 ≤ kk
    · have hpd : decide (0 ≤ kk) = true := decide_eq_true hpos
      obtain rfl : o = none := by rw [← HO.out, fcP, HV.out, if_pos (.inr (HKS.out.1 hpos))]
      have s2 := set_two HL2.out (.int .i64 0) (.int .i64 0)
      have hg3 : ((w3.setCell ⟨w.heap.size + 1 + 1, 0, none⟩ (.int .i64 0)).setCell ⟨w.heap.size + 1 + 1, 1, none⟩ (.int .i64 0)).heap[w.heap.size + 1 + 1 + 1]? = _ := (set_far _ (by show w.heap.size + 1 + 1 + 1 ≠ w.heap.size + 1 + 1; omega) _).trans ((set_far _ (by show w.heap.size + 1 + 1 + 1 ≠ w.heap.size + 1 + 1; omega) _).trans HL3.out)
      have s3 := set_two hg3 (.int .i64 0) (.int .i64 0)
      have x2 : ((((w3.setCell ⟨w.heap.size + 1 + 1, 0, none⟩ (.int .i64 0)).setCell ⟨w.heap.size + 1 + 1, 1, none⟩ (.int .i64 0)).setCell ⟨w.heap.size + 1 + 1 + 1, 0, none⟩ (.int .i64 0)).setCell ⟨w.heap.size + 1 + 1 + 1, 1, none⟩ (.int .i64 0)).heap[w.heap.size + 1 + 1]? = _ := (set_far _ (by show w.heap.size + 1 + 1 ≠ w.heap.size + 1 + 1 + 1; omega) _).trans ((set_far _ (by show w.heap.size + 1 + 1 ≠ w.heap.size + 1 + 1 + 1; omega) _).trans s2)
      have hB5 : Below w.heap.size w ((((w3.setCell ⟨w.heap.size + 1 + 1, 0, none⟩ (.int .i64 0)).setCell ⟨w.heap.size + 1 + 1, 1, none⟩ (.int .i64 0)).setCell ⟨w.heap.size + 1 + 1 + 1, 0, none⟩ (.int .i64 0)).setCell ⟨w.heap.size + 1 + 1 + 1, 1, none⟩ (.int .i64 0)) := (((HB3.out.setCell (p := ⟨w.heap.size + 1 + 1, 0, none⟩) (by show w.heap.size ≤ w.heap.size + 1 + 1; omega) _).setCell (p := ⟨w.heap.size + 1 + 1, 1, none⟩) (by show w.heap.size ≤ w.heap.size + 1 + 1; omega) _).setCell (p := ⟨w.heap.size + 1 + 1 + 1, 0, none⟩) (by show w.heap.size ≤ w.heap.size + 1 + 1 + 1; omega) _).setCell (p := ⟨w.heap.size + 1 + 1 + 1, 1, none⟩) (by show w.heap.size ≤ w.heap.size + 1 + 1 + 1; omega) _
      have HZ2 := Lib.hid x2
      have HZ3 := Lib.hid s3
      have HZB := Lib.hid hB5
      have c20 := cell_of HL2.out 0
      have c21 := cell_of HL2.out 1
      have c30 := cell_of HL3.out 0
      have c31 := cell_of HL3.out 1
      have f20 := frozen_of HL2.out 0
      have f21 := frozen_of HL2.out 1
      have f30 := frozen_of HL3.out 0
      have f31 := frozen_of HL3.out 1
      clear s2 hg3 s3 x2 hB5
      go_wp2
      have x2 := HZ2.out
      have x3 := HZ3.out
      have hB5 := HZB.out
      clear HZ2 HZ3 HZB c20 c21 c30 c31 f20 f21 f30 f31
      generalize ((((w3.setCell ⟨w.heap.size + 1 + 1, 0, none⟩ (.int .i64 0)).setCell ⟨w.heap.size + 1 + 1, 1, none⟩ (.int .i64 0)).setCell ⟨w.heap.size + 1 + 1 + 1, 0, none⟩ (.int .i64 0)).setCell ⟨w.heap.size + 1 + 1 + 1, 1, none⟩ (.int .i64 0)) = Y at x2 x3 hB5 ⊢
      have d0 := cell_of x2 0
      have d1 := cell_of x2 1
      have d2 := cell_of x3 0
      have d3 := cell_of x3 1
      refine bodyPost_ret (v := .tuple #[.agg #[(.int .i64 0), (.int .i64 0)], .agg #[(.int .i64 0), (.int .i64 0)], .bool false]) (by simp [results, Try.results54, go_sem, d0, d1, d2, d3]) rfl ⟨hB5, rfl⟩
    · have hpd : decide (0 ≤ kk) = false := decide_eq_false hpos
      have ho2 : fcut (valB ps tu) v a b = o := by rw [← HO.out, fcP, HV.out, if_neg (fun h => by rcases h with h | h; exact hv0 h; exact hpos (HKS.out.2 h))]
      have e4 := cell_of HL0.out 4
      have e5 := cell_of HL1.out 0
      have e6 := cell_of HL1.out 1
      go_wp2_with fail
      refine (firstCut_any A H a b B0 X (valB ps tu) w3 hA hH a1 aA b1 bH (HW.out.below HB3.out hB0) (by omega) (fun a' b' ha' hb' haA hbH => by have := valB_bd4 (goodPc_vals HG.out) tu a' b' ha' (by omega) hb' (by omega); omega) v HV.out o ho2).mono ?_
      rintro e w4 ⟨hb4, he⟩
      have HB4 := Lib.hid (HB3.out.trans (hb4.mono hz3))
      have h42 := (hb4.block _ (heap_lt HL2.out)).trans HL2.out
      have h43 := (hb4.block _ (heap_lt HL3.out)).trans HL3.out
      have HM2 := Lib.hid h42
      have HM3 := Lib.hid h43
      clear hb4 h42 h43 e4 e5 e6 ho2 hbn
      cases o with
      | none =>
        simp only [] at he
        subst he
        have s2 := set_two HM2.out (.int .i64 0) (.int .i64 0)
        have hg3 : ((w4.setCell ⟨w.heap.size + 1 + 1, 0, none⟩ (.int .i64 0)).setCell ⟨w.heap.size + 1 + 1, 1, none⟩ (.int .i64 0)).heap[w.heap.size + 1 + 1 + 1]? = _ := (set_far _ (by show w.heap.size + 1 + 1 + 1 ≠ w.heap.size + 1 + 1; omega) _).trans ((set_far _ (by show w.heap.size + 1 + 1 + 1 ≠ w.heap.size + 1 + 1; omega) _).trans HM3.out)
        have s3 := set_two hg3 (.int .i64 0) (.int .i64 0)
        have x2 : ((((w4.setCell ⟨w.heap.size + 1 + 1, 0, none⟩ (.int .i64 0)).setCell ⟨w.heap.size + 1 + 1, 1, none⟩ (.int .i64 0)).setCell ⟨w.heap.size + 1 + 1 + 1, 0, none⟩ (.int .i64 0)).setCell ⟨w.heap.size + 1 + 1 + 1, 1, none⟩ (.int .i64 0)).heap[w.heap.size + 1 + 1]? = _ := (set_far _ (by show w.heap.size + 1 + 1 ≠ w.heap.size + 1 + 1 + 1; omega) _).trans ((set_far _ (by show w.heap.size + 1 + 1 ≠ w.heap.size + 1 + 1 + 1; omega) _).trans s2)
        have hB5 : Below w.heap.size w ((((w4.setCell ⟨w.heap.size + 1 + 1, 0, none⟩ (.int .i64 0)).setCell ⟨w.heap.size + 1 + 1, 1, none⟩ (.int .i64 0)).setCell ⟨w.heap.size + 1 + 1 + 1, 0, none⟩ (.int .i64 0)).setCell ⟨w.heap.size + 1 + 1 + 1, 1, none⟩ (.int .i64 0)) := (((HB4.out.setCell (p := ⟨w.heap.size + 1 + 1, 0, none⟩) (by show w.heap.size ≤ w.heap.size + 1 + 1; omega) _).setCell (p := ⟨w.heap.size + 1 + 1, 1, none⟩) (by show w.heap.size ≤ w.heap.size + 1 + 1; omega) _).setCell (p := ⟨w.heap.size + 1 + 1 + 1, 0, none⟩) (by show w.heap.size ≤ w.heap.size + 1 + 1 + 1; omega) _).setCell (p := ⟨w.heap.size + 1 + 1 + 1, 1, none⟩) (by show w.heap.size ≤ w.heap.size + 1 + 1 + 1; omega) _
        have HZ2 := Lib.hid x2
        have HZ3 := Lib.hid s3
        have HZB := Lib.hid hB5
        have c20 := cell_of HM2.out 0
        have c21 := cell_of HM2.out 1
        have c30 := cell_of HM3.out 0
        have c31 := cell_of HM3.out 1
        have f20 := frozen_of HM2.out 0
        have f21 := frozen_of HM2.out 1
        have f30 := frozen_of HM3.out 0
        have f31 := frozen_of HM3.out 1
        clear s2 hg3 s3 x2 hB5
        go_wp2
        have x2 := HZ2.out
        have x3 := HZ3.out
        have hB5 := HZB.out
        clear HZ2 HZ3 HZB c20 c21 c30 c31 f20 f21 f30 f31
        generalize ((((w4.setCell ⟨w.heap.size + 1 + 1, 0, none⟩ (.int .i64 0)).setCell ⟨w.heap.size + 1 + 1, 1, none⟩ (.int .i64 0)).setCell ⟨w.heap.size + 1 + 1 + 1, 0, none⟩ (.int .i64 0)).setCell ⟨w.heap.size + 1 + 1 + 1, 1, none⟩ (.int .i64 0)) = Y at x2 x3 hB5 ⊢
        have d0 := cell_of x2 0
        have d1 := cell_of x2 1
        have d2 := cell_of x3 0
        have d3 := cell_of x3 1
        refine bodyPost_ret (v := .tuple #[.agg #[(.int .i64 0), (.int .i64 0)], .agg #[(.int .i64 0), (.int .i64 0)], .bool false]) (by simp [results, Try.results54, go_sem, d0, d1, d2, d3]) rfl ⟨hB5, rfl⟩
      | some c =>
        simp only [] at he
        subst he
        have s2 := set_two HM2.out (.int .i64 (c.1.1 : Int)) (.int .i64 (c.1.2 : Int))
        have hg3 : ((w4.setCell ⟨w.heap.size + 1 + 1, 0, none⟩ (.int .i64 (c.1.1 : Int))).setCell ⟨w.heap.size + 1 + 1, 1, none⟩ (.int .i64 (c.1.2 : Int))).heap[w.heap.size + 1 + 1 + 1]? = _ := (set_far _ (by show w.heap.size + 1 + 1 + 1 ≠ w.heap.size + 1 + 1; omega) _).trans ((set_far _ (by show w.heap.size + 1 + 1 + 1 ≠ w.heap.size + 1 + 1; omega) _).trans HM3.out)
        have s3 := set_two hg3 (.int .i64 (c.2.1 : Int)) (.int .i64 (c.2.2 : Int))
        have x2 : ((((w4.setCell ⟨w.heap.size + 1 + 1, 0, none⟩ (.int .i64 (c.1.1 : Int))).setCell ⟨w.heap.size + 1 + 1, 1, none⟩ (.int .i64 (c.1.2 : Int))).setCell ⟨w.heap.size + 1 + 1 + 1, 0, none⟩ (.int .i64 (c.2.1 : Int))).setCell ⟨w.heap.size + 1 + 1 + 1, 1, none⟩ (.int .i64 (c.2.2 : Int))).heap[w.heap.size + 1 + 1]? = _ := (set_far _ (by show w.heap.size + 1 + 1 ≠ w.heap.size + 1 + 1 + 1; omega) _).trans ((set_far _ (by show w.heap.size + 1 + 1 ≠ w.heap.size + 1 + 1 + 1; omega) _).trans s2)
        have hB5 : Below w.heap.size w ((((w4.setCell ⟨w.heap.size + 1 + 1, 0, none⟩ (.int .i64 (c.1.1 : Int))).setCell ⟨w.heap.size + 1 + 1, 1, none⟩ (.int .i64 (c.1.2 : Int))).setCell ⟨w.heap.size + 1 + 1 + 1, 0, none⟩ (.int .i64 (c.2.1 : Int))).setCell ⟨w.heap.size + 1 + 1 + 1, 1, none⟩ (.int .i64 (c.2.2 : Int))) := (((HB4.out.setCell (p := ⟨w.heap.size + 1 + 1, 0, none⟩) (by show w.heap.size ≤ w.heap.size + 1 + 1; omega) _).setCell (p := ⟨w.heap.size + 1 + 1, 1, none⟩) (by show w.heap.size ≤ w.heap.size + 1 + 1; omega) _).setCell (p := ⟨w.heap.size + 1 + 1 + 1, 0, none⟩) (by show w.heap.size ≤ w.heap.size + 1 + 1 + 1; omega) _).setCell (p := ⟨w.heap.size + 1 + 1 + 1, 1, none⟩) (by show w.heap.size ≤ w.heap.size + 1 + 1 + 1; omega) _
        have HZ2 := Lib.hid x2
        have HZ3 := Lib.hid s3
        have HZB := Lib.hid hB5
        have c20 := cell_of HM2.out 0
        have c21 := cell_of HM2.out 1
        have c30 := cell_of HM3.out 0
        have c31 := cell_of HM3.out 1
        have f20 := frozen_of HM2.out 0
        have f21 := frozen_of HM2.out 1
        have f30 := frozen_of HM3.out 0
        have f31 := frozen_of HM3.out 1
        clear s2 hg3 s3 x2 hB5
        go_wp2
        have x2 := HZ2.out
        have x3 := HZ3.out
        have hB5 := HZB.out
        clear HZ2 HZ3 HZB c20 c21 c30 c31 f20 f21 f30 f31
        generalize ((((w4.setCell ⟨w.heap.size + 1 + 1, 0, none⟩ (.int .i64 (c.1.1 : Int))).setCell ⟨w.heap.size + 1 + 1, 1, none⟩ (.int .i64 (c.1.2 : Int))).setCell ⟨w.heap.size + 1 + 1 + 1, 0, none⟩ (.int .i64 (c.2.1 : Int))).setCell ⟨w.heap.size + 1 + 1 + 1, 1, none⟩ (.int .i64 (c.2.2 : Int))) = Y at x2 x3 hB5 ⊢
        have d0 := cell_of x2 0
        have d1 := cell_of x2 1
        have d2 := cell_of x3 0
        have d3 := cell_of x3 1
        refine bodyPost_ret (v := .tuple #[.agg #[(.int .i64 (c.1.1 : Int)), (.int .i64 (c.1.2 : Int))], .agg #[(.int .i64 (c.2.1 : Int)), (.int .i64 (c.2.2 : Int))], .bool true]) (by simp [results, Try.results54, go_sem, d0, d1, d2, d3]) rfl ⟨hB5, rfl⟩

set_option maxRecDepth 100000 in
set_option maxHeartbeats 2000000 in
theorem impl_FirstCut (x y : Int) (C0 : Option Addr) (np cp0 : Nat) (ps : List (Int × Int × Int)) (lo hi : Nat) (tu : Bool) (w : World) (hn : ps.length = np) (hlen : np ≤ 1048576) (hs : Seg w lo hi C0 (flat3 ps)) (hB : hi ≤ w.heap.size) (q : Bool) (hq : askP x y ps = q) (r : Bool × Int × Bool) (hr : fcR ps tu x y = r) :
    Calls Try.prog 27 #[.int .i64 x, .int .i64 y, .slice C0 np cp0, .bool tu] w (RetBIB r w) := by
  have HA := Lib.hid (sheetOf_any x y C0 np cp0 ps lo hi tu w hn hlen hs hB q hq)
  cases q
  · obtain rfl : (false, 0, false) = r := by rw [← hr]; exact (fcR_no hq).symm
    clear hr hn hs hq
    go_enter Try.func27, Try.ntmps27
    go_wp2_with fail
    refine HA.out.mono ?_
    rintro e w1 ⟨hb1, u, rfl, _, hu⟩
    obtain rfl := hu rfl
    have HB1 := Lib.hid hb1
    clear hb1
    go_wp2
    go_ret3
    exact ⟨rfl, HB1.out.alloc HB1.out.size _⟩
  · obtain ⟨h1, h2⟩ := askP_true.1 hq
    obtain ⟨a, b, rfl, rfl, ⟨a1, a2⟩, b1, b2⟩ := bdB_nat h1
    obtain ⟨o, ho⟩ : ∃ o, fcP ps tu a b = o := ⟨_, rfl⟩
    have hra : cutR o a = r := by rw [← hr, ← ho]; exact (fcR_yes hq).symm
    have HN := Lib.hid hn
    have HS := Lib.hid hs
    have HG := Lib.hid h2
    have HR := Lib.hid hra
    have HO := Lib.hid ho
    clear hq hr hra hn hs h1 h2 ho
    go_enter Try.func27, Try.ntmps27
    go_wp2_with fail
    refine HA.out.mono ?_
    rintro e w1 ⟨hb1, u, rfl, hu, _⟩
    obtain ⟨X, rfl, hW⟩ := hu rfl
    have HB1 := Lib.hid hb1
    have HW := Lib.hid hW
    have hz1 := hb1.size
    clear hb1 hW hu
    go_wp2_with fail
    refine (sheetCut_any a b a b X w1.heap.size C0 np cp0 ps lo hi tu _ HN.out hlen ((HS.out.below HB1.out hB).below ((Below.refl w1.heap.size w1).alloc (Nat.le_refl _) _) (by omega)) (by simp; omega) HG.out a2 b2 a1 (Nat.le_refl _) b1 (Nat.le_refl _) ((HW.out.below ((Below.refl w1.heap.size w1).alloc (Nat.le_refl _) _) (Nat.le_refl _)).mono (Nat.le_refl _) (fun a' b' h => ⟨h, rfl⟩)) (by simp) o HO.out).mono ?_
    rintro e w3 ⟨hb3, he⟩
    have HB3 := Lib.hid ((HB1.out.alloc hz1 _).trans (hb3.mono (by simp; omega)))
    have hz3 := HB3.out.size
    clear hb3
    cases o with
    | none =>
      obtain rfl : (false, 0, false) = r := HR.out
      simp only [] at he
      subst he
      go_wp2
      go_ret3
      exact ⟨rfl, (HB3.out.alloc hz3 _).alloc (by simp; omega) _⟩
    | some c =>
      simp only [] at he
      subst he
      have hc := (alloc_old _ (by simp) (.cells #[.int .i64 (c.2.1 : Int), .int .i64 (c.2.2 : Int)] 55)).trans (new_at w3 (.cells #[.int .i64 (c.1.1 : Int), .int .i64 (c.1.2 : Int)] 55) rfl)
      have c0 := cell_of hc 0
      have c1 := cell_of hc 1
      have HC := Lib.hid hc
      have hm := (fcP_mem HO.out).1
      have HBE := Lib.hid ((HB3.out.alloc hz3 (.cells #[.int .i64 (c.1.1 : Int), .int .i64 (c.1.2 : Int)] 55)).alloc (by simp; omega) (.cells #[.int .i64 (c.2.1 : Int), .int .i64 (c.2.2 : Int)] 55))
      clear hc
      by_cases hlt : c.1.1 < a
      · have hlt' : (c.1.1 : Int) < (a : Int) := by omega
        have hdt : decide ((c.1.1 : Int) < (a : Int)) = true := decide_eq_true hlt'
        obtain rfl : (true, (c.1.1 : Int), true) = r := by rw [← HR.out, cutR, if_pos hlt]
        go_wp2_with fail
        refine wp_region_held_drew (S := (fun wq => wq.heap[w3.heap.size]? = some (.cells #[.int .i64 (c.1.1 : Int), .int .i64 (c.1.2 : Int)] 55 (0, 0)))) (by kernel_rfl) HC.out (fun hH0 => ?_)
        refine wpAnyH_take (i := 0) (v := ?_) (ops_at rfl) (by kernel_rfl) (by kernel_rfl) (by kernel_rfl) (fun _ _ _ h => h) (Or.inl ⟨by rfl, ?ya0⟩) (by assumption) ?na0
        case ya0 => (intro wS hSw; (have k0 := cell_of hSw 0); (have k1 := cell_of hSw 1); go_simp; try rfl)
        try simp only [Act.put, List.setIfInBounds_toArray, List.set_cons_zero, List.set_cons_succ]
        refine wpAnyH_take (i := 1) (v := ?_) (ops_at rfl) (by kernel_rfl) (by kernel_rfl) (by kernel_rfl) (fun _ _ _ h => h) (Or.inl ⟨by rfl, ?ya1⟩) (by assumption) ?na1
        case ya1 => (intro wS hSw; (have k0 := cell_of hSw 0); (have k1 := cell_of hSw 1); go_simp; try rfl)
        try simp only [Act.put, List.setIfInBounds_toArray, List.set_cons_zero, List.set_cons_succ]
        refine wpAnyH_take (i := 2) (v := ?_) (ops_at rfl) (by kernel_rfl) (by kernel_rfl) (by kernel_rfl) (fun _ _ _ h => h) (Or.inl ⟨by rfl, ?ya2⟩) (by assumption) ?na2
        case ya2 => (intro wS hSw; (have k0 := cell_of hSw 0); (have k1 := cell_of hSw 1); go_simp; try rfl)
        try simp only [Act.put, List.setIfInBounds_toArray, List.set_cons_zero, List.set_cons_succ]
        refine wpAnyH_take (i := 3) (v := ?_) (ops_at rfl) (by kernel_rfl) (by kernel_rfl) (by kernel_rfl) (fun _ _ _ h => h) (Or.inl ⟨by rfl, ?ya3⟩) (by assumption) ?na3
        case ya3 => (intro wS hSw; (have k0 := cell_of hSw 0); (have k1 := cell_of hSw 1); go_simp; try rfl)
        try simp only [Act.put, List.setIfInBounds_toArray, List.set_cons_zero, List.set_cons_succ]
        refine wpAnyH_take (i := 4) (v := ?_) (ops_at rfl) (by kernel_rfl) (by kernel_rfl) (by kernel_rfl) (fun _ _ _ h => h) (Or.inl ⟨by rfl, ?ya4⟩) (by assumption) ?na4
        case ya4 => (intro wS hSw; (have k0 := cell_of hSw 0); (have k1 := cell_of hSw 1); go_simp; try rfl)
        try simp only [Act.put, List.setIfInBounds_toArray, List.set_cons_zero, List.set_cons_succ]
        refine wpAnyH_done (by kernel_rfl) ?_ _
        clear c0 c1
        go_wp2
        go_ret3
        exact ⟨rfl, drewB HBE.out⟩
      · have hlt' : ¬ (c.1.1 : Int) < (a : Int) := by omega
        have hdt : decide ((c.1.1 : Int) < (a : Int)) = false := decide_eq_false hlt'
        obtain rfl : (false, (c.1.2 : Int), true) = r := by rw [← HR.out, cutR, if_neg hlt]
        go_wp2_with fail
        refine wp_region_held_drew (S := (fun wq => wq.heap[w3.heap.size]? = some (.cells #[.int .i64 (c.1.1 : Int), .int .i64 (c.1.2 : Int)] 55 (0, 0)))) (by kernel_rfl) HC.out (fun hH0 => ?_)
        refine wpAnyH_take (i := 0) (v := ?_) (ops_at rfl) (by kernel_rfl) (by kernel_rfl) (by kernel_rfl) (fun _ _ _ h => h) (Or.inl ⟨by rfl, ?yb0⟩) (by assumption) ?nb0
        case yb0 => (intro wS hSw; (have k0 := cell_of hSw 0); (have k1 := cell_of hSw 1); go_simp; try rfl)
        try simp only [Act.put, List.setIfInBounds_toArray, List.set_cons_zero, List.set_cons_succ]
        refine wpAnyH_take (i := 1) (v := ?_) (ops_at rfl) (by kernel_rfl) (by kernel_rfl) (by kernel_rfl) (fun _ _ _ h => h) (Or.inl ⟨by rfl, ?yb1⟩) (by assumption) ?nb1
        case yb1 => (intro wS hSw; (have k0 := cell_of hSw 0); (have k1 := cell_of hSw 1); go_simp; try rfl)
        try simp only [Act.put, List.setIfInBounds_toArray, List.set_cons_zero, List.set_cons_succ]
        refine wpAnyH_take (i := 2) (v := ?_) (ops_at rfl) (by kernel_rfl) (by kernel_rfl) (by kernel_rfl) (fun _ _ _ h => h) (Or.inl ⟨by rfl, ?yb2⟩) (by assumption) ?nb2
        case yb2 => (intro wS hSw; (have k0 := cell_of hSw 0); (have k1 := cell_of hSw 1); go_simp; try rfl)
        try simp only [Act.put, List.setIfInBounds_toArray, List.set_cons_zero, List.set_cons_succ]
        refine wpAnyH_take (i := 3) (v := ?_) (ops_at rfl) (by kernel_rfl) (by kernel_rfl) (by kernel_rfl) (fun _ _ _ h => h) (Or.inl ⟨by rfl, ?yb3⟩) (by assumption) ?nb3
        case yb3 => (intro wS hSw; (have k0 := cell_of hSw 0); (have k1 := cell_of hSw 1); go_simp; try rfl)
        try simp only [Act.put, List.setIfInBounds_toArray, List.set_cons_zero, List.set_cons_succ]
        refine wpAnyH_take (i := 4) (v := ?_) (ops_at rfl) (by kernel_rfl) (by kernel_rfl) (by kernel_rfl) (fun _ _ _ h => h) (Or.inl ⟨by rfl, ?yb4⟩) (by assumption) ?nb4
        case yb4 => (intro wS hSw; (have k0 := cell_of hSw 0); (have k1 := cell_of hSw 1); go_simp; try rfl)
        try simp only [Act.put, List.setIfInBounds_toArray, List.set_cons_zero, List.set_cons_succ]
        refine wpAnyH_done (by kernel_rfl) ?_ _
        clear c0 c1
        go_wp2
        go_ret3
        exact ⟨rfl, drewB HBE.out⟩
end Go.Proofs.Ytjpejhpilfjheaa

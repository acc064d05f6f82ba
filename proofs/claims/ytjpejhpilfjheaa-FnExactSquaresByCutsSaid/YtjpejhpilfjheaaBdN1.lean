/-
  The given program's pieces cut out, counted in place.
  Conditions: a board, and pieces.
-/
import Derived.Test.YtjpejhpilfjheaaBdFS
namespace Go.Proofs.Ytjpejhpilfjheaa
set_option linter.unusedVariables false
open Go.RowKit

/-- The pieces have been counted on, in place. -/
def RetCnt (g T : Nat) (ks : List Int) (w : World) (e : Ending) (w' : World) : Prop := e = .returned (.tuple #[]) ∧ Arr w' g T ks ∧ Only (fun k => k = g) w w'
theorem TabS.only {W W' : World} {lo F A H g : Nat} {t : Nat → Nat → Int} {n m : Nat} (h : TabS W lo F A H t n m) (ho : Only (fun k => k = g) W W') (hg : g < lo) : TabS W' lo F A H t n m := by
  obtain ⟨hl, cs, f, h1, h2, h3, h4⟩ := h
  refine ⟨hl, cs, f, (ho.block F (heap_lt h1) (by show ¬ F = g; omega)).trans h1, h2, fun a a1 an => ?_, h4⟩
  obtain ⟨r1, r2, rs, r3, r4, r5⟩ := h3 a a1 an
  exact ⟨r1, r2, rs, (ho.block _ (heap_lt r3) (by show ¬ f a = g; omega)).trans r3, r4, r5⟩
theorem only_b {g : Nat} {w w' : World} (h : Below w.heap.size w w') : Only (fun k => k = g) w w' := Only.of_below h (Nat.le_refl _)
theorem cut_area {a b k : Nat} (h : k < a) : a * b = k * b + (a - k) * b := by rw [← Nat.add_mul]; congr 1; omega
theorem cut_area2 {a b k : Nat} (h : k < b) : a * b = a * k + a * (b - k) := by rw [← Nat.mul_add]; congr 1; omega

set_option maxRecDepth 100000 in
set_option maxHeartbeats 4000000 in
theorem bdCount_any (A H F g T np cp0 lo hi lo2 : Nat) (C0 : Option Addr) (ps : List (Int × Int × Int)) (tu : Bool) (HN : Hid (ps.length = np)) (HG : Hid (goodPc ps = true)) (hA : A ≤ 24) (hH : H ≤ 24) (hig : hi ≤ g) (hgl : g < lo2) :
    ∀ (n a b : Nat) (ks : List Int) (M : Int) (w : World), a + b ≤ n → 1 ≤ a → a ≤ A → 1 ≤ b → b ≤ H → 0 ≤ M → M + ((a * b : Nat) : Int) ≤ 1000 → Hid (CntOk ps.length M ks) → Hid (Seg w lo hi C0 (flat3 ps)) → Hid (TabS w lo2 F A H (valB ps tu) A H) → Hid (Arr w g T ks) →
    Calls Try.prog 62 #[.slice (some ⟨F, 0, none⟩) (A + 1) (A + 1), .int .i64 (a : Int), .int .i64 (b : Int), .slice C0 np cp0, .bool tu, .slice (some ⟨g, 0, none⟩) np np] w (RetCnt g T (cntF ps tu a b ks) w) := by
  intro n
  induction n with
  | zero => intro a b ks M w h ha; omega
  | succ n ih =>
    intro a b ks M w hab a1 aA b1 bH hM hMb HC HS HT HA
    have IH := Lib.hid ih
    clear ih
    have hn4 : np ≤ 4 := by rw [← HN.out]; exact (goodPc_at HG.out).2.1
    have hgw := HA.out.lt
    obtain ⟨o, ho⟩ : ∃ o, fcP ps tu a b = o := ⟨_, rfl⟩
    have hcut := fun r hr => bdCut_any A H a b F C0 np cp0 ps lo hi tu w HN.out (by omega) HS.out (by omega) HG.out hA hH a1 aA b1 bH lo2 HT.out r hr
    rw [ho] at hcut
    have HCUT := Lib.hid hcut
    clear hcut
    cases o with
    | some c =>
      have hm := (fcP_mem ho).1
      have HCF := Lib.hid (cntF_cut a1 b1 ho ks)
      clear ho
      rcases mem_cutsL.1 hm with ⟨k, k1, k2, rfl⟩ | ⟨k, k1, k2, rfl⟩
      · clear hm
        simp only [] at HCF
        have hpa := cut_area (b := b) k2
        obtain ⟨d, hd⟩ : ∃ d, a - k = d := ⟨_, rfl⟩
        rw [hd] at HCF hpa
        have hsub : (a : Int) - (k : Int) = (d : Int) := by omega
        have hwd : IntKind.i64.wrap (d : Int) = (d : Int) := by rw [IntKind.wrap_i64]; omega
        have HM1 := Lib.hid (show M + ((k * b : Nat) : Int) ≤ 1000 by rw [hpa] at hMb; push_cast at hMb ⊢; have h0 : (0 : Int) ≤ (d : Int) * (b : Int) := Int.mul_nonneg (by omega) (by omega); omega)
        have HM2 := Lib.hid (show M + ((k * b : Nat) : Int) + ((d * b : Nat) : Int) ≤ 1000 by rw [hpa] at hMb; push_cast at hMb ⊢; omega)
        have HC2 := Lib.hid (cntF_ok ps tu _ k b ks M (Nat.le_refl _) k1 b1 hM HC.out)
        have HM3 := Lib.hid (show 0 ≤ M + ((k * b : Nat) : Int) by have : (0 : Int) ≤ ((k * b : Nat) : Int) := Int.natCast_nonneg _; omega)
        clear hpa hMb
        go_enter Try.func62, Try.ntmps62
        go_wp2_with fail
        refine (HCUT.out (true, (k : Int), true) (by simp [cutR, k2])).mono ?_
        rintro e w1 ⟨rfl, hb1⟩
        have HS1 := Lib.hid (HS.out.below hb1 (by omega))
        have HT1 := Lib.hid (HT.out.below hb1)
        have HA1 := Lib.hid (HA.out.keep (hb1.block g hgw))
        have HO1 := Lib.hid (only_b (g := g) hb1)
        have hz1 := hb1.size
        clear hb1
        go_wp2_with fail
        refine (IH.out k b ks M w1 (by omega) k1 (by omega) b1 bH hM HM1.out HC HS1 HT1 HA1).mono ?_
        rintro e w2 ⟨rfl, ha2, ho2⟩
        have HS2 := Lib.hid (HS1.out.only ho2 (by omega) (fun g' h => .inr (by have : g' = g := h; omega)))
        have HT2 := Lib.hid (HT1.out.only ho2 hgl)
        have HA2 := Lib.hid ha2
        have HO2 := Lib.hid (HO1.out.trans ho2)
        clear ha2 ho2
        go_wp2_with fail
        refine (IH.out d b _ _ w2 (by omega) (by omega) (by omega) b1 bH HM3.out HM2.out HC2 HS2 HT2 HA2).mono ?_
        rintro e w3 ⟨rfl, ha3, ho3⟩
        have HA3 := Lib.hid ha3
        have HO3 := Lib.hid (HO2.out.trans ho3)
        clear ha3 ho3
        go_wp2
        go_end0
        exact ⟨rfl, by rw [HCF.out]; exact HA3.out, HO3.out⟩
      · clear hm
        simp only [] at HCF
        have hpa := cut_area2 (a := a) k2
        obtain ⟨d, hd⟩ : ∃ d, b - k = d := ⟨_, rfl⟩
        rw [hd] at HCF hpa
        have hsub : (b : Int) - (k : Int) = (d : Int) := by omega
        have hwd : IntKind.i64.wrap (d : Int) = (d : Int) := by rw [IntKind.wrap_i64]; omega
        have HM1 := Lib.hid (show M + ((a * k : Nat) : Int) ≤ 1000 by rw [hpa] at hMb; push_cast at hMb ⊢; have h0 : (0 : Int) ≤ (a : Int) * (d : Int) := Int.mul_nonneg (by omega) (by omega); omega)
        have HM2 := Lib.hid (show M + ((a * k : Nat) : Int) + ((a * d : Nat) : Int) ≤ 1000 by rw [hpa] at hMb; push_cast at hMb ⊢; omega)
        have HC2 := Lib.hid (cntF_ok ps tu _ a k ks M (Nat.le_refl _) a1 k1 hM HC.out)
        have HM3 := Lib.hid (show 0 ≤ M + ((a * k : Nat) : Int) by have : (0 : Int) ≤ ((a * k : Nat) : Int) := Int.natCast_nonneg _; omega)
        clear hpa hMb
        go_enter Try.func62, Try.ntmps62
        go_wp2_with fail
        refine (HCUT.out (false, (k : Int), true) (by simp [cutR])).mono ?_
        rintro e w1 ⟨rfl, hb1⟩
        have HS1 := Lib.hid (HS.out.below hb1 (by omega))
        have HT1 := Lib.hid (HT.out.below hb1)
        have HA1 := Lib.hid (HA.out.keep (hb1.block g hgw))
        have HO1 := Lib.hid (only_b (g := g) hb1)
        have hz1 := hb1.size
        clear hb1
        go_wp2_with fail
        refine (IH.out a k ks M w1 (by omega) a1 aA k1 (by omega) hM HM1.out HC HS1 HT1 HA1).mono ?_
        rintro e w2 ⟨rfl, ha2, ho2⟩
        have HS2 := Lib.hid (HS1.out.only ho2 (by omega) (fun g' h => .inr (by have : g' = g := h; omega)))
        have HT2 := Lib.hid (HT1.out.only ho2 hgl)
        have HA2 := Lib.hid ha2
        have HO2 := Lib.hid (HO1.out.trans ho2)
        clear ha2 ho2
        go_wp2_with fail
        refine (IH.out a d _ _ w2 (by omega) a1 aA (by omega) (by omega) HM3.out HM2.out HC2 HS2 HT2 HA2).mono ?_
        rintro e w3 ⟨rfl, ha3, ho3⟩
        have HA3 := Lib.hid ha3
        have HO3 := Lib.hid (HO2.out.trans ho3)
        clear ha3 ho3
        go_wp2
        go_end0
        exact ⟨rfl, by rw [HCF.out]; exact HA3.out, HO3.out⟩
    | none =>
      obtain ⟨v, hv⟩ : ∃ v, valB ps tu a b = v := ⟨_, rfl⟩
      have HV := Lib.hid hv
      have hvb := valB_bd4 (goodPc_vals HG.out) tu a b a1 (by omega) b1 (by omega)
      rw [hv] at hvb
      have hi0 : (a : Int) < (A : Int) + 1 := by omega
      have hi1 : (b : Int) < (H : Int) + 1 := by omega
      by_cases h0 : 0 < v
      · obtain ⟨i, hi'⟩ := come_to a1 b1 (by rw [hv]; exact h0) ho
        have HCF := Lib.hid (cntF_kind a1 b1 ho (by rw [hv]; exact h0) hi' ks)
        rw [hv] at hi'
        have hin : i < np := by rw [← HN.out]; exact kindK_lt hi'
        have hkl : ks.length = np := by rw [HC.out.1]; exact HN.out
        obtain ⟨u, hu⟩ : ∃ u, ks.getD i 0 = u := ⟨_, rfl⟩
        have hus : ks[i]? = some u := by rw [List.getElem?_eq_getElem (by omega), ← hu]; simp [List.getD, show i < ks.length by omega]
        have hub := HC.out.2 u (List.mem_of_getElem? hus)
        have hprod : (0 : Int) ≤ ((a * b : Nat) : Int) := Int.natCast_nonneg _
        have hM1 : M ≤ 1000 := by omega
        have hwu : IntKind.i64.wrap (u + 1) = u + 1 := by rw [IntKind.wrap_i64]; omega
        rw [hu] at HCF
        have HKI := Lib.hid (show kindI ps tu a b v = (i : Int) by rw [kindI, hi'])
        have hdt : decide (0 < v) = true := decide_eq_true h0
        have hin' : (i : Int) < (np : Int) := by omega
        clear hv ho hi' hu hMb hprod
        go_enter Try.func62, Try.ntmps62
        go_wp2_with fail
        refine (HCUT.out (false, 0, false) (by simp [cutR])).mono ?_
        rintro e w1 ⟨rfl, hb1⟩
        have HS1 := Lib.hid (HS.out.below hb1 (by omega))
        have HT1 := Lib.hid (HT.out.below hb1)
        have HA1 := Lib.hid (HA.out.keep (hb1.block g hgw))
        have HO1 := Lib.hid (only_b (g := g) hb1)
        have hz1 := hb1.size
        clear hb1
        obtain ⟨gg, e1, e2⟩ := HT1.out.read (a := a) (b := b) a1 aA b1 bH (by omega)
        rw [HV.out] at e2
        go_wp2_with fail
        refine (bdKind_any a b v C0 np cp0 ps lo hi tu w1 HN.out (by omega) HS1.out (by omega) hn4 _ HKI.out).mono ?_
        rintro e w2 ⟨rfl, hb2⟩
        have HA2 := Lib.hid (HA1.out.keep (hb2.block g (by omega)))
        have HO2 := Lib.hid (HO1.out.trans (only_b (g := g) hb2))
        have c0 := HA2.out.cell hus
        have f0 := HA2.out.frozen i
        clear hb2 e1 e2
        go_wp2
        go_end0
        exact ⟨rfl, by rw [HCF.out]; exact HA2.out.set i _, HO2.out.setCell (p := ⟨g, i, none⟩) rfl _⟩
      · have HCF := Lib.hid (cntF_no a1 b1 ho (by rw [hv]; exact h0) ks)
        have hdt : decide (0 < v) = false := decide_eq_false h0
        clear hv ho hMb
        go_enter Try.func62, Try.ntmps62
        go_wp2_with fail
        refine (HCUT.out (false, 0, false) (by simp [cutR])).mono ?_
        rintro e w1 ⟨rfl, hb1⟩
        have HT1 := Lib.hid (HT.out.below hb1)
        have HA1 := Lib.hid (HA.out.keep (hb1.block g hgw))
        have HO1 := Lib.hid (only_b (g := g) hb1)
        clear hb1
        obtain ⟨gg, e1, e2⟩ := HT1.out.read (a := a) (b := b) a1 aA b1 bH (by omega)
        rw [HV.out] at e2
        go_wp2
        go_end0
        exact ⟨rfl, by rw [HCF.out]; exact HA1.out, HO1.out⟩
end Go.Proofs.Ytjpejhpilfjheaa

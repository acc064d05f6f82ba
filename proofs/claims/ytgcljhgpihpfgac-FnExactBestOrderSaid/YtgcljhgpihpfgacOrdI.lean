/-
  The written program's next order.
  Conditions: one to a hundred numbers.
-/
import Derived.Test.YtgcljhgpihpfgacOrdN
import Derived.Test.YtgcljhgpihpfgacShelfRev
namespace Go.Proofs.Ytgcljhgpihpfgac
set_option linter.unusedVariables false
open Go.RowKit Go.Sort

theorem cell_set_offO (W : World) (g a c : Nat) (v : Value) (h : a ≠ c) : (W.setCell ⟨g, a, none⟩ v).cell? ⟨g, c, none⟩ = W.cell? ⟨g, c, none⟩ :=
  World.cell?_setCell_other _ _ _ _ (by intro e; injection e with e1 e2 e3; exact h e2)

theorem revAt_any (g T N off k c : Nat) (xs : List Int) (w : World) (hk : off + k = xs.length) (hlen : xs.length ≤ 100) (h : Row w g T N xs) :
    Calls Try.prog 72 #[.slice (some ⟨g, off, none⟩) k c] w fun e w' => e = .returned (.tuple #[]) ∧ Row w' g T N (xs.take off ++ (xs.drop off).reverse) ∧ Only (fun b => b = g) w w' := by
  have hl : (xs.drop off).length = k := by rw [List.length_drop]; omega
  have h2 := Any.slices_Reverse_int laysRev g off c (xs.drop off) w (h.holds off) (by omega)
  rw [hl] at h2
  refine Calls.mono (show Calls Try.prog 72 #[.slice (some ⟨g, off, none⟩) k c] w _ from h2) ?_
  rintro e w' ⟨rfl, q, rfl⟩
  exact ⟨rfl, h.put off _ (by rw [List.length_reverse]; omega) q, only_put _ _ _ _ _⟩

set_option maxRecDepth 100000 in
set_option maxHeartbeats 2000000 in
theorem nextOrder_any (g T N n c : Nat) (xs : List Int) (w : World) (hn : xs.length = n) (h1 : 1 ≤ n) (hlen : n ≤ 100) (hc : n ≤ c) (h : Row w g T N xs) :
    Calls Try.prog 49 #[.slice (some ⟨g, 0, none⟩) n c] w fun e w' => e = .returned (.bool (nextR xs).isSome) ∧ Row w' g T N ((nextR xs).getD xs) ∧ Only (fun b => b = g) w w' := by
  have HN := Lib.hid hn
  have H0 := Lib.hid h
  have hw0 : wrap64 ((n : Int) - 2) = (n : Int) - 2 := by unfold wrap64; omega
  have hw1 : wrap64 ((n : Int) - 1) = (n : Int) - 1 := by unfold wrap64; omega
  clear hn h
  go_enter Try.func49, Try.ntmps49
  go_wp2
  go_loopw [3] (fun i wr => ∃ m : Nat, m + 1 ≤ n ∧ i = .int .i64 ((m : Int) - 1) ∧ Hid (Falls (xs.drop m)) ∧ Row wr g T N xs ∧ Only (fun b => b = g) w wr) (fun i _ => (intOf i + 1).toNat)
  case atStart => exact ⟨n - 1, by omega, by congr 1; omega, Lib.hid (falls_end (by rw [HN.out]; omega)), H0.out, Only.refl _ _⟩
  case round =>
    obtain ⟨m, hm, rfl, HF, hrow, honly⟩ := hrel
    have HO := Lib.hid honly
    clear honly
    rcases Nat.eq_zero_or_pos m with rfl | hpos
    · have d1 : decide (((0 : Nat) : Int) - 1 ≥ 0) = false := by decide
      have d2 : decide (((0 : Nat) : Int) - 1 < 0) = true := by decide
      have hnone := falls_none HF.out
      rw [List.drop_zero] at hnone
      have HNO := Lib.hid hnone
      have HROW := Lib.hid hrow
      clear hnone hrow
      go_wp2
      go_region
      all_goals go_wp2
      all_goals go_ret
      all_goals exact ⟨by rw [HNO.out]; rfl, by rw [HNO.out]; exact HROW.out, HO.out.drew⟩
    · obtain ⟨i, rfl⟩ : ∃ i, m = i + 1 := ⟨m - 1, by omega⟩
      obtain ⟨a, ha⟩ : ∃ a, xs[i]? = some a := ⟨_, List.getElem?_eq_getElem (by rw [HN.out]; omega)⟩
      obtain ⟨b, hb⟩ : ∃ b, xs[i + 1]? = some b := ⟨_, List.getElem?_eq_getElem (by rw [HN.out]; omega)⟩
      have hii : (((i + 1 : Nat) : Int) - 1) = (i : Int) := by omega
      have q1 := hrow.cell ha
      have q2 := hrow.cell hb
      have hin : (i : Int) < (n : Int) := by omega
      have hin2 : (i : Int) + 1 < (n : Int) := by omega
      have hwi : wrap64 ((i : Int) + 1) = (i : Int) + 1 := by unfold wrap64; omega
      have hwi2 : IntKind.i64.wrap ((i : Int) + 1) = (i : Int) + 1 := by rw [IntKind.wrap_i64]; omega
      have hwd : wrap64 ((i : Int) - 1) = (i : Int) - 1 := by unfold wrap64; omega
      have ht1 : ((i : Int) + 1).toNat = i + 1 := by omega
      have HA := Lib.hid ha
      have HBB := Lib.hid hb
      have HROW := Lib.hid hrow
      rw [hii]
      clear ha hb hrow hii
      by_cases hab : b ≤ a
      · have d1 : decide (a ≥ b) = true := decide_eq_true hab
        go_wp2
        go_region
        all_goals go_wp2
        all_goals go_roundw
        case rel => exact ⟨i, by omega, rfl, Lib.hid (falls_step HA.out HBB.out hab HF.out), HROW.out, HO.out.drew⟩
        case measure => simp [intOf]
      · have d1 : decide (a ≥ b) = false := decide_eq_false (by omega)
        have d2 : decide ((i : Int) < 0) = false := decide_eq_false (by omega)
        go_wp2
        go_region
        all_goals go_wp2
        go_loopw [4] (fun j wr => ∃ p : Nat, i + 1 ≤ p ∧ p + 1 ≤ n ∧ j = .int .i64 (p : Int) ∧ Hid (∀ k y, p < k → xs[k]? = some y → y ≤ a) ∧ Row wr g T N xs ∧ Only (fun b => b = g) w wr) (fun j _ => (intOf j).toNat)
        case atStart => exact ⟨n - 1, by omega, by omega, by congr 1; omega, Lib.hid (fun k y hk hy => by have := (List.getElem?_eq_some_iff.1 hy).1; have := HN.out; omega), HROW.out, HO.out.drew⟩
        case round =>
          obtain ⟨p, hp1, hp2, rfl, HL, hrow, honly⟩ := hrel
          obtain ⟨y, hy⟩ : ∃ y, xs[p]? = some y := ⟨_, List.getElem?_eq_getElem (by rw [HN.out]; omega)⟩
          have q3 := hrow.cell hy
          have q4 := hrow.cell HA.out
          have hpn : (p : Int) < (n : Int) := by omega
          have HY := Lib.hid hy
          have HR2 := Lib.hid hrow
          have HO2 := Lib.hid honly
          by_cases hya : y ≤ a
          · have d3 : decide (y ≤ a) = true := decide_eq_true hya
            have hne : p ≠ i + 1 := fun e => by
              subst e
              have := HBB.out.symm.trans hy
              injection this with this
              omega
            have hwp : wrap64 ((p : Int) - 1) = (p : Int) - 1 := by unfold wrap64; omega
            clear hy hrow honly
            go_wp2
            go_region
            all_goals go_wp2
            go_roundw
            case rel => exact ⟨p - 1, by omega, by omega, by congr 1; omega, Lib.hid (fun k z hk hz => by
              rcases Nat.lt_or_ge p k with h | h
              · exact HL.out k z h hz
              · obtain rfl : k = p := by omega
                have := HY.out.symm.trans hz
                injection this with this
                omega), HR2.out, HO2.out.drew⟩
            case measure => simp [intOf]; omega
          · have d3 : decide (y ≤ a) = false := decide_eq_false (by omega)
            have hnx := next_ix HA.out HY.out (by omega) (HF.out) (by omega) HL.out
            have f1 := hrow.frozen i
            have f2 := hrow.frozen p
            have e1 : ∀ (W : World) (v : Value), (W.setCell ⟨g, i, none⟩ v).cell? ⟨g, p, none⟩ = W.cell? ⟨g, p, none⟩ := fun W v => cell_set_offO W g i p v (by omega)
            have e2 : ∀ (W : World) (v : Value), (W.setCell ⟨g, p, none⟩ v).cell? ⟨g, i, none⟩ = W.cell? ⟨g, i, none⟩ := fun W v => cell_set_offO W g p i v (by omega)
            have hrow4 := (hrow.set i y).set p a
            have HNX := Lib.hid hnx
            clear hy hrow honly hnx
            go_wp2
            go_region
            all_goals go_wp2
            go_region
            all_goals go_wp2_with fail
            have hyl : ((xs.set i y).set p a).length = n := by rw [List.length_set, List.length_set, HN.out]
            refine (revAt_any g T N (i + 1) (n - (i + 1)) (c - (i + 1)) ((xs.set i y).set p a) (((wr.setCell ⟨g, i, none⟩ (.int .i64 y)).setCell ⟨g, p, none⟩ (.int .i64 a)).drew.drew) (by omega) (by omega) hrow4).mono ?_
            rintro e w5 ⟨rfl, hr5, ho5⟩
            have ho6 := ((HO2.out.setCell (p := ⟨g, i, none⟩) rfl (.int .i64 y)).setCell (p := ⟨g, p, none⟩) rfl (.int .i64 a)).drew.drew.trans ho5
            go_wp2
            go_ret
            exact ⟨by rw [HNX.out]; rfl, by rw [HNX.out]; exact hr5, ho6⟩
end Go.Proofs.Ytgcljhgpihpfgac

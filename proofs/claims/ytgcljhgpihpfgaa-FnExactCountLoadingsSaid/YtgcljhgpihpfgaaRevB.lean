/-
  The library's reversal of at most twelve bytes.
  Conditions: at most twelve bytes.
-/
import Derived.Test.YtgcljhgpihpfgaaSortB
namespace Go.Proofs.Ytgcljhgpihpfgaa
set_option linter.unusedVariables false
open Go.RowKit

/-- The first 'k' and the last 'k' of a list exchanged. -/
def revP (ys : List Int) (k : Nat) : List Int := (List.range ys.length).map fun j => if j < k ∨ ys.length ≤ j + k then ys.getD (ys.length - 1 - j) 0 else ys.getD j 0
theorem revP_len (ys : List Int) (k : Nat) : (revP ys k).length = ys.length := by simp [revP]
theorem revP_at (ys : List Int) (k j : Nat) (h : j < ys.length) : (revP ys k)[j]? = some (if j < k ∨ ys.length ≤ j + k then ys.getD (ys.length - 1 - j) 0 else ys.getD j 0) := by simp [revP, h]
theorem revP_zero (ys : List Int) : revP ys 0 = ys := by
  apply List.ext_getElem?
  intro j
  by_cases h : j < ys.length
  · rw [revP_at _ _ _ h, if_neg (by omega)]; simp [List.getD, h]
  · rw [List.getElem?_eq_none (by rw [revP_len]; omega), List.getElem?_eq_none (by omega)]
theorem revP_all (ys : List Int) (k : Nat) (h : ys.length ≤ 2 * k + 1) : revP ys k = ys.reverse := by
  apply List.ext_getElem?
  intro j
  by_cases hj : j < ys.length
  · rw [revP_at _ _ _ hj, List.getElem?_reverse hj]
    by_cases hc : j < k ∨ ys.length ≤ j + k
    · rw [if_pos hc]; simp [List.getD, show ys.length - 1 - j < ys.length by omega]
    · rw [if_neg hc, show ys.length - 1 - j = j by omega]; simp [List.getD, hj]
  · rw [List.getElem?_eq_none (by rw [revP_len]; omega), List.getElem?_eq_none (by rw [List.length_reverse]; omega)]
theorem revP_step (ys : List Int) (k : Nat) (h : 2 * k + 1 < ys.length) :
    ((revP ys k).set k (ys.getD (ys.length - 1 - k) 0)).set (ys.length - 1 - k) (ys.getD k 0) = revP ys (k + 1) := by
  apply List.ext_getElem?
  intro j
  by_cases hj : j < ys.length
  · rw [revP_at _ _ _ hj]
    by_cases e1 : j = ys.length - 1 - k
    · subst e1
      rw [List.getElem?_set_self (by rw [List.length_set, revP_len]; omega), if_pos (by omega), show ys.length - 1 - (ys.length - 1 - k) = k by omega]
    · rw [List.getElem?_set_ne (by omega)]
      by_cases e2 : j = k
      · subst e2
        rw [List.getElem?_set_self (by rw [revP_len]; omega), if_pos (by omega)]
      · rw [List.getElem?_set_ne (by omega), revP_at _ _ _ hj]
        by_cases hc : j < k ∨ ys.length ≤ j + k
        · rw [if_pos hc, if_pos (by omega)]
        · rw [if_neg hc, if_neg (by omega)]
  · rw [List.getElem?_eq_none (by rw [List.length_set, List.length_set, revP_len]; omega), List.getElem?_eq_none (by rw [revP_len]; omega)]

set_option maxHeartbeats 1000000 in
theorem revB_any (g T N n c : Nat) (bs : List Int) (w : World) (hn : bs.length = n) (hn12 : n ≤ 12) (h : RowB w g T N bs) :
    Calls Try.prog 56 #[.slice (some ⟨g, 0, none⟩) n c] w fun e w' =>
      e = .returned (.tuple #[]) ∧ RowB w' g T N bs.reverse ∧ Only (fun b => b = g) w w' := by
  have HN := Lib.hid hn
  have H0 := Lib.hid (show RowB w g T N (revP bs 0) by rw [revP_zero]; exact h)
  have hw0 : wrap64 ((n : Int) - 1) = (n : Int) - 1 := by unfold wrap64; omega
  clear hn h
  go_enter Try.func56, Try.ntmps56
  go_wp2
  go_loopw [2, 3] (fun i j wr => ∃ k : Nat, 2 * k ≤ n + 1 ∧ i = .int .i64 (k : Int) ∧ j = .int .i64 ((n : Int) - 1 - (k : Int)) ∧ RowB wr g T N (revP bs k) ∧ Only (fun b => b = g) w wr) (fun i _ _ => n - (intOf i).toNat)
  case atStart => exact ⟨0, by omega, rfl, by simp, H0.out, Only.refl _ _⟩
  case round =>
    obtain ⟨k, hk, rfl, rfl, hrow, honly⟩ := hrel
    by_cases hlt : 2 * k + 1 < n
    · have d1 : decide ((k : Int) < (n : Int) - 1 - (k : Int)) = true := decide_eq_true (by omega)
      obtain ⟨jj, hjj⟩ : ∃ jj : Nat, n - 1 - k = jj := ⟨_, rfl⟩
      have hji : ((n : Int) - 1 - (k : Int)) = (jj : Int) := by omega
      have hstep := revP_step bs k (by rw [HN.out]; exact hlt)
      have h1 : (revP bs k)[k]? = some (bs.getD k 0) := by rw [revP_at _ _ _ (by rw [HN.out]; omega), if_neg (by rw [HN.out]; omega)]
      have h2 : (revP bs k)[jj]? = some (bs.getD jj 0) := by rw [revP_at _ _ _ (by rw [HN.out]; omega), if_neg (by rw [HN.out]; omega)]
      rw [HN.out, hjj] at hstep
      have q1 := hrow.cell h1
      have q2 := hrow.cell h2
      have f1 := hrow.frozen h1
      have f2 := hrow.frozen h2
      generalize bs.getD k 0 = x at *
      generalize bs.getD jj 0 = y at *
      have HROW := Lib.hid hrow
      have HSTEP := Lib.hid hstep
      have HJJ := Lib.hid hjj
      have hjn : (jj : Int) < (n : Int) := by omega
      have hkn : (k : Int) < (n : Int) := by omega
      have hkj : k < jj := by omega
      have e1 : ∀ (W : World) (v : Value), (W.setCell ⟨g, k, none⟩ v).cell? ⟨g, jj, none⟩ = W.cell? ⟨g, jj, none⟩ := fun W v => cell_set_offB W g k jj v (by omega)
      have e2 : ∀ (W : World) (v : Value), (W.setCell ⟨g, jj, none⟩ v).cell? ⟨g, k, none⟩ = W.cell? ⟨g, k, none⟩ := fun W v => cell_set_offB W g jj k v (by omega)
      rw [hji]
      rw [hji] at d1
      clear hjj hstep h1 h2 hrow hji
      go_wp2
      go_region
      all_goals go_wp2
      go_roundw
      case rel =>
        refine ⟨k + 1, by omega, rfl, ?_, ?_, ((honly.setCell (p := ⟨g, k, none⟩) rfl (.int .u8 y)).setCell (p := ⟨g, jj, none⟩) rfl (.int .u8 x)).drew⟩
        · congr 1; have := HJJ.out; omega
        · have hall := ((HROW.out.set k y)).set jj x
          rw [HSTEP.out] at hall
          exact hall
      case measure => simp [intOf]; omega
    · have d1 : decide ((k : Int) < (n : Int) - 1 - (k : Int)) = false := decide_eq_false (by omega)
      rw [revP_all bs k (by rw [HN.out]; omega)] at hrow
      have HROW := Lib.hid hrow
      clear hrow
      go_wp2
      go_end0
      exact ⟨rfl, HROW.out, honly⟩
end Go.Proofs.Ytgcljhgpihpfgaa

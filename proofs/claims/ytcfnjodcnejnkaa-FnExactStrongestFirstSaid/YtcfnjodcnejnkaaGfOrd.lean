/-
  The written program's indices in falling order of sizes.
  Conditions: one to nine sizes of 1 to 1000000.
-/
import Derived.Test.YtcfnjodcnejnkaaOrdI
namespace Go.Proofs.Ytcfnjodcnejnkaa
set_option linter.unusedVariables false
open Go.RowKit

theorem Arr.row {w : World} {g T : Nat} {ys : List Int} (h : Arr w g T ys) : Row w g T ys.length ys := by
  obtain ⟨cs, hb, hc⟩ := h
  refine ⟨cs, hb, by rw [← Array.length_toList, hc, List.length_map], fun j u hu => ?_⟩
  rw [Arr.get hc, hu]
  rfl

set_option maxRecDepth 100000 in
set_option maxHeartbeats 1000000 in
theorem greatestFirst_any (A : Option Addr) (n c : Nat) (xs : List Int) (lo hi : Nat) (w : World) (hn : xs.length = n) (hs : Seg w lo hi A xs) (hB : hi ≤ w.heap.size) (hn1 : 1 ≤ n) (hn9 : n ≤ 9) (hx : ∀ x ∈ xs, 1 ≤ x ∧ x ≤ 1000000) :
    Calls Try.prog 76 #[.slice A n c] w fun e w' => ∃ A' c', e = .returned (.slice A' n c') ∧ Own w' w.heap.size w'.heap.size A' (ordI xs) ∧ Below w.heap.size w w' := by
  have HN := Lib.hid hn
  have HX := Lib.hid hx
  have HB0 := Lib.hid ((Below.refl w.heap.size w).alloc (Nat.le_refl _) (.cells #[.slice A n c] 29))
  have HC0 := Lib.hid (new_at w (.cells #[.slice A n c] 29) rfl)
  clear hn hx
  go_enter Try.func76, Try.ntmps76
  go_wp2_with fail
  refine (numbersBelow_any n _ (by omega)).mono ?_
  rintro e w1 ⟨rfl, harr, hb1⟩
  have HB1 := Lib.hid (HB0.out.trans (hb1.mono HB0.out.size))
  have HC1 := Lib.hid ((hb1.cell (by simp)).trans (cell_of HC0.out 0))
  rw [World.size_alloc] at harr
  have HARR := Lib.hid harr
  clear harr
  go_wp2_with fail
  refine (sortC_any w.heap.size A n c xs lo hi (w.heap.size + 1) _ _ n n (below n) _ HN.out (hs.below HB1.out hB) HC1.out (by omega) (by omega) HX.out (fun b hb => below_mem hb) (below_length n) hn1 (by omega) HARR.out.row).mono ?_
  rintro e w2 ⟨rfl, hrow, honly⟩
  have HB2 := Lib.hid (HB1.out.trans (honly.below HB1.out.size (fun k hk => by omega)))
  have HROW := Lib.hid hrow
  have HOR := Lib.hid (show sortG (upZ xs) (below n) = ordI xs by rw [ordI, HN.out])
  clear hrow
  go_wp2
  go_ret
  exact ⟨_, _, rfl, by rw [← HOR.out]; exact HROW.out.own (by omega) HROW.out.lt, HB2.out⟩
end Go.Proofs.Ytcfnjodcnejnkaa

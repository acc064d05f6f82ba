/-
  The written program's van: its boxes in memory of their own.
  Conditions: none.
-/
import Derived.Test.YtgcljhgpihpfgaaLdI
import Derived.Test.YtgcljhgpihpfgaaRowB
import Derived.Laws.IdiomStrings
namespace Go.Proofs.Ytgcljhgpihpfgaa
set_option linter.unusedVariables false
open Go.RowKit

/-- What '[]byte(s)' lays reads as the text's bytes. -/
theorem rowB_laid (w : World) (s : ByteArray) (cap T : Nat) : RowB (w.drew.alloc (.cells (bytesRow s cap) T ((bytesRow s cap).size, (bytesRow s cap).size + 1))) w.heap.size T (bytesRow s cap).size (u8 s.data.toList) := by
  refine ⟨_, _, heap_alloc_new w.drew _, .inr (Nat.le_refl _), rfl, fun j u hu => ?_⟩
  have hj : j < s.data.size := by
    have := (List.getElem?_eq_some_iff.1 hu).1
    rw [u8_len, Array.length_toList] at this
    exact this
  rw [bytesRow_at s cap j hj]
  have h2 : (u8 s.data.toList)[j]? = some ((s.data[j].toNat : Int)) := u8_at (by rw [Array.getElem?_toList]; exact Array.getElem?_eq_getElem hj)
  rw [h2] at hu
  injection hu with hu
  rw [hu]

set_option maxHeartbeats 1000000 in
theorem vanOf_no (s : ByteArray) (w : World) (hq : ldB s.data.toList = false) :
    Calls Try.prog 42 #[.string s] w fun e w' => e = .returned (.tuple #[.agg #[.slice none 0 0], .bool false]) ∧ Below w.heap.size w w' := by
  have HQ := Lib.hid hq
  clear hq
  go_enter Try.func42, Try.ntmps42
  go_wp2_with fail
  refine (impl_IsLoading s _ _ HQ.out).mono ?_
  rintro e w1 ⟨rfl, hb1⟩
  have hp := hb1.block w.heap.size (by simp)
  rw [heap_alloc_new] at hp
  have c0 := cellB_of hp 0
  have hb : Below w.heap.size w w1 := ((Below.refl _ _).alloc (Nat.le_refl _) _).trans (hb1.mono (by simp))
  have hf := frozen_of hp 0
  go_wp2
  have d0 := cell_of (set_self hp 0 (.slice none 0 0)) 0
  exact bodyPost_ret (v := .tuple #[.agg #[.slice none 0 0], .bool false]) (by simp [results, Try.results42, go_sem, d0]) rfl ⟨rfl, hb.setCell (by exact Nat.le_refl _) _⟩

set_option maxHeartbeats 1000000 in
theorem vanOf_yes (s : ByteArray) (w : World) (hq : ldB s.data.toList = true) :
    Calls Try.prog 42 #[.string s] w fun e w' => ∃ g N c, e = .returned (.tuple #[.agg #[.slice (some ⟨g, 0, none⟩) s.size c], .bool true]) ∧ Below w.heap.size w w' ∧ w.heap.size ≤ g ∧ RowB w' g 5 N (u8 s.data.toList) ∧ s.size ≤ c := by
  have HQ := Lib.hid hq
  clear hq
  go_enter Try.func42, Try.ntmps42
  go_wp2_with fail
  refine (impl_IsLoading s _ _ HQ.out).mono ?_
  rintro e w1 ⟨rfl, hb1⟩
  have hs1 := hb1.size
  simp at hs1
  have hp := hb1.block w.heap.size (by simp)
  rw [heap_alloc_new] at hp
  have hb : Below w.heap.size w w1 := ((Below.refl _ _).alloc (Nat.le_refl _) _).trans (hb1.mono (by simp))
  have hcv := run_bytes_of_string (P := Try.prog) w1 9 41 5 s Try.underlying9 Try.underlying41 Try.underlying5
  have hr0 := rowB_laid w1 s (grownCap w1 s.size 0 5) 5
  have hge := grownCap_ge w1 s.size 0 5
  generalize grownCap w1 s.size 0 5 = cap at *
  obtain ⟨N, hN⟩ : ∃ N, (bytesRow s cap).size = N := ⟨_, rfl⟩
  have hb2 : Below w.heap.size w (w1.drew.alloc (.cells (bytesRow s cap) 5 ((bytesRow s cap).size, (bytesRow s cap).size + 1))) := (hb.drew).alloc hb.size _
  have hp2 : (w1.drew.alloc (.cells (bytesRow s cap) 5 ((bytesRow s cap).size, (bytesRow s cap).size + 1))).heap[w.heap.size]? = some (.cells #[.slice none 0 0] 45 (0, 0)) := by
    rw [alloc_old w1.drew (by show w.heap.size < w1.heap.size; omega)]; exact hp
  obtain ⟨w2, hw2⟩ : ∃ w2, w1.drew.alloc (.cells (bytesRow s cap) 5 ((bytesRow s cap).size, (bytesRow s cap).size + 1)) = w2 := ⟨_, rfl⟩
  rw [hw2] at hcv hr0 hb2 hp2
  rw [hN] at hr0
  have c2 := cell_of hp2 0
  have f2 := frozen_of hp2 0
  have HP2 := Lib.hid hp2
  have HR0 := Lib.hid hr0
  have HB2 := Lib.hid hb2
  have hgs : ¬ w1.heap.size = w.heap.size := by omega
  clear hb1 hp hb hr0 hw2 hN hp2 hb2
  go_wp2
  have d0 := cell_of (set_self HP2.out 0 (.slice (some ⟨w1.heap.size, 0, none⟩) s.size cap)) 0
  exact bodyPost_ret (v := .tuple #[.agg #[.slice (some ⟨w1.heap.size, 0, none⟩) s.size cap], .bool true]) (by simp [results, Try.results42, go_sem, d0]) rfl ⟨w1.heap.size, N, cap, rfl, HB2.out.setCell (by exact Nat.le_refl _) _, by omega, HR0.out.keep (set_far _ hgs _), hge⟩
end Go.Proofs.Ytgcljhgpihpfgaa

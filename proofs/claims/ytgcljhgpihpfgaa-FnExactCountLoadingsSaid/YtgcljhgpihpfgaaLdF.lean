/-
  The written program's free loading of the same boxes.
  Conditions: a loading.
-/
import Derived.Test.YtgcljhgpihpfgaaLdI
import Derived.Test.YtgcljhgpihpfgaaRevB
import Derived.Laws.IdiomStrings
namespace Go.Proofs.Ytgcljhgpihpfgaa
set_option linter.unusedVariables false
open Go.RowKit

/-- What '[]byte(s)' lays reads as the text's bytes. -/
theorem rowB_of (w : World) (s : ByteArray) (cap T : Nat) : RowB (w.drew.alloc (.cells (bytesRow s cap) T ((bytesRow s cap).size, (bytesRow s cap).size + 1))) w.heap.size T (bytesRow s cap).size (u8 s.data.toList) := by
  refine ⟨_, _, heap_alloc_new w.drew _, .inr (Nat.le_refl _), rfl, fun j u hu => ?_⟩
  have hj : j < s.data.size := by
    have := (List.getElem?_eq_some_iff.1 hu).1
    rw [u8_len, Array.length_toList] at this
    exact this
  rw [bytesRow_at s cap j hj]
  have h2 : (u8 s.data.toList)[j]? = some ((s.data[j].toNat : Int)) := u8_at (by rw [Array.getElem?_toList]; exact Array.getElem?_eq_getElem hj)
  rw [h2] at hu
  injection hu with hu
  rw [hu]

set_option maxHeartbeats 1000000 in
theorem free_any (s : ByteArray) (w : World) (hs : ldB s.data.toList = true) :
    Calls Try.prog 50 #[.string s] w fun e w' => e = .returned (.string ⟨(srtL s.data.toList).toArray⟩) ∧ Below w.heap.size w w' := by
  have hl := ldB_true.1 hs
  have hlen := srtL_len hs
  have hcv := run_bytes_of_string (P := Try.prog) w 9 41 5 s Try.underlying9 Try.underlying41 Try.underlying5
  have hr0 := rowB_of w s (grownCap w s.size 0 5) 5
  generalize grownCap w s.size 0 5 = cap at *
  obtain ⟨N, hN⟩ : ∃ N, (bytesRow s cap).size = N := ⟨_, rfl⟩
  have hb0 : Below w.heap.size w (w.drew.alloc (.cells (bytesRow s cap) 5 ((bytesRow s cap).size, (bytesRow s cap).size + 1))) := ((Below.refl _ _).drew).alloc (Nat.le_refl _) _
  obtain ⟨w1, hw1⟩ : ∃ w1, w.drew.alloc (.cells (bytesRow s cap) 5 ((bytesRow s cap).size, (bytesRow s cap).size + 1)) = w1 := ⟨_, rfl⟩
  rw [hw1] at hcv hr0 hb0
  rw [hN] at hr0
  obtain ⟨out, hout⟩ : ∃ out, srtL s.data.toList = out := ⟨_, rfl⟩
  have hsb := sorted_back hl.2
  rw [hout] at hsb hlen ⊢
  have hsz : s.size ≤ 12 := by have := hl.1; rw [byte_len] at this; exact this
  rw [byte_len] at hlen
  have h1 := sortB_any w.heap.size 5 N s.size cap (u8 s.data.toList) w1 (by rw [u8_len, byte_len]) hsz hr0
  have h2 : ∀ w2, RowB w2 w.heap.size 5 N (sortG upLt (u8 s.data.toList)) → _ := fun w2 => revB_any w.heap.size 5 N s.size cap (sortG upLt (u8 s.data.toList)) w2 (by rw [sortG_length, u8_len, byte_len]) hsz
  rw [hsb] at h2
  have H1 := Lib.hid h1
  have H2 := Lib.hid h2
  have HB := Lib.hid hb0
  have HL := Lib.hid hlen
  clear hl hs hsb hout h1 h2 hb0 hr0 hw1 hN hlen
  go_enter Try.func50, Try.ntmps50
  go_wp2_with fail
  refine H1.out.mono ?_
  rintro e w2 ⟨rfl, hrow2, ho2⟩
  go_wp2_with fail
  refine (H2.out _ hrow2).mono ?_
  rintro e w3 ⟨rfl, hrow3, ho3⟩
  have hb3 : Below w.heap.size w w3 := (HB.out.trans (ho2.below (by have := HB.out.size; omega) (fun k hk => by omega))).trans (ho3.below (by have := HB.out.size; have := ho2.size; omega) (fun k hk => by omega))
  have hbk := run_convert_bytes_back (P := Try.prog) w3 41 9 5 ⟨w.heap.size, 0, none⟩ cap out Try.underlying41 Try.underlying5 Try.underlying9 (fun j hj => by
    rw [Addr.add_lit, Nat.zero_add]
    exact hrow3.cell (u8_at (List.getElem?_eq_getElem hj)))
  rw [HL.out] at hbk
  clear hrow2 ho2 hrow3 ho3
  go_wp2
  go_ret
  exact ⟨rfl, hb3⟩
end Go.Proofs.Ytgcljhgpihpfgaa

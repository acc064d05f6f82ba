/-
  Rows of numbers in memory; the written program's text of them, and its rows of a text.
  Conditions: at most 1000 rows of at most four numbers from 0 to 1000000; the library's variables read as the program's text writes them.
-/
import Derived.Test.YtoheoojpmndhoabDoorTxRows
import Derived.Test.YtoheoojpmndhoabDoorTxTwo
namespace Go.Proofs.YtoheoojpmndhoabDoor
set_option linter.unusedVariables false
open Go.RowKit

theorem rows_info : (Tryd.prog.info? 45).map (fun i => (i.zero, i.size, i.bytes)) = some (some (.slice none 0 0), 1, 24) := by kernel_rfl

/-- Block 'g' holds slices that read as the first 'k' rows, which lie in blocks from 'lo' on and below 'hi'. -/
def RowsAt (w : World) (g T n k lo hi : Nat) (rows : List (List Int)) : Prop :=
  ∃ cs : Array Value, w.heap[g]? = some (.cells cs T (0, 0)) ∧ cs.size = n ∧ ∀ (j : Nat) r, j < k → rows[j]? = some r → ∃ A c, cs[j]? = some (.slice A r.length c) ∧ Seg w lo hi A r

section
variable {w w' : World} {g T n k lo hi hi' : Nat} {rows : List (List Int)}
theorem RowsAt.lt (h : RowsAt w g T n k lo hi rows) : g < w.heap.size := by
  obtain ⟨cs, h1, _⟩ := h
  exact heap_lt h1
theorem RowsAt.below {B : Nat} (h : RowsAt w g T n k lo hi rows) (hb : Below B w w') (hg : g < B) (hB : hi ≤ B) : RowsAt w' g T n k lo hi rows := by
  obtain ⟨cs, h1, h2, h3⟩ := h
  refine ⟨cs, (hb.block g hg).trans h1, h2, fun j r hj hr => ?_⟩
  obtain ⟨A, c, h4, h5⟩ := h3 j r hj hr
  exact ⟨A, c, h4, h5.below hb hB⟩
theorem RowsAt.more (h : RowsAt w g T n k lo hi rows) (hh : hi ≤ hi') : RowsAt w g T n k lo hi' rows := by
  obtain ⟨cs, h1, h2, h3⟩ := h
  refine ⟨cs, h1, h2, fun j r hj hr => ?_⟩
  obtain ⟨A, c, h4, h5⟩ := h3 j r hj hr
  exact ⟨A, c, h4, h5.more (Nat.le_refl _) hh⟩
theorem RowsAt.row (h : RowsAt w g T n k lo hi rows) {j : Nat} {r : List Int} (hj : j < k) (hr : rows[j]? = some r) : ∃ A c, w.cell? ⟨g, j, none⟩ = some (.slice A r.length c) ∧ Seg w lo hi A r := by
  obtain ⟨cs, h1, _, h3⟩ := h
  obtain ⟨A, c, h4, h5⟩ := h3 j r hj hr
  exact ⟨A, c, by rw [cell_of h1]; exact h4, h5⟩
theorem RowsAt.cell (h : RowsAt w g T n k lo hi rows) {j : Nat} (hj : j < n) : ∃ v, w.cell? ⟨g, j, none⟩ = some v := by
  obtain ⟨cs, h1, h2, _⟩ := h
  exact ⟨cs[j]'(by omega), by rw [cell_of h1]; exact Array.getElem?_eq_getElem (by omega)⟩
theorem RowsAt.frozen (h : RowsAt w g T n k lo hi rows) (j : Nat) : w.frozen? ⟨g, j, none⟩ = false := by
  obtain ⟨cs, h1, _⟩ := h
  exact frozen_of h1 j
theorem RowsAt.set (h : RowsAt w g T n k lo hi rows) {A : Option Addr} {c : Nat} {r : List Int} (hr : rows[k]? = some r) (hk : k < n) (hl : g < lo) (hs : Seg w lo hi A r) : RowsAt (w.setCell ⟨g, k, none⟩ (.slice A r.length c)) g T n (k + 1) lo hi rows := by
  obtain ⟨cs, h1, h2, h3⟩ := h
  refine ⟨_, set_self h1 k _, by simp [h2], fun j v hj hv => ?_⟩
  have far : ∀ (X : Option Addr) (ys : List Int), Seg w lo hi X ys → Seg (w.setCell ⟨g, k, none⟩ (.slice A r.length c)) lo hi X ys := fun X ys hh => hh.keep fun p h1 _ => World.cell?_of_block (set_far w (by show p.block ≠ g; omega) _)
  by_cases e : j = k
  · subst e
    rw [hr] at hv
    injection hv with hv
    subst hv
    exact ⟨A, c, by rw [Array.getElem?_setIfInBounds_self_of_lt (by omega)], far _ _ hs⟩
  · obtain ⟨A', c', h4, h5⟩ := h3 j v (by omega) hv
    exact ⟨A', c', by rw [Array.getElem?_setIfInBounds_ne (by omega)]; exact h4, far _ _ h5⟩
end

theorem rows_new (w : World) (T n lo hi : Nat) (z : Value) (rows : List (List Int)) : RowsAt (w.alloc (.cells (madeCells #[z] n) T)) w.heap.size T n 0 lo hi rows :=
  ⟨_, new_at w _ rfl, by simp [madeCells], fun j u hj => by omega⟩

/-- Rows of which a text is made. -/
def plainR (rows : List (List Int)) : Prop := ∀ r ∈ rows, r.length ≤ 4 ∧ ∀ x ∈ r, 0 ≤ x ∧ x ≤ 1000000

theorem rows_size {rows : List (List Int)} (h : plainR rows) (sep : UInt8) : ∀ s ∈ rows.map (textS sep), s.size ≤ 88 := by
  intro s hs
  obtain ⟨r, hr, rfl⟩ := List.mem_map.1 hs
  obtain ⟨h1, h2⟩ := h r hr
  have := textS_size sep r h2
  have h3 : 22 * r.length ≤ 22 * 4 := Nat.mul_le_mul (Nat.le_refl _) h1
  omega

set_option maxRecDepth 100000 in
set_option maxHeartbeats 2000000 in
theorem joinRows_any (sep : UInt8) (g T n lo hi : Nat) (rows : List (List Int)) (w : World) (hn : rows.length = n) (hlen : n ≤ 1000) (hx : plainR rows) (h : RowsAt w g T n n lo hi rows) (hB : hi ≤ w.heap.size) (hT : Tab w) :
    Calls Tryd.prog 20 #[.slice (some ⟨g, 0, none⟩) n n, .string ⟨#[sep]⟩] w fun e w' => e = .returned (.string (joinB 44 (rows.map (textS sep)))) ∧ Below w.heap.size w w' := by
  have hmk := fun W : World => run_make_row' 62 9 (.string ⟨#[]⟩) 16 Tryd.underlying62 str_info rfl .i64 .i64 n (by omega) (by omega) W
  have HN := Lib.hid hn
  have HX := Lib.hid hx
  have HR := Lib.hid h
  have HT := Lib.hid hT
  have HS0 := Lib.hid (word_new w 9 n (.string ⟨#[]⟩) (rows.map (textS sep)))
  have HB0 := Lib.hid ((Below.refl w.heap.size w).alloc (Nat.le_refl _) (.cells (madeCells #[.string ⟨#[]⟩] n) 9))
  clear hn hx h hT
  go_enter Tryd.func20, Tryd.ntmps20
  go_wp2
  clear hmk
  go_loopw [13] (fun i wr => ∃ k : Nat, k ≤ n ∧ i = .int .i64 k ∧ Below w.heap.size w wr ∧ WordRow wr w.heap.size 9 n k (rows.map (textS sep))) (fun i _ => n - (intOf i).toNat)
  case atStart => exact ⟨0, Nat.zero_le _, rfl, HB0.out, HS0.out⟩
  case round =>
    obtain ⟨k, hk, rfl, hb, hrow⟩ := hrel
    have HW := Lib.hid hrow
    have hz := hb.size
    clear hrow
    by_cases hlt : k < n
    · obtain ⟨r, hr⟩ : ∃ r, rows[k]? = some r := ⟨_, List.getElem?_eq_getElem (by rw [HN.out]; exact hlt)⟩
      have hRw := HR.out.below hb HR.out.lt hB
      obtain ⟨A, c, hcr, hsr⟩ := hRw.row hlt hr
      have HU := Lib.hid (show (rows.map (textS sep))[k]? = some (textS sep r) by simp [hr])
      obtain ⟨hr1, hr2⟩ := HX.out r (List.mem_of_getElem? hr)
      have HR2 := Lib.hid hr2
      have HSR := Lib.hid hsr
      have hTr := HT.out.below hb (Nat.le_refl _)
      obtain ⟨l, hl⟩ : ∃ l, r.length = l := ⟨_, rfl⟩
      have HL := Lib.hid hl
      rw [hl] at hcr hr1
      clear hr hRw hr2 hsr hl
      go_wp2_with fail
      refine (joinNumbers_any sep A l c r lo hi _ HL.out (by omega) HR2.out HSR.out (by omega) hTr).mono ?_
      rintro e w2 ⟨rfl, hb2⟩
      have HW2 := Lib.hid (HW.out.below hb2 HW.out.lt)
      obtain ⟨v, hv⟩ := HW2.out.cell hlt
      have hfz := HW2.out.frozen k
      have HFIN := Lib.hid (hb.trans (hb2.mono hz))
      go_wp2
      go_roundw
      case rel => exact ⟨k + 1, by omega, by go_num, HFIN.out.setCell (Nat.le_refl _) _, HW2.out.set HU.out hlt⟩
      case measure => simp [intOf]; omega
    · obtain rfl : k = n := by omega
      go_wp2_with fail
      refine (joinW_any 44 _ _ _ 88 (rows.map (textS sep)) _ (by rw [List.length_map]; exact HN.out) (by omega) (by omega) (rows_size HX.out sep) HW.out).mono ?_
      rintro e w2 ⟨rfl, hb2⟩
      go_wp2
      go_ret
      exact ⟨rfl, hb.trans (hb2.mono hz)⟩

end Go.Proofs.YtoheoojpmndhoabDoor

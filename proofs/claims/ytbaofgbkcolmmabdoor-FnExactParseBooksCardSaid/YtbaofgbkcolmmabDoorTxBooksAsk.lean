/-
  Both programs' text of books, or that there is none.
  Conditions: at most 1048576 books; the library's table of powers of ten reads as it is written.
-/
import Derived.Test.YtbaofgbkcolmmabDoorTxBooks
import Derived.Test.YtbaofgbkcolmmabDoorTxRowsI
namespace Go.Proofs.YtbaofgbkcolmmabDoor
set_option linter.unusedVariables false
open Go.RowKit

/-- A text and a bool are answered. -/
def RetTK (b : Bool) (t : ByteArray) (w : World) (e : Ending) (w' : World) : Prop := e = .returned (.tuple #[.string t, .bool b]) ∧ Below w.heap.size w w'

/-- A text, if there is one. -/
def someK (b : Bool) (t : ByteArray) : ByteArray := if b = true then t else ⟨#[]⟩

theorem good_plain {bs : List (Int × Int)} (h : goodK bs = true) : plainK bs := by
  intro b hb
  have := (goodK_at h).2.2 b hb
  omega

section
variable (A : Option Addr) (n c : Nat) (bs : List (Int × Int)) (lo hi : Nat) (w : World) (hn : bs.length = n) (hlen : n ≤ 1048576) (hs : Seg w lo hi A (flat bs)) (hB : hi ≤ w.heap.size) (b : Bool) (hb : goodK bs = b)
include hn hlen hs hB hb

end

/-- The numbers of one, as a row. -/
def rowK (b : (Int × Int)) : List Int := [b.1, b.2]
theorem rowK_text (b : (Int × Int)) : textS 124 (rowK b) = bkS b := bkS_text b
theorem rowK_texts (bs : List (Int × Int)) : (bs.map rowK).map (textS 124) = bs.map bkS := by
  rw [List.map_map]
  exact List.map_congr_left fun b _ => rowK_text b
theorem rowK_plain {bs : List (Int × Int)} (h : plainK bs) : plainR (bs.map rowK) := by
  intro r hr
  obtain ⟨b, hb, rfl⟩ := List.mem_map.1 hr
  have := h b hb
  refine ⟨by simp [rowK], fun x hx => ?_⟩
  simp only [rowK, List.mem_cons, List.not_mem_nil, or_false] at hx
  rcases hx with rfl | rfl <;> omega

set_option maxRecDepth 100000 in
set_option maxHeartbeats 2000000 in
theorem implBooksText_any (A : Option Addr) (n c : Nat) (bs : List (Int × Int)) (lo hi : Nat) (w : World) (hn : bs.length = n) (hlen : n ≤ 1048576) (hs : Seg w lo hi A (flat bs)) (hB : hi ≤ w.heap.size) (b : Bool) (hb : goodK bs = b) (hT : Tab w) :
    Calls Tryd.prog 63 #[.slice A n c] w (RetTK b (someK b (joinB 44 (bs.map bkS))) w) := by
  have HN := Lib.hid hn
  have HQ := Lib.hid hb
  have HT := Lib.hid hT
  cases b
  · clear hn hb hT
    go_enter Tryd.func63, Tryd.ntmps63
    go_wp2_with fail
    refine (areBooks_any _ _ _ bs lo hi _ HN.out hlen hs hB _ HQ.out).mono ?_
    rintro e w1 ⟨rfl, hb1⟩
    go_wp2
    go_ret2
    exact ⟨rfl, hb1⟩
  · have hn12 : n ≤ 12 := by have := (goodK_at hb).2.1; omega
    have HPL := Lib.hid (good_plain hb)
    have hmk := fun W : World => run_make_row' 66 62 (.slice none 0 0) 24 Tryd.underlying66 rows_info rfl .i64 .i64 n (by omega) (by omega) W
    clear hn hb hT
    go_enter Tryd.func63, Tryd.ntmps63
    go_wp2_with fail
    refine (areBooks_any _ _ _ bs lo hi _ HN.out hlen hs hB _ HQ.out).mono ?_
    rintro e w1 ⟨rfl, hb1⟩
    have hz1 := hb1.size
    have HS0 := Lib.hid (rows_new w1 62 n (w1.heap.size + 1) (w1.heap.size + 1) (.slice none 0 0) (bs.map rowK))
    have HB0 := Lib.hid (hb1.alloc hz1 (.cells (madeCells #[.slice none 0 0] n) 62))
    go_wp2
    clear hmk
    go_loopw [15] (fun i wr => ∃ k : Nat, k ≤ n ∧ i = .int .i64 k ∧ Below w.heap.size w wr ∧ w1.heap.size < wr.heap.size ∧ RowsAt wr w1.heap.size 62 n k (w1.heap.size + 1) wr.heap.size (bs.map rowK)) (fun i _ => n - (intOf i).toNat)
    case atStart => exact ⟨0, Nat.zero_le _, rfl, HB0.out, by simp, HS0.out.more (by simp)⟩
    case round =>
      obtain ⟨k, hk, rfl, hb, hgz, hrow⟩ := hrel
      have HR := Lib.hid hrow
      clear hrow
      by_cases hlt : k < n
      · obtain ⟨bo, off, t, u, rfl, _, _, hu, hc0, hc1⟩ := (hs.below hb hB).book (k := k) (by rw [HN.out]; exact hlt)
        have hz := hb.size
        have HU := Lib.hid (show (bs.map rowK)[k]? = some (rowK (t, u)) by simp [hu])
        clear hu
        have hp1 := hb.alloc hz (.cells #[.int .i64 t, .int .i64 u] 83)
        have hp2 := hp1.alloc hp1.size (.cells #[.int .i64 t, .int .i64 u] 3)
        have hq := ((Below.refl wr.heap.size wr).alloc (Nat.le_refl _) (.cells #[.int .i64 t, .int .i64 u] 83)).alloc (by simp) (.cells #[.int .i64 t, .int .i64 u] 3)
        have hR2 := (HR.out.below hq hgz (Nat.le_refl _)).more hq.size
        have hsg : Seg ((wr.alloc (.cells #[.int .i64 t, .int .i64 u] 83)).alloc (.cells #[.int .i64 t, .int .i64 u] 3)) (w1.heap.size + 1) ((wr.alloc (.cells #[.int .i64 t, .int .i64 u] 83)).alloc (.cells #[.int .i64 t, .int .i64 u] 3)).heap.size (some ⟨wr.heap.size + 1, 0, none⟩) [t, u] := by
          refine .inr ⟨wr.heap.size + 1, 0, rfl, by omega, by simp, fun j hj => ?_⟩
          have hj2 : j < 2 := hj
          rw [Nat.zero_add, cell_of (new_at _ _ (by simp))]
          match j, hj2 with
          | 0, _ => rfl
          | 1, _ => rfl
        obtain ⟨v, hv⟩ := hR2.cell hlt
        have hfz := hR2.frozen k
        have HSET := Lib.hid (hR2.set HU.out hlt (by omega) (c := 2) hsg)
        have HFIN := Lib.hid hp2
        have HZ2 := Lib.hid hq.size
        clear hR2 hsg hp1 hp2 hq
        go_wp2
        go_roundw
        case rel =>
          have e : (((wr.alloc (.cells #[.int .i64 t, .int .i64 u] 83)).alloc (.cells #[.int .i64 t, .int .i64 u] 3)).setCell ⟨w1.heap.size, k, none⟩ (.slice (some ⟨wr.heap.size + 1, 0, none⟩) 2 2)) = (((wr.setCell ⟨w1.heap.size, k, none⟩ (.slice (some ⟨wr.heap.size + 1, 0, none⟩) 2 2)).alloc (.cells #[.int .i64 t, .int .i64 u] 83)).alloc (.cells #[.int .i64 t, .int .i64 u] 3)) := by
            rw [World.setCell_alloc_past _ _ _ _ (by simp; omega), World.setCell_alloc_past _ _ _ _ hgz]
          refine ⟨k + 1, by omega, by go_num, by rw [← e]; exact HFIN.out.setCell (by show w.heap.size ≤ w1.heap.size; omega) _, by rw [← e, size_set]; have := HZ2.out; omega, ?_⟩
          rw [← e, size_set]
          exact HSET.out
        case measure => simp [intOf]; omega
      · obtain rfl : k = n := by omega
        have hz := hb.size
        have hTr := HT.out.below hb (Nat.le_refl _)
        go_wp2_with fail
        refine (joinRows_any 124 w1.heap.size _ k _ _ (bs.map rowK) _ (by rw [List.length_map]; exact HN.out) (by omega) (rowK_plain HPL.out) HR.out (Nat.le_refl _) hTr).mono ?_
        rw [rowK_texts]
        rintro e w2 ⟨rfl, hb2⟩
        go_wp2
        go_ret2
        exact ⟨rfl, hb.trans (hb2.mono hz)⟩
end Go.Proofs.YtbaofgbkcolmmabDoor

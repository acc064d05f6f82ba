/-
  Both programs' text of boxes, or that there is none.
  Conditions: at most 1048576 boxes; the library's table of powers of ten reads as it is written.
-/
import Derived.Test.YtbaofgbkcolmmabDoorTxBoxes
import Derived.Test.YtbaofgbkcolmmabDoorTxRowsI
namespace Go.Proofs.YtbaofgbkcolmmabDoor
set_option linter.unusedVariables false
open Go.RowKit

/-- A text and a bool are answered. -/
def RetTK (b : Bool) (t : ByteArray) (w : World) (e : Ending) (w' : World) : Prop := e = .returned (.tuple #[.string t, .bool b]) ∧ Below w.heap.size w w'

/-- A text, if there is one. -/
def someK (b : Bool) (t : ByteArray) : ByteArray := if b = true then t else ⟨#[]⟩

theorem good_plainN {bs : List (Int × Int × Int)} (h : goodN bs = true) : plainN bs := by
  intro b hb
  have := boxB_true.1 ((goodN_at h).2.2 b hb)
  omega

/-- The numbers of one, as a row. -/
def rowN (b : (Int × Int × Int)) : List Int := [b.1, b.2.1, b.2.2]
theorem rowN_text (b : (Int × Int × Int)) : textS 120 (rowN b) = bxS b := bxS_text b
theorem rowN_texts (bs : List (Int × Int × Int)) : (bs.map rowN).map (textS 120) = bs.map bxS := by
  rw [List.map_map]
  exact List.map_congr_left fun b _ => rowN_text b
theorem rowN_plain {bs : List (Int × Int × Int)} (h : plainN bs) : plainR (bs.map rowN) := by
  intro r hr
  obtain ⟨b, hb, rfl⟩ := List.mem_map.1 hr
  have := h b hb
  refine ⟨by simp [rowN], fun x hx => ?_⟩
  simp only [rowN, List.mem_cons, List.not_mem_nil, or_false] at hx
  rcases hx with rfl | rfl | rfl <;> omega

set_option maxRecDepth 100000 in
set_option maxHeartbeats 2000000 in
theorem implBoxesText_any (A : Option Addr) (n c : Nat) (bs : List (Int × Int × Int)) (lo hi : Nat) (w : World) (hn : bs.length = n) (hlen : n ≤ 1048576) (hs : Seg w lo hi A (flat3 bs)) (hB : hi ≤ w.heap.size) (b : Bool) (hb : goodN bs = b) (hT : Tab w) :
    Calls Tryd.prog 68 #[.slice A n c] w (RetTK b (someK b (joinB 44 (bs.map bxS))) w) := by
  have HN := Lib.hid hn
  have HQ := Lib.hid hb
  have HT := Lib.hid hT
  cases b
  · clear hn hb hT
    go_enter Tryd.func68, Tryd.ntmps68
    go_wp2_with fail
    refine (areBoxes_any _ _ _ bs lo hi _ HN.out hlen hs hB _ HQ.out).mono ?_
    rintro e w1 ⟨rfl, hb1⟩
    go_wp2
    go_ret2
    exact ⟨rfl, hb1⟩
  · have hn12 : n ≤ 12 := by have := (goodN_at hb).2.1; omega
    have HPL := Lib.hid (good_plainN hb)
    have hmk := fun W : World => run_make_row' 66 62 (.slice none 0 0) 24 Tryd.underlying66 rows_info rfl .i64 .i64 n (by omega) (by omega) W
    clear hn hb hT
    go_enter Tryd.func68, Tryd.ntmps68
    go_wp2_with fail
    refine (areBoxes_any _ _ _ bs lo hi _ HN.out hlen hs hB _ HQ.out).mono ?_
    rintro e w1 ⟨rfl, hb1⟩
    have hz1 := hb1.size
    have HS0 := Lib.hid (rows_new w1 62 n (w1.heap.size + 1) (w1.heap.size + 1) (.slice none 0 0) (bs.map rowN))
    have HB0 := Lib.hid (hb1.alloc hz1 (.cells (madeCells #[.slice none 0 0] n) 62))
    go_wp2
    clear hmk
    go_loopw [15] (fun i wr => ∃ k : Nat, k ≤ n ∧ i = .int .i64 k ∧ Below w.heap.size w wr ∧ w1.heap.size < wr.heap.size ∧ RowsAt wr w1.heap.size 62 n k (w1.heap.size + 1) wr.heap.size (bs.map rowN)) (fun i _ => n - (intOf i).toNat)
    case atStart => exact ⟨0, Nat.zero_le _, rfl, HB0.out, by simp, HS0.out.more (by simp)⟩
    case round =>
      obtain ⟨k, hk, rfl, hb, hgz, hrow⟩ := hrel
      have HR := Lib.hid hrow
      clear hrow
      by_cases hlt : k < n
      · obtain ⟨bo, off, x, y, z, rfl, _, _, hu, hc0, hc1, hc2⟩ := (hs.below hb hB).tri (k := k) (by rw [HN.out]; exact hlt)
        have hz := hb.size
        have HU := Lib.hid (show (bs.map rowN)[k]? = some (rowN (x, y, z)) by simp [hu])
        clear hu
        have hp1 := hb.alloc hz (.cells #[.int .i64 x, .int .i64 y, .int .i64 z] 92)
        have hq := ((Below.refl wr.heap.size wr).alloc (Nat.le_refl _) (.cells #[.int .i64 x, .int .i64 y, .int .i64 z] 92))
        have HP1 := Lib.hid hp1
        have HQ1 := Lib.hid hq
        clear hp1 hq
        go_wp2_with fail
        refine (sides_any x y z _).mono ?_
        rintro e w2 ⟨g, rfl, hg, hc, hb2⟩
        have hq := HQ1.out.trans (hb2.mono HQ1.out.size)
        have hR2 := (HR.out.below hq hgz (Nat.le_refl _)).more hq.size
        have hsg := (seg3_of hc).more (lo' := w1.heap.size + 1) (by have := HQ1.out.size; omega) (Nat.le_refl _)
        obtain ⟨v, hv⟩ := hR2.cell hlt
        have hfz := hR2.frozen k
        have HSET := Lib.hid (hR2.set HU.out hlt (by omega) (c := 3) hsg)
        have HFIN := Lib.hid (hb.trans (hq.mono hz))
        have HZ2 := Lib.hid hq.size
        clear hR2 hsg hq hc
        go_wp2
        go_roundw
        case rel =>
          refine ⟨k + 1, by omega, by go_num, HFIN.out.setCell (by show w.heap.size ≤ w1.heap.size; omega) _, by rw [size_set]; have := HZ2.out; omega, ?_⟩
          rw [size_set]
          exact HSET.out
        case measure => simp [intOf]; omega
      · obtain rfl : k = n := by omega
        have hz := hb.size
        have hTr := HT.out.below hb (Nat.le_refl _)
        go_wp2_with fail
        refine (joinRows_any 120 w1.heap.size _ k _ _ (bs.map rowN) _ (by rw [List.length_map]; exact HN.out) (by omega) (rowN_plain HPL.out) HR.out (Nat.le_refl _) hTr).mono ?_
        rw [rowN_texts]
        rintro e w2 ⟨rfl, hb2⟩
        go_wp2
        go_ret2
        exact ⟨rfl, hb.trans (hb2.mono hz)⟩
end Go.Proofs.YtbaofgbkcolmmabDoor

/-
  Both programs' text of things, or that there is none.
  Conditions: at most 1048576 things; the library's table of powers of ten reads as it is written.
-/
import Derived.Test.YtbaofgbkcolmmabDoorTxStk
import Derived.Test.YtbaofgbkcolmmabDoorTxRowsI
namespace Go.Proofs.YtbaofgbkcolmmabDoor
set_option linter.unusedVariables false
open Go.RowKit

/-- A text and a bool are answered. -/
def RetTKZ (b : Bool) (t : ByteArray) (w : World) (e : Ending) (w' : World) : Prop := e = .returned (.tuple #[.string t, .bool b]) ∧ Below w.heap.size w w'

/-- A text, if there is one. -/
def someKZ (b : Bool) (t : ByteArray) : ByteArray := if b = true then t else ⟨#[]⟩

theorem good_plainNZ {bs : List (Int × Int × Int)} (h : goodT bs = true) : plainNZ bs := by
  intro b hb
  have := thgB_true.1 ((goodT_at h).2.2 b hb)
  omega

/-- The numbers of one, as a row. -/
def rowNZ (b : (Int × Int × Int)) : List Int := [b.1, b.2.1, b.2.2]
theorem rowN_textZ (b : (Int × Int × Int)) : textS 47 (rowNZ b) = bxSZ b := bxS_textZ b
theorem rowN_textsZ (bs : List (Int × Int × Int)) : (bs.map rowNZ).map (textS 47) = bs.map bxSZ := by
  rw [List.map_map]
  exact List.map_congr_left fun b _ => rowN_textZ b
theorem rowN_plainZ {bs : List (Int × Int × Int)} (h : plainNZ bs) : plainR (bs.map rowNZ) := by
  intro r hr
  obtain ⟨b, hb, rfl⟩ := List.mem_map.1 hr
  have := h b hb
  refine ⟨by simp [rowNZ], fun x hx => ?_⟩
  simp only [rowNZ, List.mem_cons, List.not_mem_nil, or_false] at hx
  rcases hx with rfl | rfl | rfl <;> omega

set_option maxRecDepth 100000 in
set_option maxHeartbeats 2000000 in
theorem implBoxesText_anyZ (A : Option Addr) (n c : Nat) (bs : List (Int × Int × Int)) (lo hi : Nat) (w : World) (hn : bs.length = n) (hlen : n ≤ 1048576) (hs : Seg w lo hi A (flat3 bs)) (hB : hi ≤ w.heap.size) (b : Bool) (hb : goodT bs = b) (hT : Tab w) :
    Calls Tryd.prog 73 #[.slice A n c] w (RetTKZ b (someKZ b (joinB 44 (bs.map bxSZ))) w) := by
  have HN := Lib.hid hn
  have HQ := Lib.hid hb
  have HT := Lib.hid hT
  cases b
  · clear hn hb hT
    go_enter Tryd.func73, Tryd.ntmps73
    go_wp2_with fail
    refine (areStackable_any _ _ _ bs lo hi _ HN.out hlen hs hB _ HQ.out).mono ?_
    rintro e w1 ⟨rfl, hb1⟩
    go_wp2
    go_ret2
    exact ⟨rfl, hb1⟩
  · have hn12 : n ≤ 12 := by have := (goodT_at hb).2.1; omega
    have HPL := Lib.hid (good_plainNZ hb)
    have hmk := fun W : World => run_make_row' 66 62 (.slice none 0 0) 24 Tryd.underlying66 rows_info rfl .i64 .i64 n (by omega) (by omega) W
    clear hn hb hT
    go_enter Tryd.func73, Tryd.ntmps73
    go_wp2_with fail
    refine (areStackable_any _ _ _ bs lo hi _ HN.out hlen hs hB _ HQ.out).mono ?_
    rintro e w1 ⟨rfl, hb1⟩
    have hz1 := hb1.size
    have HS0 := Lib.hid (rows_new w1 62 n (w1.heap.size + 1) (w1.heap.size + 1) (.slice none 0 0) (bs.map rowNZ))
    have HB0 := Lib.hid (hb1.alloc hz1 (.cells (madeCells #[.slice none 0 0] n) 62))
    go_wp2
    clear hmk
    go_loopw [15] (fun i wr => ∃ k : Nat, k ≤ n ∧ i = .int .i64 k ∧ Below w.heap.size w wr ∧ w1.heap.size < wr.heap.size ∧ RowsAt wr w1.heap.size 62 n k (w1.heap.size + 1) wr.heap.size (bs.map rowNZ)) (fun i _ => n - (intOf i).toNat)
    case atStart => exact ⟨0, Nat.zero_le _, rfl, HB0.out, by simp, HS0.out.more (by simp)⟩
    case round =>
      obtain ⟨k, hk, rfl, hb, hgz, hrow⟩ := hrel
      have HR := Lib.hid hrow
      clear hrow
      by_cases hlt : k < n
      · obtain ⟨bo, off, x, y, z, rfl, _, _, hu, hc0, hc1, hc2⟩ := (hs.below hb hB).tri (k := k) (by rw [HN.out]; exact hlt)
        have hz := hb.size
        have HU := Lib.hid (show (bs.map rowNZ)[k]? = some (rowNZ (x, y, z)) by simp [hu])
        clear hu
        have hp1 := hb.alloc hz (.cells #[.int .i64 x, .int .i64 y, .int .i64 z] 98)
        have hp2 := hp1.alloc hp1.size (.cells #[.int .i64 x, .int .i64 y, .int .i64 z] 3)
        have hq := ((Below.refl wr.heap.size wr).alloc (Nat.le_refl _) (.cells #[.int .i64 x, .int .i64 y, .int .i64 z] 98)).alloc (by simp) (.cells #[.int .i64 x, .int .i64 y, .int .i64 z] 3)
        have hR2 := (HR.out.below hq hgz (Nat.le_refl _)).more hq.size
        have hsg : Seg ((wr.alloc (.cells #[.int .i64 x, .int .i64 y, .int .i64 z] 98)).alloc (.cells #[.int .i64 x, .int .i64 y, .int .i64 z] 3)) (w1.heap.size + 1) ((wr.alloc (.cells #[.int .i64 x, .int .i64 y, .int .i64 z] 98)).alloc (.cells #[.int .i64 x, .int .i64 y, .int .i64 z] 3)).heap.size (some ⟨wr.heap.size + 1, 0, none⟩) [x, y, z] := by
          refine .inr ⟨wr.heap.size + 1, 0, rfl, by omega, by simp, fun j hj => ?_⟩
          have hj2 : j < 3 := hj
          rw [Nat.zero_add, cell_of (new_at _ _ (by simp))]
          match j, hj2 with
          | 0, _ => rfl
          | 1, _ => rfl
          | 2, _ => rfl
        obtain ⟨v, hv⟩ := hR2.cell hlt
        have hfz := hR2.frozen k
        have HSET := Lib.hid (hR2.set HU.out hlt (by omega) (c := 3) hsg)
        have HFIN := Lib.hid hp2
        have HZ2 := Lib.hid hq.size
        clear hR2 hsg hp1 hp2 hq
        go_wp2
        go_roundw
        case rel =>
          have e : (((wr.alloc (.cells #[.int .i64 x, .int .i64 y, .int .i64 z] 98)).alloc (.cells #[.int .i64 x, .int .i64 y, .int .i64 z] 3)).setCell ⟨w1.heap.size, k, none⟩ (.slice (some ⟨wr.heap.size + 1, 0, none⟩) 3 3)) = (((wr.setCell ⟨w1.heap.size, k, none⟩ (.slice (some ⟨wr.heap.size + 1, 0, none⟩) 3 3)).alloc (.cells #[.int .i64 x, .int .i64 y, .int .i64 z] 98)).alloc (.cells #[.int .i64 x, .int .i64 y, .int .i64 z] 3)) := by
            rw [World.setCell_alloc_past _ _ _ _ (by simp; omega), World.setCell_alloc_past _ _ _ _ hgz]
          refine ⟨k + 1, by omega, by go_num, by rw [← e]; exact HFIN.out.setCell (by show w.heap.size ≤ w1.heap.size; omega) _, by rw [← e, size_set]; have := HZ2.out; omega, ?_⟩
          rw [← e, size_set]
          exact HSET.out
        case measure => simp [intOf]; omega
      · obtain rfl : k = n := by omega
        have hz := hb.size
        have hTr := HT.out.below hb (Nat.le_refl _)
        go_wp2_with fail
        refine (joinRows_any 47 w1.heap.size _ k _ _ (bs.map rowNZ) _ (by rw [List.length_map]; exact HN.out) (by omega) (rowN_plainZ HPL.out) HR.out (Nat.le_refl _) hTr).mono ?_
        rw [rowN_textsZ]
        rintro e w2 ⟨rfl, hb2⟩
        go_wp2
        go_ret2
        exact ⟨rfl, hb.trans (hb2.mono hz)⟩
end Go.Proofs.YtbaofgbkcolmmabDoor

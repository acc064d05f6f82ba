/-
  Both programs' text of books, or that there is none.
  Conditions: at most 1048576 books; the library's table of powers of ten reads as it is written.
-/
import Derived.Test.YtplohhmggfifkacDoorTxBooks
namespace Go.Proofs.YtplohhmggfifkacDoor
set_option linter.unusedVariables false
open Go.RowKit

theorem joinPair_any (g : Nat) (t u : Int) (W : World) (T : Nat) (hg : g = W.heap.size) (h : (0 ≤ t ∧ t ≤ 1000000) ∧ 0 ≤ u ∧ u ≤ 1000000) (hT : Tab (W.alloc (.cells #[.int .i64 t, .int .i64 u] T))) :
    Calls Tryd.prog 27 #[.slice (some ⟨g, 0, none⟩) 2 2, .string ⟨#[124]⟩] (W.alloc (.cells #[.int .i64 t, .int .i64 u] T)) fun e w' =>
      e = .returned (.string (bkS (t, u))) ∧ Below (W.alloc (.cells #[.int .i64 t, .int .i64 u] T)).heap.size (W.alloc (.cells #[.int .i64 t, .int .i64 u] T)) w' := by
  subst hg
  rw [← bkS_text]
  refine joinNumbers_any 124 (some ⟨W.heap.size, 0, none⟩) 2 2 [t, u] W.heap.size (W.alloc (.cells #[.int .i64 t, .int .i64 u] T)).heap.size _ rfl (by omega) ?_ (.inr ⟨W.heap.size, 0, rfl, Nat.le_refl _, by simp, fun k hk => ?_⟩) (Nat.le_refl _) hT
  · intro x hx
    simp only [List.mem_cons, List.not_mem_nil, or_false] at hx
    rcases hx with rfl | rfl
    · exact h.1
    · exact h.2
  · have hk2 : k < 2 := hk
    rw [Nat.zero_add, cell_of (new_at W _ rfl)]
    match k, hk2 with
    | 0, _ => rfl
    | 1, _ => rfl

/-- A text and a bool are answered. -/
def RetTK (b : Bool) (t : ByteArray) (w : World) (e : Ending) (w' : World) : Prop := e = .returned (.tuple #[.string t, .bool b]) ∧ Below w.heap.size w w'

/-- A text, if there is one. -/
def someK (b : Bool) (t : ByteArray) : ByteArray := if b = true then t else ⟨#[]⟩

theorem good_plain {bs : List (Int × Int)} (h : goodK bs = true) : plainK bs := by
  intro b hb
  have := (goodK_at h).2.2 b hb
  omega

section
variable (A : Option Addr) (n c : Nat) (bs : List (Int × Int)) (lo hi : Nat) (w : World) (hn : bs.length = n) (hlen : n ≤ 1048576) (hs : Seg w lo hi A (flat bs)) (hB : hi ≤ w.heap.size) (b : Bool) (hb : goodK bs = b)
include hn hlen hs hB hb

theorem specBooksText_any : Calls Tryd.prog 16 #[.slice A n c] w (RetTK b (someK b (joinB 44 (bs.map bkS))) w) := by
  have HN := Lib.hid hn
  have HQ := Lib.hid hb
  clear hn hb
  cases b
  · go_enter Tryd.func16, Tryd.ntmps16
    go_wp2_with fail
    refine (shGood_any _ _ _ bs lo hi _ HN.out hlen hs hB _ HQ.out).mono ?_
    rintro e w1 ⟨rfl, hb1⟩
    go_wp2
    go_ret2
    exact ⟨rfl, hb1⟩
  · go_enter Tryd.func16, Tryd.ntmps16
    go_wp2_with fail
    refine (shGood_any _ _ _ bs lo hi _ HN.out hlen hs hB _ HQ.out).mono ?_
    rintro e w1 ⟨rfl, hb1⟩
    have hz1 := hb1.size
    go_wp2_with fail
    refine (shText_any _ _ _ bs lo hi _ HN.out hlen (good_plain HQ.out) (hs.below hb1 hB) (Nat.le_trans hB hz1)).mono ?_
    rintro e w2 ⟨rfl, hb2⟩
    go_wp2
    go_ret2
    exact ⟨rfl, hb1.trans (hb2.mono hz1)⟩

set_option maxRecDepth 100000 in
set_option maxHeartbeats 2000000 in
theorem implBooksText_any (hT : Tab w) : Calls Tryd.prog 18 #[.slice A n c] w (RetTK b (someK b (joinB 44 (bs.map bkS))) w) := by
  have HN := Lib.hid hn
  have HQ := Lib.hid hb
  have HT := Lib.hid hT
  clear hn hb hT
  cases b
  · go_enter Tryd.func18, Tryd.ntmps18
    go_wp2_with fail
    refine (areBooks_any _ _ _ bs lo hi _ HN.out hlen hs hB _ HQ.out).mono ?_
    rintro e w1 ⟨rfl, hb1⟩
    go_wp2
    go_ret2
    exact ⟨rfl, hb1⟩
  · have hmk := fun W : World => run_make_row' 51 9 (.string ⟨#[]⟩) 16 Tryd.underlying51 str_info rfl .i64 .i64 n (by omega) (by omega) W
    go_enter Tryd.func18, Tryd.ntmps18
    go_wp2_with fail
    refine (areBooks_any _ _ _ bs lo hi _ HN.out hlen hs hB _ HQ.out).mono ?_
    rintro e w1 ⟨rfl, hb1⟩
    have hz1 := hb1.size
    have HS0 := Lib.hid (word_new w1 9 n (.string ⟨#[]⟩) (bs.map bkS))
    have HB0 := Lib.hid (hb1.alloc hz1 (.cells (madeCells #[.string ⟨#[]⟩] n) 9))
    go_wp2
    go_loopw [15] (fun i wr => ∃ k : Nat, k ≤ n ∧ i = .int .i64 k ∧ Below w.heap.size w wr ∧ WordRow wr w1.heap.size 9 n k (bs.map bkS)) (fun i _ => n - (intOf i).toNat)
    case atStart => exact ⟨0, Nat.zero_le _, rfl, HB0.out, HS0.out⟩
    case round =>
      obtain ⟨k, hk, rfl, hb, hrow⟩ := hrel
      have HR := Lib.hid hrow
      clear hrow
      by_cases hlt : k < n
      · obtain ⟨b, off, t, u, rfl, _, _, hu, hc0, hc1⟩ := (hs.below hb hB).book (k := k) (by rw [HN.out]; exact hlt)
        have hub := good_plain HQ.out (t, u) (List.mem_of_getElem? hu)
        dsimp only at hub
        have hz := hb.size
        have HU := Lib.hid (show (bs.map bkS)[k]? = some (bkS (t, u)) by simp [hu])
        have hbr := hb.alloc hz (.cells #[.int .i64 t, .int .i64 u] 48)
        have hbr2 := hbr.alloc hbr.size (.cells #[.int .i64 t, .int .i64 u] 3)
        have HBR := Lib.hid hbr2
        have HTT := Lib.hid (HT.out.below hbr2 (Nat.le_refl _))
        clear hu
        go_wp2_with fail
        refine (joinPair_any _ t u _ _ (by simp) hub HTT.out).mono ?_
        rintro e w2 ⟨rfl, hb2⟩
        have HR2 := Lib.hid (HR.out.below (((Below.refl wr.heap.size wr).alloc (Nat.le_refl _) (.cells #[.int .i64 t, .int .i64 u] 48)).alloc (by simp) (.cells #[.int .i64 t, .int .i64 u] 3)) HR.out.lt)
        have HR3 := Lib.hid (HR2.out.below hb2 (by have := HR.out.lt; simp; omega))
        obtain ⟨v, hv⟩ := HR3.out.cell hlt
        have hfz := HR3.out.frozen k
        have hfin := HBR.out.trans (hb2.mono HBR.out.size)
        go_wp2
        go_roundw
        case rel => exact ⟨k + 1, by omega, by go_num, hfin.setCell hz1 _, HR3.out.set HU.out hlt⟩
        case measure => simp [intOf]; omega
      · obtain rfl : k = n := by omega
        have hz := hb.size
        go_wp2_with fail
        refine (joinW_any 44 _ _ _ 43 (bs.map bkS) _ (by rw [List.length_map]; exact HN.out) hlen (by omega) (words_size (good_plain HQ.out)) HR.out).mono ?_
        rintro e w2 ⟨rfl, hb2⟩
        go_wp2
        go_ret2
        exact ⟨rfl, hb.trans (hb2.mono hz)⟩
end
end Go.Proofs.YtplohhmggfifkacDoor

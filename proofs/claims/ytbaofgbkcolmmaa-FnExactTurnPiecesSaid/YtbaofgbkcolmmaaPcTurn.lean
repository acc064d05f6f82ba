/-
  Pieces turned, by both programs.
  Conditions: the list has at most 1048576 pieces.
-/
import Derived.Test.YtbaofgbkcolmmaaPcGood
import Derived.Test.YtbaofgbkcolmmaaPcsHeld
import Derived.Test.YtbaofgbkcolmmaaAppendFlat3
namespace Go.Proofs.Ytbaofgbkcolmmaa
set_option linter.unusedVariables false
open Go.RowKit

/-- Pieces with their sides exchanged. -/
def turnL (ps : List (Int × Int × Int)) : List (Int × Int × Int) := ps.map fun p => (p.2.1, p.1, p.2.2)
theorem turnL_length (ps : List (Int × Int × Int)) : (turnL ps).length = ps.length := by simp [turnL]
theorem turnL_at {ps : List (Int × Int × Int)} {k : Nat} {x y z : Int} (h : ps[k]? = some (x, y, z)) : (turnL ps)[k]? = some (y, x, z) := by simp [turnL, h]
theorem turnL_next {ps : List (Int × Int × Int)} {k : Nat} {x y z : Int} (h : ps[k]? = some (x, y, z)) : turnL (ps.take (k + 1)) = turnL (ps.take k) ++ [(y, x, z)] := by
  obtain ⟨hk, e⟩ := List.getElem?_eq_some_iff.1 h
  rw [List.take_succ_eq_append_getElem hk, e, turnL, turnL, List.map_append]
  rfl
/-- The pieces, if there are some. -/
def someP (q : Bool) (ps : List (Int × Int × Int)) : List (Int × Int × Int) := if q = true then ps else []
theorem someP_no (ps : List (Int × Int × Int)) : (someP false ps).length ≤ 1048576 := by simp [someP]
theorem someP_yes {ps : List (Int × Int × Int)} (h : ps.length ≤ 1048576) : (someP true ps).length ≤ 1048576 := by simpa [someP] using h
/-- Pieces and a bool are answered. -/
def RetP (b : Bool) (ys : List (Int × Int × Int)) (w : World) (e : Ending) (w' : World) : Prop :=
  ∃ A n c, e = .returned (.tuple #[.slice A n c, .bool b]) ∧ ys.length = n ∧ Own w' w.heap.size w'.heap.size A (flat3 ys) ∧ Below w.heap.size w w'

set_option maxRecDepth 100000 in
set_option maxHeartbeats 1000000 in
theorem spec_TurnPieces (A : Option Addr) (n c : Nat) (bs : List (Int × Int × Int)) (lo hi : Nat) (w : World) (hn : bs.length = n) (hlen : n ≤ 1048576) (hs : Seg w lo hi A (flat3 bs)) (hB : hi ≤ w.heap.size) (q : Bool) (hq : goodPc bs = q) :
    Calls Try.prog 29 #[.slice A n c] w (RetP q (someP q (turnL bs)) w) := by
  have HN := Lib.hid hn
  have HQ := Lib.hid hq
  cases q
  · clear hn hq
    go_enter Try.func29, Try.ntmps29
    go_wp2_with fail
    refine (bdPieces_any _ _ _ bs lo hi _ HN.out hlen hs hB _ HQ.out).mono ?_
    rintro e w1 ⟨rfl, hb1⟩
    go_wp2
    go_ret2
    exact ⟨none, 0, 0, rfl, rfl, Own.nil_, hb1⟩
  · have hn4 : n ≤ 4 := by rw [← hn]; exact (goodPc_at hq).2.1
    have hbld : ∀ (W : World) (x y z : Int), (Instr.build 52 #[(0, .int .i64 x), (1, .int .i64 y), (2, .int .i64 z)]).run Try.prog W = .ok (.agg #[.int .i64 x, .int .i64 y, .int .i64 z]) W := fun W x y z => run_build W 52 _ _ (by kernel_rfl)
    obtain ⟨i0, hi0, hz0, hz1, hz2⟩ := info_parts piece_info
    clear hn hq
    go_enter Try.func29, Try.ntmps29
    go_wp2_with fail
    refine (bdPieces_any _ _ _ bs lo hi _ HN.out hlen hs hB _ HQ.out).mono ?_
    rintro e w1 ⟨rfl, hb1⟩
    have HS1 := Lib.hid (hs.below hb1 hB)
    have hz1' := hb1.size
    have HB1 := Lib.hid hb1
    clear hs hb1
    go_wp2
    go_loopw [4, 6, 12] (fun v _ i wr => ∃ k : Nat, k ≤ n ∧ i = .int .i64 k ∧ Below w1.heap.size w1 wr ∧ wr.ownsRow w1.heap.size 52 3 v (turnL (bs.take k)).length (vals3 (turnL (bs.take k)))) (fun _ _ i _ => n - (intOf i).toNat)
    case atStart => exact ⟨0, Nat.zero_le _, rfl, Below.refl _ _, World.ownsRow_nil _ _ _ _⟩
    case round =>
      obtain ⟨k, hk, rfl, hb, hown⟩ := hrel
      have hsz := hb.size
      have HB := Lib.hid hb
      obtain ⟨Bv, dv, rfl, hlv, hdv, _⟩ := seg_of_row3 hown
      obtain ⟨nv, hnv⟩ : ∃ nv, (turnL (bs.take k)).length = nv := ⟨_, rfl⟩
      rw [hnv] at hown ⊢
      have hnvk : nv ≤ 4 := by rw [← hnv, turnL_length, List.length_take]; omega
      have HNV := Lib.hid hnv
      have HOW := Lib.hid hown
      clear hnv hown hdv hlv
      by_cases hlt : k < n
      · obtain ⟨b, off, x, y, z, rfl, _, _, hx, hc0, hc1, hc2⟩ := (HS1.out.below hb (by omega)).tri (k := k) (by rw [HN.out]; exact hlt)
        have HNX := Lib.hid (turnL_next hx)
        have HOW1 := Lib.hid (HOW.out.alloc (.cells #[.int .i64 x, .int .i64 y, .int .i64 z] 52))
        have HOW2 := Lib.hid (HOW1.out.alloc (.cells #[.int .i64 y, .int .i64 x, .int .i64 z] 52))
        have HSB := Lib.hid (seg_box (wr.alloc (.cells #[.int .i64 x, .int .i64 y, .int .i64 z] 52)) y x z 52)
        have HLT := Lib.hid HOW.out.lt
        clear hx
        go_wp2_with (at_builtin; refine wpList_append_flat3 _ rfl _ _ 25 rfl w1.heap.size 52 i0 Try.underlying25 hi0 hz0 hz1 hz2 _ nv _ rfl HOW2.out _ 1 1 [(y, x, z)] _ _ rfl rfl (by simpa using HSB.out) (by omega) (by simp; omega) ?_; intro v3 w3 hown3 hgr3; obtain ⟨A3, c3, rfl, _, _, _⟩ := seg_of_row3 (bs := turnL (bs.take k) ++ [(y, x, z)]) (by rw [vals3_append]; exact hown3); have HO3 := Lib.hid hown3; have HB3 := Lib.hid (show Below w1.heap.size w1 w3 from ((HB.out.alloc hsz _).alloc (by simp; omega) _).grown hgr3 (by simp; omega) (fun g' hg' => (HLT.out g' hg').1)); clear hown3 hgr3)
        go_roundw
        case rel => exact ⟨k + 1, by omega, by go_num, HB3.out, by rw [HNX.out, List.length_append, HNV.out, vals3_append]; exact HO3.out⟩
        case measure => simp [intOf]; omega
      · obtain rfl : k = n := by omega
        obtain ⟨Bf, df, hvf, hlf, _, hof⟩ := seg_of_row3 HOW.out
        injection hvf with e1 e2 e3
        subst e1 e3
        have HE := Lib.hid (show turnL (bs.take k) = turnL bs by rw [← HN.out, List.take_length])
        go_wp2
        go_ret2
        refine ⟨Bv, nv, dv, rfl, ?_, ?_, HB1.out.trans (hb.mono hz1')⟩
        · rw [← HNV.out, HE.out]; rfl
        · have h := hof.more (lo' := w.heap.size) hz1' (Nat.le_refl _)
          rw [HE.out] at h
          exact h

set_option maxRecDepth 100000 in
set_option maxHeartbeats 1000000 in
theorem impl_TurnPieces (A : Option Addr) (n c : Nat) (bs : List (Int × Int × Int)) (lo hi : Nat) (w : World) (hn : bs.length = n) (hlen : n ≤ 1048576) (hs : Seg w lo hi A (flat3 bs)) (hB : hi ≤ w.heap.size) (q : Bool) (hq : goodPc bs = q) :
    Calls Try.prog 30 #[.slice A n c] w (RetP q (someP q (turnL bs)) w) := by
  have HN := Lib.hid hn
  have HQ := Lib.hid hq
  cases q
  · clear hn hq
    go_enter Try.func30, Try.ntmps30
    go_wp2_with fail
    refine (arePieces_any _ _ _ bs lo hi _ HN.out hlen hs hB _ HQ.out).mono ?_
    rintro e w1 ⟨rfl, hb1⟩
    go_wp2
    go_ret2
    exact ⟨none, 0, 0, rfl, rfl, Own.nil_, hb1⟩
  · have hmk := make_pieces n hlen
    have HL := Lib.hid (show (turnL bs).length = n by rw [turnL_length]; exact hn)
    clear hn hq
    go_enter Try.func30, Try.ntmps30
    go_wp2_with fail
    refine (arePieces_any _ _ _ bs lo hi _ HN.out hlen hs hB _ HQ.out).mono ?_
    rintro e w1 ⟨rfl, hb1⟩
    have HS1 := Lib.hid (hs.below hb1 hB)
    have hz1' := hb1.size
    have HB1 := Lib.hid hb1
    clear hs hb1
    go_wp2
    clear hmk
    go_loopw [5, 6, 15] (fun _ _ i wr => ∃ k : Nat, k ≤ n ∧ i = .int .i64 k ∧ Below w1.heap.size w1 wr ∧ Part wr w1.heap.size 52 (n * 3) (k * 3) (flat3 (turnL bs))) (fun _ _ i _ => n - (intOf i).toNat)
    case atStart => exact ⟨0, Nat.zero_le _, rfl, (Below.refl _ _).alloc (Nat.le_refl _) _, piece_part_new _ _ _ _ _ _ _⟩
    case round =>
      obtain ⟨k, hk, rfl, hb, hp⟩ := hrel
      have HB := Lib.hid hb
      have hsz := hb.size
      by_cases hlt : k < n
      · obtain ⟨b, off, x, y, z, rfl, _, _, hx, hc0, hc1, hc2⟩ := (HS1.out.below hb (by omega)).tri (k := k) (by rw [HN.out]; exact hlt)
        have HX := Lib.hid (turnL_at hx)
        have HP := Lib.hid hp
        clear hx hp
        go_wp2_with fail
        refine (turnedOf_any _ _ _ _).mono ?_
        rintro e w2 ⟨rfl, hb2⟩
        have hp1 := (HP.out.keep (alloc_old _ HP.out.lt (.cells #[.int .i64 x, .int .i64 y, .int .i64 z] 52))).keep (hb2.block _ (by have := HP.out.lt; simp; omega))
        have hbb := (HB.out.alloc hsz (.cells #[.int .i64 x, .int .i64 y, .int .i64 z] 52)).trans (hb2.mono (by simp; omega))
        obtain ⟨v0, hv0⟩ := hp1.cell (k * 3) (by omega)
        obtain ⟨v1, hv1⟩ := hp1.cell (k * 3 + 1) (by omega)
        obtain ⟨v2, hv2⟩ := hp1.cell (k * 3 + 2) (by omega)
        have hf0 := hp1.frozen (k * 3)
        have hf1 := hp1.frozen (k * 3 + 1)
        have hf2 := hp1.frozen (k * 3 + 2)
        go_wp2
        go_roundw
        case rel => exact ⟨k + 1, by omega, by go_num, ((hbb.setCell (Nat.le_refl _) _).setCell (Nat.le_refl _) _).setCell (Nat.le_refl _) _, hp1.tri hlt HX.out⟩
        case measure => simp [intOf]; omega
      · obtain rfl : k = n := by omega
        have HP := Lib.hid hp
        clear hp
        go_wp2
        go_ret2
        refine ⟨_, k, k, rfl, HL.out, ?_, HB1.out.trans (hb.mono hz1')⟩
        have hp' : Part wr w1.heap.size 52 (k * 3) (flat3 (turnL bs)).length (flat3 (turnL bs)) := by rw [flat3_length, HL.out]; exact HP.out
        exact (hp'.own (Nat.le_refl _) HP.out.lt).more hz1' (Nat.le_refl _)
end Go.Proofs.Ytbaofgbkcolmmaa

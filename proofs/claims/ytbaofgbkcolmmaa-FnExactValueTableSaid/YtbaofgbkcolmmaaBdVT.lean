/-
  Both programs' tables of values.
  Conditions: none.
-/
import Derived.Test.YtbaofgbkcolmmaaBdW
import Derived.Test.YtbaofgbkcolmmaaL1Own
import Derived.Test.YtbaofgbkcolmmaaSomeN
namespace Go.Proofs.Ytbaofgbkcolmmaa
set_option linter.unusedVariables false
open Go.RowKit

/-- The values of the boards that are so wide. -/
def tabV (ps : List (Int × Int × Int)) (tu : Bool) (a : Nat) : List Int := (List.range 24).map fun i => valB ps tu a (i + 1)
theorem tabV_length (ps : List (Int × Int × Int)) (tu : Bool) (a : Nat) : (tabV ps tu a).length = 24 := by simp [tabV]
theorem tabV_at {ps : List (Int × Int × Int)} {tu : Bool} {a k : Nat} (h : k < 24) : (tabV ps tu a)[k]? = some (valB ps tu a (k + 1)) := by simp [tabV, h]
def tabL (ps : List (Int × Int × Int)) (tu : Bool) (x : Int) : List Int := tabV ps tu x.toNat
theorem tabL_nat (ps : List (Int × Int × Int)) (tu : Bool) (a : Nat) : tabL ps tu (a : Int) = tabV ps tu a := rfl
theorem bdB_24 (x : Int) : bdB x 24 = bdB x 1 := by rw [Bool.eq_iff_iff, bdB_true, bdB_true]; omega

set_option maxRecDepth 100000 in
set_option maxHeartbeats 1000000 in
theorem spec_ValueTable (x : Int) (C0 : Option Addr) (np cp0 : Nat) (ps : List (Int × Int × Int)) (lo hi : Nat) (tu : Bool) (w : World) (hn : ps.length = np) (hlen : np ≤ 1048576) (hs : Seg w lo hi C0 (flat3 ps)) (hB : hi ≤ w.heap.size) (q : Bool) (hq : askP x 1 ps = q) :
    Calls Try.prog 43 #[.int .i64 x, .slice C0 np cp0, .bool tu] w (RetL q (someN q (tabL ps tu x)) w) := by
  have HA := Lib.hid (bdAsked_any x 1 C0 np cp0 ps lo hi w hn hlen hs hB q hq)
  cases q
  · clear hn hs hq
    go_enter Try.func43, Try.ntmps43
    go_wp2_with fail
    refine HA.out.mono ?_
    rintro e w1 ⟨rfl, hb1⟩
    go_wp2
    go_ret2
    exact ⟨none, 0, 0, rfl, rfl, .inl rfl, hb1⟩
  · obtain ⟨h1, h2⟩ := askP_true.1 hq
    obtain ⟨a, b, rfl, hbb, ⟨a1, a2⟩, b1, b2⟩ := bdB_nat h1
    have hn4 := (goodPc_at h2).2.1
    have HN := Lib.hid hn
    have HS := Lib.hid hs
    have HG := Lib.hid h2
    clear hq hn hs h1 h2 hbb
    go_enter Try.func43, Try.ntmps43
    go_wp2_with fail
    refine HA.out.mono ?_
    rintro e w1 ⟨rfl, hb1⟩
    have HB1 := Lib.hid hb1
    have hz1 := hb1.size
    clear hb1
    go_wp2_with fail
    have hcall := bdValues_any a 24 C0 np cp0 ps lo hi tu w1 a1 a2 (by omega) (by omega) HN.out (by rw [← HN.out]; exact hn4) (Lib.hid (goodPc_vals HG.out)) (Lib.hid (HS.out.below HB1.out hB)) (by omega)
    rw [show ((24 : Nat) : Int) = 24 from rfl] at hcall
    refine hcall.mono ?_
    clear hcall
    rintro e w2 ⟨F, rfl, ht, hb⟩
    obtain ⟨hl, cs, g, t1, t2, t3, t4⟩ := ht
    obtain ⟨r1, r2, rs, r3, r4, r5⟩ := t3 a a1 (Nat.le_refl _)
    have c0 := (cell_of t1 a).trans r1
    have HB2 := Lib.hid (HB1.out.trans (hb.mono hz1))
    have HSEG := Lib.hid (show Seg w2 0 w2.heap.size (some ⟨g a, 1, none⟩) (tabV ps tu a) from .inr ⟨g a, 1, rfl, Nat.zero_le _, heap_lt r3, fun k hk => by
      rw [tabV_length] at hk
      rw [List.getD_eq_getElem?_getD, tabV_at hk, Option.getD_some, cell_of r3 (1 + k), Nat.add_comm 1 k]
      exact r5 (k + 1) (by omega) (by omega) (.inr (by omega))⟩)
    clear t1 t2 t3 t4 r1 r2 r3 r4 r5 hb hl
    have h25 : (24 : Nat) + 1 = 25 := rfl
    go_wp2_with fail
    refine (l1Own_any _ 24 24 (tabV ps tu a) 0 w2.heap.size w2 (tabV_length _ _ _) (by omega) HSEG.out (Nat.le_refl _)).mono ?_
    rintro e w3 ⟨A', c', rfl, hown, hb3⟩
    have ho := (ownsRow_own (ys := tabV ps tu a) (by rw [tabV_length]; exact hown)).2
    have hz2 := HB2.out.size
    go_wp2
    go_ret2
    exact ⟨A', 24, c', rfl, tabV_length _ _ _, ho.more (by omega) (Nat.le_refl _), HB2.out.trans (hb3.mono hz2)⟩

set_option maxRecDepth 100000 in
set_option maxHeartbeats 1000000 in
theorem impl_ValueTable (x : Int) (C0 : Option Addr) (np cp0 : Nat) (ps : List (Int × Int × Int)) (lo hi : Nat) (tu : Bool) (w : World) (hn : ps.length = np) (hlen : np ≤ 1048576) (hs : Seg w lo hi C0 (flat3 ps)) (hB : hi ≤ w.heap.size) (q : Bool) (hq : askP x 1 ps = q) :
    Calls Try.prog 44 #[.int .i64 x, .slice C0 np cp0, .bool tu] w (RetL q (someN q (tabL ps tu x)) w) := by
  have hq2 : askP x 24 ps = q := by rw [askP, bdB_24]; exact hq
  have HA := Lib.hid (sheetOf_any x 24 C0 np cp0 ps lo hi tu w hn hlen hs hB q hq2)
  cases q
  · clear hn hs hq hq2
    go_enter Try.func44, Try.ntmps44
    go_wp2_with fail
    refine HA.out.mono ?_
    rintro e w1 ⟨hb1, u, rfl, _, hu⟩
    obtain rfl := hu rfl
    have HB1 := Lib.hid hb1
    clear hb1
    go_wp2
    go_ret2
    exact ⟨none, 0, 0, rfl, rfl, .inl rfl, HB1.out.alloc HB1.out.size _⟩
  · obtain ⟨h1, h2⟩ := askP_true.1 hq
    obtain ⟨a, b, rfl, hbb, ⟨a1, a2⟩, b1, b2⟩ := bdB_nat h1
    have HG := Lib.hid h2
    have hmk : ∀ W : World, (Instr.makeSlice 29 (.int .i64 24) (.int .i64 24)).run Try.prog W = .ok (.slice (some ⟨W.heap.size, 0, none⟩) 24 24) (W.alloc (.cells (madeCells #[.int .i64 0] 24) 3)) := fun W => run_make_row' 29 3 (.int .i64 0) 8 Try.underlying29 int_info rfl .i64 .i64 24 (by omega) (by omega) W
    clear hq hq2 hn hs h1 h2 hbb
    go_enter Try.func44, Try.ntmps44
    go_wp2_with fail
    refine HA.out.mono ?_
    rintro e w1 ⟨hb1, u, rfl, hu, _⟩
    obtain ⟨X, rfl, hW⟩ := hu rfl
    have HB1 := Lib.hid hb1
    have HW := Lib.hid hW
    have hz1 := hb1.size
    clear hb1 hW hu
    go_wp2
    clear hmk
    obtain ⟨W2, hW2⟩ : ∃ W2, (w1.alloc (.cells #[.int .i64 (a : Int), .int .i64 24, .slice C0 np cp0, .bool tu, (.func (.func 102) #[] #[.pointer (some ⟨X, 0, none⟩)])] 77)).alloc (.cells (madeCells #[.int .i64 0] 24) 3) = W2 := ⟨_, rfl⟩
    have hk0 : W2.heap[w1.heap.size]? = some (.cells #[.int .i64 (a : Int), .int .i64 24, .slice C0 np cp0, .bool tu, (.func (.func 102) #[] #[.pointer (some ⟨X, 0, none⟩)])] 77 (0, 0)) := by rw [← hW2]; exact (alloc_old _ (by simp) _).trans (new_at _ _ rfl)
    have hp0 : Part W2 (w1.heap.size + 1) 3 24 0 (tabV ps tu a) := by rw [← hW2]; have h := part_new (w1.alloc (.cells #[.int .i64 (a : Int), .int .i64 24, .slice C0 np cp0, .bool tu, (.func (.func 102) #[] #[.pointer (some ⟨X, 0, none⟩)])] 77)) 3 24 (.int .i64 0) (tabV ps tu a); simpa using h
    have hb2 : Below w1.heap.size w1 W2 := by rw [← hW2]; exact ((Below.refl _ _).alloc (Nat.le_refl _) _).alloc (by simp) _
    have HK0 := Lib.hid hk0
    have HP0 := Lib.hid hp0
    have HB2 := Lib.hid hb2
    rw [hW2]
    clear hW2 hk0 hp0 hb2
    go_loopw [11, 24] (fun _ i wr => ∃ k : Nat, k ≤ 24 ∧ i = .int .i64 k ∧ Below w1.heap.size w1 wr ∧ wr.heap[w1.heap.size]? = some (.cells #[.int .i64 (a : Int), .int .i64 24, .slice C0 np cp0, .bool tu, (.func (.func 102) #[] #[.pointer (some ⟨X, 0, none⟩)])] 77 (0, 0)) ∧ Part wr (w1.heap.size + 1) 3 24 k (tabV ps tu a)) (fun _ i _ => 24 - (intOf i).toNat)
    case atStart => exact ⟨0, Nat.zero_le _, rfl, HB2.out, HK0.out, HP0.out⟩
    case round =>
      obtain ⟨k, hk, rfl, hb, hkc, hp⟩ := hrel
      have HB := Lib.hid hb
      have HKC := Lib.hid hkc
      have HP := Lib.hid hp
      by_cases hlt : k < 24
      · have c3 := cell_of hkc 3
        have c4 := cell_of hkc 4
        have hlp := hp.lt
        have hbd := valB_bd4 (goodPc_vals HG.out) tu a (k + 1) a1 a2 (by omega) (by omega)
        obtain ⟨v, hv⟩ : ∃ v, valB ps tu a (k + 1) = v := ⟨_, rfl⟩
        have HV := Lib.hid hv
        have hbo := built_board
        clear hb hkc hp hv
        go_wp2_with fail
        clear hbo
        have hnew : (wr.alloc (.cells #[.int .i64 (a : Int), .int .i64 ((k : Int) + 1)] 58)).heap[wr.heap.size]? = some (.cells #[.int .i64 (a : Int), .int .i64 ((k + 1 : Nat) : Int)] 58 (0, 0)) := new_at wr _ rfl
        refine (worth_any w1.heap.size X wr.heap.size 1 1 (valB ps tu) _ [(a, k + 1)] _ (HW.out.below (HB.out.alloc HB.out.size _) (Nat.le_refl _)) (by have := HB.out.size; simp; omega) rfl (by omega) (heap_lt hnew) (one_cell hnew) (fun p hp => ?_) (fun p hp => ?_) v (by rw [sumB_one]; exact HV.out)).mono ?_
        · simp at hp; subst hp; exact ⟨a1, by simp, Nat.le_refl _, by show k + 1 ≤ ((24 : Int)).toNat; omega⟩
        · simp at hp; subst hp; simp only []; omega
        rintro e w4 ⟨rfl, hb4⟩
        have hp4 := (HP.out.keep ((hb4.block (w1.heap.size + 1) (by simp; omega)).trans (alloc_old wr hlp _)))
        obtain ⟨v0, hv0⟩ := hp4.cell k hlt
        have hfz := hp4.frozen k
        have HP4 := Lib.hid hp4
        have HK4 := Lib.hid ((hb4.block w1.heap.size (by simp; omega)).trans ((alloc_old wr (by omega) _).trans HKC.out))
        have HB4 := Lib.hid ((HB.out.alloc HB.out.size _).trans (hb4.mono (by have := HB.out.size; simp; omega)))
        clear hb4 hp4 hnew c3 c4
        go_wp2
        go_roundw
        case rel => exact ⟨k + 1, by omega, by go_num, HB4.out.setCell (p := ⟨w1.heap.size + 1, k, none⟩) (by show w1.heap.size ≤ w1.heap.size + 1; omega) _, (set_far _ (by show w1.heap.size ≠ w1.heap.size + 1; omega) _).trans HK4.out, HP4.out.step hlt (by rw [tabV_at hlt, HV.out])⟩
        case measure => simp [intOf]; omega
      · obtain rfl : k = 24 := by omega
        have hp' : Part wr (w1.heap.size + 1) 3 (tabV ps tu a).length (tabV ps tu a).length (tabV ps tu a) := by rw [tabV_length]; exact hp
        have hlp := hp.lt
        have HO := Lib.hid (hp'.own (lo := w.heap.size) (hi := wr.heap.size) (by omega) hlp)
        clear hb hkc hp hp'
        go_wp2
        go_ret2
        exact ⟨_, 24, 24, rfl, tabV_length _ _ _, HO.out, HB1.out.trans (HB.out.mono hz1)⟩
end Go.Proofs.Ytbaofgbkcolmmaa

/-
  The given program's list of all choices of items, and of all best ones.
  Conditions: at most ten items, and room that is not less than nothing.
-/
import Derived.Test.YtmgloknghoeheaaSuL
import Derived.Test.YtmgloknghoeheaaSuB
namespace Go.Proofs.Ytmgloknghoeheaa
set_option linter.unusedVariables false
open Go.RowKit

/-- Lists of numbers are answered, in new memory. -/
def RetRs (xss : List (List Int)) (w : World) (e : Ending) (w' : World) : Prop :=
  ∃ A n c vs, e = .returned (.slice A n c) ∧ xss.length = n ∧ Rws w' w.heap.size (.slice A n c) xss vs ∧ Below w.heap.size w w'
/-- Lists of numbers and a number are answered. -/
def RetRsI (xss : List (List Int)) (v : Int) (w : World) (e : Ending) (w' : World) : Prop :=
  ∃ A n c vs, e = .returned (.tuple #[.slice A n c, .int .i64 v]) ∧ xss.length = n ∧ Rws w' w.heap.size (.slice A n c) xss vs ∧ Below w.heap.size w w'

set_option maxRecDepth 100000 in
set_option maxHeartbeats 1000000 in
theorem suAll_any (A : Option Addr) (n c : Nat) (W B : Int) (ts : List (Int × Int × Int)) (lo hi : Nat) (w : World) (hn : ts.length = n) (hg : OkI ts) (hs : Seg w lo hi A (flat3 ts)) (hB : hi ≤ w.heap.size) :
    Calls Try.prog 58 #[.slice A n c, .agg #[.int .i64 W, .int .i64 B]] w (RetRs (allC ts W B) w) := by
  have HN := Lib.hid hn
  have HG := Lib.hid hg
  have hb1 := (Below.refl w.heap.size w).alloc (Nat.le_refl _) (.cells #[.int .i64 W, .int .i64 B] 34)
  have hb2 := hb1.alloc (by simp) (.cells #[.slice none 0 0] 66)
  obtain ⟨w2, hw2⟩ : ∃ w2, (w.alloc (.cells #[.int .i64 W, .int .i64 B] 34)).alloc (.cells #[.slice none 0 0] 66) = w2 := ⟨_, rfl⟩
  have hz2 : w2.heap.size = w.heap.size + 2 := by rw [← hw2]; simp
  have HP2 := Lib.hid (show w2.heap[w.heap.size + 1]? = some (.cells #[.slice none 0 0] 66 (0, 0)) by rw [← hw2]; exact new_at _ _ (by simp))
  rw [hw2] at hb2
  have HW2 := Lib.hid hw2
  have HB2 := Lib.hid hb2
  have HS2 := Lib.hid (hs.below hb2 hB)
  have hlen : (kidsC ts W B n []).length + 1 ≤ 1024 := kidsC_few (by rw [← hn]; exact hg.len) []
  have HALL := Lib.hid (show [] ++ [] :: kidsC ts W B n [] = allC ts W B by rw [allC, hn]; rfl)
  clear hn hg hb1 hb2 hw2 hs
  go_enter Try.func58, Try.ntmps58
  go_wp2_with fail
  rw [HW2.out]
  refine (suLook_any (w.heap.size + 1) w.heap.size A n c W B ts lo hi HN.out HG.out hB (by omega) n 0 _ [] 0 0 none [] (.slice none 0 0) [] w2 rfl (by omega) (BegI.nil_ ts) rfl (BegAt.nil_ _ _ _ _ _) (Rws.nil_ _ _) HP2.out (by simp [Value.ownBlock]) (by simp; omega) HS2.out (by omega)).mono ?_
  rw [HALL.out]
  rintro e w3 ⟨rfl, v, vs, hr, hp, hlk, hlo⟩
  have hpc := cell_of hp 0
  have HB3 := Lib.hid (HB2.out.trans (hlk.toBelow (b0 := w.heap.size) (by omega) (by omega) (fun g e => by simp [Value.ownBlock] at e)))
  obtain ⟨A3, c3, rfl⟩ := hr.form
  have HR := Lib.hid hr
  clear hr hp hlk hlo
  go_wp2
  go_ret
  exact ⟨A3, _, c3, vs, rfl, rfl, HR.out, HB3.out⟩

/-- Lists that lay there before the row of them grew. -/
theorem rows_late {w1 w' : World} {base : Nat} {v : Value} {xss : List (List Int)} {us : List Value} (h : Rows1 w1 base none xss us) (hb : Below w1.heap.size w1 w') (hbase : base ≤ w1.heap.size)
    (hown : w'.ownsRow w1.heap.size 31 1 v xss.length us) : Rws w' base v xss us := by
  refine ⟨own_mono hown hbase, h.1, fun j xs hj => ?_⟩
  obtain ⟨B, c, e, ho, _⟩ := h.2 j xs hj
  refine ⟨B, c, e, (ho.below hb (Nat.le_refl _)).more (Nat.le_refl _) hb.size, fun hx g hB e' => ?_⟩
  have := (ho.lt_ hx hB).2
  have := (hown.lt g e').1
  omega
theorem rows_none {w : World} {base n c : Nat} {A : Option Addr} {xs : List Int} (h : Own w base w.heap.size A xs) (hn : xs.length = n) : Rows1 w base none [xs] [.slice A n c] := by
  refine ⟨rfl, fun j ys hj => ?_⟩
  have hj0 : j = 0 := by
    have := (List.getElem?_eq_some_iff.1 hj).1
    simp at this
    exact this
  subst hj0
  obtain rfl : xs = ys := by simpa using hj
  exact ⟨A, c, by rw [hn]; rfl, h, fun _ _ _ e => by cases e⟩
theorem rows_nil (w : World) (base : Nat) (ob : Option Nat) : Rows1 w base ob [] [] := ⟨rfl, fun j xs hj => by simp at hj⟩

set_option maxRecDepth 100000 in
set_option maxHeartbeats 4000000 in
theorem suBest_any (A : Option Addr) (n c : Nat) (W B : Int) (ts : List (Int × Int × Int)) (lo hi : Nat) (w : World) (hn : ts.length = n) (hg : OkI ts) (hW : 0 ≤ W) (hBB : 0 ≤ B) (hs : Seg w lo hi A (flat3 ts)) (hB : hi ≤ w.heap.size) :
    Calls Try.prog 56 #[.slice A n c, .agg #[.int .i64 W, .int .i64 B]] w (RetRsI (bestL (valI ts) (allC ts W B)).1 (bestL (valI ts) (allC ts W B)).2 w) := by
  obtain ⟨j0, hj0, hy0, hy1, hy2⟩ := info_parts rowsT_info
  have HN := Lib.hid hn
  have HG := Lib.hid hg
  have hb1 := (Below.refl w.heap.size w).alloc (Nat.le_refl _) (.cells #[.int .i64 W, .int .i64 B] 34)
  have HS1 := Lib.hid (hs.below hb1 hB)
  have HB1 := Lib.hid hb1
  have HMEM := Lib.hid (show ∀ xs ∈ allC ts W B, incI ts.length xs = true from fun xs hx => (allC_mem hW hBB hx).1)
  have HFEW := Lib.hid (allC_few hg W B)
  obtain ⟨LL, hLL⟩ : ∃ LL, allC ts W B = LL := ⟨_, rfl⟩
  have HLL := Lib.hid hLL
  rw [hLL] at HMEM HFEW ⊢
  clear hn hg hb1 hs hLL
  go_enter Try.func56, Try.ntmps56
  go_wp2_with fail
  refine (suAll_any A n c W B ts lo hi _ HN.out HG.out HS1.out (by simp; omega)).mono ?_
  rw [HLL.out]
  rintro e w1 ⟨A1, n1, c1, vs1, rfl, hl1, hr1, hb1⟩
  have HB2 := Lib.hid (HB1.out.trans (hb1.mono (by simp)))
  have HS2 := Lib.hid (HS1.out.below hb1 (by simp; omega))
  have hzz : w.heap.size < w1.heap.size := by have := hb1.size; simp at this; omega
  have HL1 := Lib.hid hl1
  have hn1b : n1 ≤ 1024 := by rw [← hl1]; exact HFEW.out
  have HR1 := Lib.hid (show Rws w1 w.heap.size (.slice A1 n1 c1) LL vs1 from ⟨own_mono hr1.1 (by simp), hr1.2.1, fun j xs hj => by
    obtain ⟨B', c', e1, ho, h3⟩ := hr1.2.2 j xs hj
    exact ⟨B', c', e1, ho.more (by simp) (Nat.le_refl _), h3⟩⟩)
  clear hb1 hl1 hr1
  go_wp2
  go_loopw [6, 7, 9, 10, 11, 12, 17, 21] (fun v m _ _ _ _ i _ wr => ∃ k : Nat, k ≤ n1 ∧ i = .int .i64 k ∧ m = .int .i64 (bestL (valI ts) (LL.take k)).2 ∧ Below w1.heap.size w1 wr ∧ ∃ us, wr.ownsRow w1.heap.size 31 1 v (bestL (valI ts) (LL.take k)).1.length us ∧ Rows1 w1 w.heap.size none (bestL (valI ts) (LL.take k)).1 us) (fun _ _ _ _ _ _ i _ _ => n1 - (intOf i).toNat)
  case atStart => exact ⟨0, Nat.zero_le _, rfl, rfl, Below.refl _ _, [], World.ownsRow_nil _ _ _ _, rows_nil _ _ _⟩
  case round =>
    obtain ⟨k, hk, rfl, rfl, hb, us, hown, hrow⟩ := hrel
    have hsz := hb.size
    have HB := Lib.hid hb
    obtain ⟨Bv, dv, rfl⟩ := ownsRow_form hown
    obtain ⟨no, hno⟩ : ∃ no, (bestL (valI ts) (LL.take k)).1.length = no := ⟨_, rfl⟩
    rw [hno] at hown ⊢
    have HOW := Lib.hid hown
    have HRO := Lib.hid hrow
    clear hown hrow
    by_cases hlt : k < n1
    · obtain ⟨xs, hx⟩ : ∃ xs, LL[k]? = some xs := ⟨_, List.getElem?_eq_getElem (by rw [HL1.out]; exact hlt)⟩
      obtain ⟨g, Bx, dx, rfl, hg1, hg2, hgc, hgo⟩ := HR1.out.at_ hx
      have hgc' := (hb.cell (by exact hg2)).trans hgc
      have HINC := Lib.hid (HMEM.out xs (List.mem_of_getElem? hx))
      have HNX := Lib.hid (bestL_next (valI ts) hx)
      have HGO := Lib.hid hgo
      have hsum := valI_bd HG.out HINC.out
      obtain ⟨val, hval⟩ : ∃ val, valI ts xs = val := ⟨_, rfl⟩
      have HVAL := Lib.hid (show sumF (vI ts) xs = val from hval)
      obtain ⟨nx, hnx⟩ : ∃ nx, xs.length = nx := ⟨_, rfl⟩
      rw [hnx] at hgc'
      have HNXL := Lib.hid hnx
      have HBL := Lib.hid (show (bestL (valI ts) (LL.take k)).1.length ≤ 1024 from Nat.le_trans (bestL_len _ _) (by rw [List.length_take]; have := HFEW.out; omega))
      obtain ⟨ol, hol⟩ : ∃ ol, bestL (valI ts) (LL.take k) = ol := ⟨_, rfl⟩
      rw [hol] at HNX HRO HBL hno ⊢
      obtain ⟨out, most⟩ := ol
      have hno : out.length = no := hno
      have HOW' := HOW
      have HNO := Lib.hid hno
      have hno4 : no ≤ 1024 := by rw [← hno]; exact HBL.out
      have HTOT := Lib.hid (suTotals_any A Bx n c nx dx ts xs lo hi 0 wr.heap.size wr HN.out HG.out HNXL.out HINC.out ((HS2.out.below hb (by have := HB2.out.size; omega))) ((hgo.below hb (Nat.le_refl _)).seg.more (Nat.zero_le _) hsz))
      rw [HVAL.out] at HTOT
      have HONE := Lib.hid (rws_one (w := wr) (base := w.heap.size) (c := dx) (by omega) HNXL.out ((hgo.below hb (Nat.le_refl _)).more (Nat.le_refl _) hsz))
      have hbone := (Below.refl wr.heap.size wr).alloc (Nat.le_refl _) (.cells #[.slice Bx nx dx] 31)
      have HBONE := Lib.hid hbone
      have hv2000 : val ≤ 2000 := by rw [← hval]; exact hsum.2
      have hHB : Hid ((LL.take k).length ≤ n1) := Lib.hid (by rw [List.length_take]; omega)
      rw [hval] at hsum
      have HSTEP := Lib.hid (show stepL (valI ts) (out, most) xs = if most < val then ([xs], val) else if val = most then (out ++ [xs], most) else (out, most) by unfold stepL; rw [hval])
      clear hx hgc hgo hval hnx hol hno hbone
      by_cases h1 : most < val
      · have HST := Lib.hid (show bestL (valI ts) (LL.take (k + 1)) = ([xs], val) by rw [HNX.out, HSTEP.out, if_pos h1])
        go_wp2_with fail
        refine HTOT.out.mono ?_
        rintro e w' ⟨rfl, rfl⟩
        go_wp2_with (at_builtin; refine wpList_append_rows _ rfl _ _ 66 rfl w1.heap.size 31 j0 Try.underlying66 hj0 hy0 hy1 hy2 _ 0 [] rfl (World.ownsRow_nil _ _ _ _) _ _ 1 [.slice Bx nx dx] rfl HONE.out.1 HONE.out.2.one (by omega) (by simp; omega) ?_; intro v3 w3 hown3 hgr3 hloc3; have HO3 := Lib.hid hown3; have HB3 := Lib.hid (show Below w1.heap.size w1 w3 from (HB.out.trans (HBONE.out.mono hsz)).grown hgr3 (by simp; omega) (fun g' hg' => by have h9 : (Value.slice none 0 0).ownBlock = some g' := hg'; cases h9)); clear hown3 hgr3 hloc3)
        go_roundw
        case rel => exact ⟨k + 1, by omega, by go_num, by rw [HST.out], HB3.out, _, by rw [HST.out]; exact HO3.out, by rw [HST.out]; exact rows_none HGO.out HNXL.out⟩
        case measure => simp [intOf]; omega
      · by_cases h2 : val = most
        · have HST := Lib.hid (show bestL (valI ts) (LL.take (k + 1)) = (out ++ [xs], most) by rw [HNX.out, HSTEP.out, if_neg h1, if_pos h2])
          have hq1 : decide (most < val) = false := decide_eq_false h1
          have hq2 : (val == most) = true := by rw [beq_iff_eq]; exact h2
          have HEQ := Lib.hid h2
          clear h2
          go_wp2_with fail
          refine HTOT.out.mono ?_
          rintro e w' ⟨rfl, rfl⟩
          go_wp2_with (at_builtin; refine wpList_append_rows _ rfl _ _ 66 rfl w1.heap.size 31 j0 Try.underlying66 hj0 hy0 hy1 hy2 _ no us rfl (row_below HOW'.out HBONE.out) _ _ 1 [.slice Bx nx dx] rfl HONE.out.1 HONE.out.2.one (by omega) (by simp; omega) ?_; intro v3 w3 hown3 hgr3 hloc3; have HO3 := Lib.hid hown3; have HB3 := Lib.hid (show Below w1.heap.size w1 w3 from (HB.out.trans (HBONE.out.mono hsz)).grown hgr3 (by simp; omega) (fun g' hg' => (HOW'.out.lt g' hg').1)); clear hown3 hgr3 hloc3)
          go_roundw
          case rel => exact ⟨k + 1, by omega, by go_num, by rw [HST.out], HB3.out, _, by rw [HST.out, List.length_append, HNO.out]; exact HO3.out, by rw [HST.out]; exact HRO.out.app (rows_none HGO.out HNXL.out)⟩
          case measure => simp [intOf]; omega
        · have HST := Lib.hid (show bestL (valI ts) (LL.take (k + 1)) = (out, most) by rw [HNX.out, HSTEP.out, if_neg h1, if_neg h2])
          have hq1 : decide (most < val) = false := decide_eq_false h1
          have hq2 : (val == most) = false := by rw [beq_eq_false_iff_ne]; exact h2
          clear h2
          go_wp2_with fail
          refine HTOT.out.mono ?_
          rintro e w' ⟨rfl, rfl⟩
          go_wp2
          go_roundw
          case rel => exact ⟨k + 1, by omega, by go_num, by rw [HST.out], HB.out, us, by rw [HST.out, HNO.out]; exact HOW'.out, by rw [HST.out]; exact HRO.out⟩
          case measure => simp [intOf]; omega
    · obtain rfl : k = n1 := by omega
      have HE := Lib.hid (show LL.take k = LL by rw [← HL1.out, List.take_length])
      rw [HE.out] at HRO hno ⊢
      obtain ⟨ol, hol⟩ : ∃ ol, bestL (valI ts) LL = ol := ⟨_, rfl⟩
      rw [hol] at HRO hno ⊢
      obtain ⟨out, most⟩ := ol
      have hno : out.length = no := hno
      subst hno
      have HOL := Lib.hid hol
      have HFIN := Lib.hid (rows_late HRO.out hb (by omega) HOW.out)
      have HBF := Lib.hid (HB2.out.trans (hb.mono (by omega)))
      clear hb hol
      go_wp2
      go_ret2
      exact ⟨Bv, out.length, dv, us, by rw [HOL.out]; rfl, by rw [HOL.out], by rw [HOL.out]; exact HFIN.out, HBF.out⟩
end Go.Proofs.Ytmgloknghoeheaa

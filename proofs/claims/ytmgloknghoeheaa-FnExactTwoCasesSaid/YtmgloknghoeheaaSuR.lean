/-
  The written program's luggage without some items.
  Conditions: at most ten items; lists of at most 1048576 numbers.
-/
import Derived.Test.YtmgloknghoeheaaSuT
import Derived.Test.YtmgloknghoeheaaAppendFlat3
import Derived.Test.YtmgloknghoeheaaIdx
namespace Go.Proofs.Ytmgloknghoeheaa
set_option linter.unusedVariables false
open Go.RowKit

/-- A luggage is answered, its items in new memory. -/
def RetLug (W B : Int) (ts : List (Int × Int × Int)) (w : World) (e : Ending) (w' : World) : Prop :=
  ∃ A n c, e = .returned (.agg #[.slice A n c, .int .i64 W, .int .i64 B]) ∧ ts.length = n ∧ Own w' w.heap.size w'.heap.size A (flat3 ts) ∧ Below w.heap.size w w'

set_option maxRecDepth 100000 in
set_option maxHeartbeats 2000000 in
theorem without_lug (A A2 : Option Addr) (n c m c2 : Nat) (W B : Int) (ts : List (Int × Int × Int)) (ks : List Int) (lo hi lo2 hi2 : Nat) (w : World) (hn : ts.length = n) (hg : OkI ts) (hm : ks.length = m) (hlen2 : m ≤ 1048576)
    (hs : Seg w lo hi A (flat3 ts)) (hB : hi ≤ w.heap.size) (hs2 : Seg w lo2 hi2 A2 ks) (hB2 : hi2 ≤ w.heap.size) :
    Calls Try.prog 74 #[.agg #[.slice A n c, .int .i64 W, .int .i64 B], .slice A2 m c2] w (RetLug W B (restI ts ks) w) := by
  obtain ⟨i0, hi0, hz0, hz1, hz2⟩ := info_parts item_info
  have HN := Lib.hid hn
  have HM := Lib.hid hm
  have hn10 : n ≤ 10 := by rw [← hn]; exact hg.len
  obtain ⟨w2, hw2⟩ : ∃ w2, (w.alloc (.cells #[.slice A n c, .int .i64 W, .int .i64 B] 62)).alloc (.cells #[.slice none 0 0, .int .i64 0, .int .i64 0] 62) = w2 := ⟨_, rfl⟩
  have hb2 : Below w.heap.size w w2 := by rw [← hw2]; exact ((Below.refl w.heap.size w).alloc (Nat.le_refl _) _).alloc (by simp) _
  have hz2' : w2.heap.size = w.heap.size + 2 := by rw [← hw2]; simp
  have HL2 := Lib.hid (show w2.heap[w.heap.size]? = some (.cells #[.slice A n c, .int .i64 W, .int .i64 B] 62 (0, 0)) by rw [← hw2, alloc_old _ (by simp)]; exact new_at w _ rfl)
  have HR2 := Lib.hid (show w2.heap[w.heap.size + 1]? = some (.cells #[.slice none 0 0, .int .i64 0, .int .i64 0] 62 (0, 0)) by rw [← hw2]; exact new_at _ _ (by simp))
  have HW2 := Lib.hid hw2
  have HB2 := Lib.hid hb2
  have HS2 := Lib.hid (hs.below hb2 hB)
  have HK2 := Lib.hid (hs2.below hb2 hB2)
  have HE := Lib.hid (show restK ts ks n = restI ts ks by rw [restI, hn])
  clear hn hg hm hb2 hw2 hs hs2
  go_enter Try.func74, Try.ntmps74
  go_wp2
  rw [HW2.out]
  go_loopw [5, 6, 7, 11] (fun v _ _ i wr => ∃ j : Nat, j ≤ n ∧ i = .int .i64 j ∧ Below w2.heap.size w2 wr ∧ wr.ownsRow w2.heap.size 54 3 v (restK ts ks j).length (vals3 (restK ts ks j))) (fun _ _ _ i _ => n - (intOf i).toNat)
  case atStart => exact ⟨0, Nat.zero_le _, rfl, Below.refl _ _, World.ownsRow_nil _ _ _ _⟩
  case round =>
    obtain ⟨j, hj, rfl, hb, hown⟩ := hrel
    have hsz := hb.size
    have HB := Lib.hid hb
    obtain ⟨Bv, dv, rfl, _, hdv, _⟩ := seg_of_row3 hown
    obtain ⟨nv, hnv⟩ : ∃ nv, (restK ts ks j).length = nv := ⟨_, rfl⟩
    rw [hnv] at hown ⊢
    have hnv10 : nv ≤ 10 := by rw [← hnv]; exact Nat.le_trans (restK_len ts ks j) (by omega)
    have HNV := Lib.hid hnv
    have HOW := Lib.hid hown
    clear hnv hown hdv
    by_cases hlt : j < n
    · obtain ⟨b, off, x, y, z, rfl, _, _, hx, hc0, hc1, hc2⟩ := (HS2.out.below hb (by omega)).tri (k := j) (by rw [HN.out]; exact hlt)
      have HX := Lib.hid hx
      have HBI := Lib.hid ((Below.refl wr.heap.size wr).alloc (Nat.le_refl _) (.cells #[.int .i64 x, .int .i64 y, .int .i64 z] 54))
      have hit := new_at wr (.cells #[.int .i64 x, .int .i64 y, .int .i64 z] 54) rfl
      have HKK := Lib.hid ((HK2.out.below hb (by omega)).below HBI.out (by omega))
      clear hx
      cases hin : decide ((j : Int) ∈ ks)
      · have HNX := Lib.hid (restK_no (of_decide_eq_false hin) HX.out)
        have HIN := Lib.hid hin
        have HOW1 := Lib.hid (HOW.out.alloc (.cells #[.int .i64 x, .int .i64 y, .int .i64 z] 54))
        have HOW2 := Lib.hid (HOW1.out.alloc (.cells #[.int .i64 x, .int .i64 y, .int .i64 z] 54))
        have HSB := Lib.hid (seg_box (wr.alloc (.cells #[.int .i64 x, .int .i64 y, .int .i64 z] 54)) x y z 54)
        have HLT := Lib.hid HOW.out.lt
        clear hin
        go_wp2_with fail
        refine (slicesContains_any A2 m c2 ks (j : Int) _ _ _ HM.out hlen2 HKK.out).mono ?_
        rw [HIN.out]
        rintro e w' ⟨rfl, rfl⟩
        go_wp2_with (at_builtin; refine wpList_append_flat3 _ rfl _ _ 25 rfl w2.heap.size 54 i0 Try.underlying25 hi0 hz0 hz1 hz2 _ nv _ rfl HOW2.out _ 1 1 [(x, y, z)] _ _ rfl rfl (by simpa using HSB.out) (by omega) (by simp; omega) ?_; intro v3 w3 hown3 hgr3; obtain ⟨A3, c3, rfl, _, _, _⟩ := seg_of_row3 (bs := restK ts ks j ++ [(x, y, z)]) (by rw [vals3_append]; exact hown3); have HO3 := Lib.hid hown3; have HB3 := Lib.hid (show Below w2.heap.size w2 w3 from ((HB.out.alloc hsz _).alloc (by simp; omega) _).grown hgr3 (by simp; omega) (fun g' hg' => (HLT.out g' hg').1)); clear hown3 hgr3)
        go_roundw
        case rel => exact ⟨j + 1, by omega, by go_num, HB3.out, by rw [HNX.out, List.length_append, HNV.out, vals3_append]; exact HO3.out⟩
        case measure => simp [intOf]; omega
      · have HNX := Lib.hid (restK_yes (ts := ts) (of_decide_eq_true hin))
        have HIN := Lib.hid hin
        have HOW1 := Lib.hid (HOW.out.alloc (.cells #[.int .i64 x, .int .i64 y, .int .i64 z] 54))
        clear hin
        go_wp2_with fail
        refine (slicesContains_any A2 m c2 ks (j : Int) _ _ _ HM.out hlen2 HKK.out).mono ?_
        rw [HIN.out]
        rintro e w' ⟨rfl, rfl⟩
        go_wp2
        go_roundw
        case rel => exact ⟨j + 1, by omega, by go_num, HB.out.alloc hsz _, by rw [HNX.out, HNV.out]; exact HOW1.out⟩
        case measure => simp [intOf]; omega
    · obtain rfl : j = n := by omega
      have hl := (hb.block w.heap.size (by omega)).trans HL2.out
      have hr := (hb.block (w.heap.size + 1) (by omega)).trans HR2.out
      have HRR := Lib.hid hr
      have l1 := cell_of hl 1
      have l2 := cell_of hl 2
      have r0 := cell_of hr 0
      have r1 := cell_of hr 1
      have r2 := cell_of hr 2
      have q0 := frozen_of hr 0
      have q1 := frozen_of hr 1
      have q2 := frozen_of hr 2
      have HBF := Lib.hid (HB2.out.trans (hb.mono (by omega)))
      obtain ⟨Bf, df, hvf, _, _, hof⟩ := seg_of_row3 HOW.out
      injection hvf with hv1 hv2 hv3
      subst hv1 hv3
      have HOF := Lib.hid hof
      clear hl hr hb hof
      go_wp2
      clear l1 l2 r0 r1 r2 q0 q1 q2
      have HF := Lib.hid (set_self (set_self (set_self HRR.out 0 (.slice Bv nv dv)) 1 (.int .i64 W)) 2 (.int .i64 B))
      have r0 := cell_of HF.out 0
      have r1 := cell_of HF.out 1
      have r2 := cell_of HF.out 2
      refine bodyPost_ret (v := .agg #[.slice Bv nv dv, .int .i64 W, .int .i64 B]) (by simp [results, Try.results74, go_sem, r0, r1, r2]) rfl ⟨Bv, nv, dv, rfl, by rw [← HE.out]; exact HNV.out, ?_, ((HBF.out.setCell (Nat.le_succ _) _).setCell (Nat.le_succ _) _).setCell (Nat.le_succ _) _⟩
      rw [← HE.out]
      have hne : ∀ b, w2.heap.size ≤ b → b ≠ w.heap.size + 1 := fun b hb => by omega
      refine (HOF.out.keep fun b hb1 _ => ?_).more (by omega) (by simp [World.setCell])
      rw [set_far _ (hne b hb1), set_far _ (hne b hb1), set_far _ (hne b hb1)]
end Go.Proofs.Ytmgloknghoeheaa

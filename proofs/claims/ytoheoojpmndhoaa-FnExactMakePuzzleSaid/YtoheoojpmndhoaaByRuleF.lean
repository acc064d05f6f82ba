/-
  The written program fills boxes by the rule of the first box that has room (for a seat that has no other rule).
  Conditions: at most nine things, each from 1 to 100 and at most the room; the room at most 1000.
-/
import Derived.Test.YtoheoojpmndhoaaNew
import Derived.Test.YtoheoojpmndhoaaFitF
namespace Go.Proofs.Ytoheoojpmndhoaa
set_option linter.unusedVariables false
open Go.RowKit

/-- A packing is handed over: its boxes and its plan lie in new blocks. -/
def PkVal (n : Nat) (room : Int) (ls pl : List Int) (w : World) (e : Ending) (w' : World) : Prop :=
  ∃ Bo Bp, e = .returned (.agg #[.int .i64 (ls.length : Int), .int .i64 0, .int .i64 room, .slice (some ⟨Bo, 0, none⟩) ls.length n, .slice (some ⟨Bp, 0, none⟩) pl.length n]) ∧ Boxes w' Bo n ls ∧ Plan w' Bp n pl ∧ Bo ≠ Bp ∧ w.heap.size ≤ Bo ∧ w.heap.size ≤ Bp ∧ Below w.heap.size w w'

theorem run_step {rule room : Int} {xs ls pl : List Int} {k : Nat} {size : Int} (h : (ls, pl) = run rule room (xs.take k) ([], [])) (hx : xs[k]? = some size) :
    (addTo ls (pick rule room size ls) size, pl ++ [(pick rule room size ls : Int)]) = run rule room (xs.take (k + 1)) ([], []) := by
  rw [take_snoc hx, run_snoc, ← h]

set_option maxHeartbeats 1000000 in
theorem packByRule_first (A : Option Addr) (n c : Nat) (xs : List Int) (room : Int) (lo hi : Nat) (w : World) (hn : xs.length = n) (hs : Seg w lo hi A xs) (hB : hi ≤ w.heap.size) (ha : askedB xs room = true) :
    Calls Try.prog 122 #[.slice A n c, .int .i64 room, .func (.func 123) #[] #[]] w (PkVal n room (run 102 room xs ([], [])).1 (run 102 room xs ([], [])).2 w) := by
  obtain ⟨h1, h9, hx, hr1, hr2⟩ := askedB_at ha
  rw [hn] at h1 h9
  have HN := Lib.hid hn
  have HX := Lib.hid hx
  clear hn hx ha
  go_enter Try.func122, Try.ntmps122
  go_wp2_with fail
  refine (newPacking_any _ _ _ _ _ h9).mono ?_
  rintro e w1 ⟨Bo, Bp, rfl, hbo, hbp, hne, hl1, hl2, hb1⟩
  have hres := new_cells hb1
  simp at hl1 hl2
  have hsz1 := hb1.size
  simp at hsz1
  have hbel1 : Below w.heap.size w w1 := ((Below.refl _ _).alloc (Nat.le_refl _) _).trans (hb1.mono (by simp))
  have hlo := hbo.lt
  have hlp := hbp.lt
  go_wp2
  go_loopw [9, 15] (fun _ i wr => ∃ k : Nat, k ≤ n ∧ i = .int .i64 k ∧ Below w.heap.size w wr ∧ ∃ s, s = run 102 room (xs.take k) ([], []) ∧
      Pk wr w1.heap.size 108 Bo Bp n room s.1 s.2 [] ∧ wr.heap[w.heap.size]? = w1.heap[w.heap.size]?) (fun _ i _ => n - (intOf i).toNat)
  case atStart =>
    exact ⟨0, Nat.zero_le _, rfl, hbel1.alloc (by omega) _, _, rfl, ⟨heap_alloc_new w1 _, hbo.keep (alloc_old _ hlo _), hbp.keep (alloc_old _ hlp _), by omega, by omega, hne, Nat.zero_le _, Nat.zero_le _, h9⟩, alloc_old _ (by omega) _⟩
  case round =>
    obtain ⟨k, hk, rfl, hb, s, hs0, hpk, hrb⟩ := hrel
    obtain ⟨ls, pl⟩ := s
    have hls : ls = (run 102 room (xs.take k) ([], [])).1 := by rw [← hs0]
    have hpl : pl = (run 102 room (xs.take k) ([], [])).2 := by rw [← hs0]
    have hld : Loads room ls := by rw [hls]; exact run_loads (fun x hx => HX.out x (List.mem_of_mem_take hx)) (fun x hx => by cases hx)
    have hll : ls.length ≤ k := by rw [hls]; refine Nat.le_trans (run_len1 _ _ _ _) ?_; simp; omega
    have hpp : pl.length = k := by rw [hpl, run_len]; simp [HN.out]; omega
    have HS := Lib.hid hs0
    have HPP := Lib.hid hpp
    have HRB := Lib.hid hrb
    clear hls hpl hs0 hpp hrb
    by_cases hlt : k < n
    · obtain ⟨b, off, u, rfl, _, hbh, hx, hc⟩ := hs.at_ (k := k) (by rw [HN.out]; exact hlt)
      have hcw : wr.cell? ⟨b, off + k, none⟩ = some (.int .i64 u) := (hb.cell (by exact Nat.lt_of_lt_of_le hbh hB)).trans hc
      have hu := HX.out u (List.mem_of_getElem? hx)
      have HU := Lib.hid hx
      clear hx hc
      go_wp2_with fail
      refine (firstFitting_any w1.heap.size 108 Bo Bp n room ls pl [] u _ hpk hld ⟨hr1, hr2⟩ ⟨hu.1, hu.2.1⟩).mono ?_
      rintro e w2 ⟨rfl, hb2⟩
      go_wp2_with fail
      refine (put_any w1.heap.size 108 Bo Bp n room ls pl [] (pick 102 room u ls) u _ (hpk.belowAll hb2) ⟨hu.1, hu.2.1⟩ hr2 hld (pick_le _ _ _ _) (by omega) (by rw [HPP.out]; exact hlt)).mono ?_
      rintro e w3 ⟨rfl, hpk3, honly⟩
      have hz2 := hb2.size
      have hz := hb.size
      have hb3 : Below w.heap.size w w3 := (hb.trans (hb2.mono hz)).trans (honly.below (by omega) (fun g hg => by rcases hg with rfl | rfl | rfl <;> omega))
      go_wp2
      go_roundw
      case rel =>
        refine ⟨k + 1, by omega, by go_num, hb3, _, run_step HS.out HU.out, hpk3, ?_⟩
        have hwl := hpk.lt.1
        rw [honly.block _ (by omega) (by rintro (h | h | h) <;> omega), hb2.block _ (by omega)]
        exact HRB.out
      case measure => simp [intOf]; omega
    · obtain rfl : k = n := by omega
      obtain ⟨f0, f1, f2, f3, f4⟩ := hpk.facts
      have hres2 := HRB.out.trans hres
      have r0 := cell_of hres2 0
      have r1 := cell_of hres2 1
      have r2 := cell_of hres2 2
      have r3 := cell_of hres2 3
      have r4 := cell_of hres2 4
      have z0 := frozen_of hres2 0
      have z1 := frozen_of hres2 1
      have z2 := frozen_of hres2 2
      have z3 := frozen_of hres2 3
      have z4 := frozen_of hres2 4
      simp at r0 r1 r2 r3 r4
      have hwz : w.heap.size < wr.heap.size := heap_lt hres2
      have hBoW : ¬ w.heap.size = Bo := by omega
      have hBpW : ¬ w.heap.size = Bp := by omega
      have HRES := Lib.hid hres2
      clear hres2
      go_wp2
      refine bodyPost_ret (v := .agg #[.int .i64 (ls.length : Int), .int .i64 0, .int .i64 room, .slice (some ⟨Bo, 0, none⟩) ls.length k, .slice (some ⟨Bp, 0, none⟩) pl.length k]) (by simp [results, Try.results122, go_sem, r0, r1, r2, r3, r4]) rfl ?_
      have e1 : ls = (run 102 room xs ([], [])).1 := by rw [← List.take_length (l := xs), HN.out, ← HS.out]
      have e2 : pl = (run 102 room xs ([], [])).2 := by rw [← List.take_length (l := xs), HN.out, ← HS.out]
      rw [← e1, ← e2]
      refine ⟨Bo, Bp, rfl, hpk.boxes.keep ?_, hpk.plan.keep ?_, hne, by omega, by omega, ?_⟩
      · iterate 5 rw [set_far _ (by exact Ne.symm hBoW)]
      · iterate 5 rw [set_far _ (by exact Ne.symm hBpW)]
      · exact ((((hb.setCell (p := ⟨w.heap.size, 0, none⟩) (Nat.le_refl _) _).setCell (p := ⟨w.heap.size, 1, none⟩) (Nat.le_refl _) _).setCell (p := ⟨w.heap.size, 2, none⟩) (Nat.le_refl _) _).setCell (p := ⟨w.heap.size, 3, none⟩) (Nat.le_refl _) _).setCell (p := ⟨w.heap.size, 4, none⟩) (Nat.le_refl _) _
end Go.Proofs.Ytoheoojpmndhoaa

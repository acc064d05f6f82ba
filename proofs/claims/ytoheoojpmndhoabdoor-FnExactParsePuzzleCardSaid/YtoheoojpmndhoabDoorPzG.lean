/-
  Both programs' tests for a puzzle.
  Conditions: none.
-/
import Derived.Test.YtoheoojpmndhoabDoorPzI
namespace Go.Proofs.YtoheoojpmndhoabDoor
set_option linter.unusedVariables false
set_option linter.unusedSimpArgs false
open Go.RowKit

/-- These are clues of so many things. -/
def cluesB (t : Int) (cs : List Clu) : Bool := cs.all fun c => clueB t c
/-- This is a puzzle. -/
def puzB (t : Int) (cs : List Clu) : Bool := inB t 2 4 && (decide (cs.length ≤ 6) && cluesB t cs)
theorem puzB_true {t : Int} {cs : List Clu} : puzB t cs = true ↔ (2 ≤ t ∧ t ≤ 4) ∧ cs.length ≤ 6 ∧ ∀ c ∈ cs, clueB t c = true := by
  simp [puzB, cluesB, inB_true, List.all_eq_true]
theorem cluesB_not {t : Int} {cs : List Clu} {k : Nat} {c : Clu} (h : cs[k]? = some c) (hu : clueB t c = false) : cluesB t cs = false := by
  unfold cluesB
  rw [List.all_eq_false]
  exact ⟨c, List.mem_of_getElem? h, by simp [hu]⟩
theorem cluesB_of {t : Int} {cs : List Clu} (h : ∀ (k : Nat) c, cs[k]? = some c → clueB t c = true) : cluesB t cs = true := by
  unfold cluesB
  rw [List.all_eq_true]
  intro c hc
  obtain ⟨k, hk⟩ := List.getElem?_of_mem hc
  exact h k c hk
def RetPG (t : Int) (cs : List Clu) (w : World) (e : Ending) (w' : World) : Prop := e = .returned (.bool (puzB t cs)) ∧ Below w.heap.size w w'

set_option maxHeartbeats 1000000 in
theorem pzGood_any (t : Int) (A : Option Addr) (n c : Nat) (cs : List Clu) (lo hi : Nat) (w : World) (hn : cs.length = n) (hlen : n ≤ 1048576) (hs : Seg w lo hi A (flat4 cs)) (hB : hi ≤ w.heap.size) :
    Calls Tryd.prog 15 #[pzV t A n c] w (RetPG t cs w) := by
  have hb0 : Below w.heap.size w (w.alloc (.cells #[.int .i64 t, .slice A n c] 30)) := (Below.refl _ _).alloc (Nat.le_refl _) _
  have hm0 : (w.alloc (.cells #[.int .i64 t, .slice A n c] 30)).heap[w.heap.size]? = some (.cells #[.int .i64 t, .slice A n c] 30 (0, 0)) := new_at _ _ rfl
  have HN := Lib.hid hn
  clear hn
  by_cases ht : inB t 2 4 = true
  case neg =>
    have ht' : inB t 2 4 = false := by simpa using ht
    have HT := Lib.hid ht'
    clear ht ht' hm0
    go_enter Tryd.func15, Tryd.ntmps15
    go_wp2_with (go_at_call 28; refine (pzThings_any _ _ HT.out _).mono ?_; rintro e w1 ⟨rfl, rfl⟩)
    go_ret
    exact ⟨by simp [puzB, HT.out], hb0⟩
  have HT := Lib.hid ht
  obtain ⟨t1, t2⟩ := inB_true.1 ht
  clear ht
  by_cases h6 : 6 < n
  · clear hm0
    go_enter Tryd.func15, Tryd.ntmps15
    go_wp2_with (go_at_call 28; refine (pzThings_any _ _ HT.out _).mono ?_; rintro e w1 ⟨rfl, rfl⟩)
    go_ret
    exact ⟨by have : ¬ cs.length ≤ 6 := (by rw [HN.out]; omega); simp [puzB, this], hb0⟩
  have hq : puzB t cs = cluesB t cs := by simp [puzB, HT.out, show cs.length ≤ 6 by rw [HN.out]; omega]
  have HQ := Lib.hid hq
  clear hq
  go_enter Tryd.func15, Tryd.ntmps15
  go_wp2_with (go_at_call 28; refine (pzThings_any _ _ HT.out _).mono ?_; rintro e w1 ⟨rfl, rfl⟩)
  go_loopw [18] (fun i wr => ∃ k : Nat, k ≤ n ∧ i = .int .i64 k ∧ Below w.heap.size w wr ∧ wr.heap[w.heap.size]? = some (.cells #[.int .i64 t, .slice A n c] 30 (0, 0)) ∧ ∀ j c, j < k → cs[j]? = some c → clueB t c = true) (fun i _ => n - (intOf i).toNat)
  case atStart => exact ⟨0, Nat.zero_le _, rfl, hb0, hm0, fun j u hj => by omega⟩
  case round =>
    obtain ⟨k, hk, rfl, hbx, hm, hall⟩ := hrel
    have HA := Lib.hid hall
    clear hall
    have z0 := cell_of hm 0
    have z1 := cell_of hm 1
    simp only [List.getElem?_toArray, List.getElem?_cons_zero, List.getElem?_cons_succ] at z0 z1
    by_cases hlt : k < n
    · obtain ⟨b, off, x, y, z, u, rfl, _, hbB, hx, hc0, hc1, hc2, hc3⟩ := (hs.below hbx hB).quad (k := k) (by rw [HN.out]; exact hlt)
      have HX := Lib.hid hx
      clear hx
      have hbr : b < wr.heap.size := by have := hbx.size; omega
      have hmr := heap_lt hm
      go_wp2_with fail
      by_cases hu : clK x t y z u = true
      · have HU := Lib.hid hu
        clear hu
        refine (pzClue_any t x y z u (by omega) _).mono ?_
        rintro e w2 ⟨he, hb2⟩
        rw [HU.out] at he
        subst he
        have hb2' : Below wr.heap.size wr w2 := ((Below.refl _ _).alloc (Nat.le_refl _) _).trans (hb2.mono (by simp))
        go_wp2
        go_roundw
        case rel =>
          refine ⟨k + 1, by omega, by go_num, hbx.trans (hb2'.mono hbx.size), (hb2'.block _ hmr).trans hm, fun j v hj hv => ?_⟩
          by_cases e : j = k
          · subst e; rw [HX.out] at hv; injection hv with hv; subst hv; exact HU.out
          · exact HA.out j v (by omega) hv
        case measure => simp [intOf]; omega
      · have hu' : clK x t y z u = false := by simpa using hu
        have HU := Lib.hid hu'
        clear hu hu'
        refine (pzClue_any t x y z u (by omega) _).mono ?_
        rintro e w2 ⟨he, hb2⟩
        rw [HU.out] at he
        subst he
        have hb2' : Below wr.heap.size wr w2 := ((Below.refl _ _).alloc (Nat.le_refl _) _).trans (hb2.mono (by simp))
        go_wp2
        go_ret
        exact ⟨by rw [HQ.out, cluesB_not HX.out HU.out]; rfl, hbx.trans (hb2'.mono hbx.size)⟩
    · obtain rfl : k = n := by omega
      go_wp2
      go_ret
      exact ⟨by rw [HQ.out, cluesB_of fun j c hj => HA.out j c (by rw [← HN.out]; exact (List.getElem?_eq_some_iff.1 hj).1) hj]; rfl, hbx⟩

set_option maxHeartbeats 1000000 in
theorem impl_IsPuzzle (t : Int) (A : Option Addr) (n c : Nat) (cs : List Clu) (lo hi : Nat) (w : World) (hn : cs.length = n) (hlen : n ≤ 1048576) (hs : Seg w lo hi A (flat4 cs)) (hB : hi ≤ w.heap.size) :
    Calls Tryd.prog 18 #[pzV t A n c] w (RetPG t cs w) := by
  have hb0 : Below w.heap.size w (w.alloc (.cells #[.int .i64 t, .slice A n c] 30)) := (Below.refl _ _).alloc (Nat.le_refl _) _
  have hm0 : (w.alloc (.cells #[.int .i64 t, .slice A n c] 30)).heap[w.heap.size]? = some (.cells #[.int .i64 t, .slice A n c] 30 (0, 0)) := new_at _ _ rfl
  have HN := Lib.hid hn
  clear hn
  by_cases ht : inB t 2 4 = true
  case neg =>
    have ht' : inB t 2 4 = false := by simpa using ht
    have HT := Lib.hid ht'
    clear ht ht' hm0
    go_enter Tryd.func18, Tryd.ntmps18
    go_wp2_with (go_at_call 32; refine (canBeHidden_any _ _ HT.out _).mono ?_; rintro e w1 ⟨rfl, hb1⟩)
    go_ret
    exact ⟨by simp [puzB, HT.out], hb0.trans (hb1.mono hb0.size)⟩
  have HT := Lib.hid ht
  obtain ⟨t1, t2⟩ := inB_true.1 ht
  clear ht
  by_cases h6 : 6 < n
  · clear hm0
    go_enter Tryd.func18, Tryd.ntmps18
    go_wp2_with (go_at_call 32; refine (canBeHidden_any _ _ HT.out _).mono ?_; rintro e w1 ⟨rfl, hb1⟩; (try have z1 : w1.cell? ⟨w.heap.size, 1, none⟩ = some (.slice A n c) := ((hb1).cell (by simp)).trans (by simp [go_sem])))
    go_ret
    exact ⟨by have : ¬ cs.length ≤ 6 := (by rw [HN.out]; omega); simp [puzB, this], hb0.trans (hb1.mono hb0.size)⟩
  have hq : puzB t cs = cluesB t cs := by simp [puzB, HT.out, show cs.length ≤ 6 by rw [HN.out]; omega]
  have HQ := Lib.hid hq
  clear hq
  go_enter Tryd.func18, Tryd.ntmps18
  go_wp2_with (go_at_call 32; refine (canBeHidden_any _ _ HT.out _).mono ?_; rintro e w1 ⟨rfl, hb1⟩; (try have z1 : w1.cell? ⟨w.heap.size, 1, none⟩ = some (.slice A n c) := ((hb1).cell (by simp)).trans (by simp [go_sem])))
  go_loopw [18] (fun i wr => ∃ k : Nat, k ≤ n ∧ i = .int .i64 k ∧ Below w.heap.size w wr ∧ wr.heap[w.heap.size]? = some (.cells #[.int .i64 t, .slice A n c] 30 (0, 0)) ∧ ∀ j c, j < k → cs[j]? = some c → clueB t c = true) (fun i _ => n - (intOf i).toNat)
  case atStart => exact ⟨0, Nat.zero_le _, rfl, hb0.trans (hb1.mono hb0.size), (hb1.block _ (by simp)).trans hm0, fun j u hj => by omega⟩
  case round =>
    obtain ⟨k, hk, rfl, hbx, hm, hall⟩ := hrel
    have HA := Lib.hid hall
    clear hall
    have z0 := cell_of hm 0
    have z1 := cell_of hm 1
    simp only [List.getElem?_toArray, List.getElem?_cons_zero, List.getElem?_cons_succ] at z0 z1
    by_cases hlt : k < n
    · obtain ⟨b, off, x, y, z, u, rfl, _, hbB, hx, hc0, hc1, hc2, hc3⟩ := (hs.below hbx hB).quad (k := k) (by rw [HN.out]; exact hlt)
      have HX := Lib.hid hx
      clear hx
      have hbr : b < wr.heap.size := by have := hbx.size; omega
      have hmr := heap_lt hm
      go_wp2_with fail
      by_cases hu : clK x t y z u = true
      · have HU := Lib.hid hu
        clear hu
        refine (isNoneOf_any t x y z u (by omega) _).mono ?_
        rintro e w2 ⟨he, hb2⟩
        rw [HU.out] at he
        subst he
        have hb2' : Below wr.heap.size wr w2 := ((Below.refl _ _).alloc (Nat.le_refl _) _).trans (hb2.mono (by simp))
        go_wp2
        go_roundw
        case rel =>
          refine ⟨k + 1, by omega, by go_num, hbx.trans (hb2'.mono hbx.size), (hb2'.block _ hmr).trans hm, fun j v hj hv => ?_⟩
          by_cases e : j = k
          · subst e; rw [HX.out] at hv; injection hv with hv; subst hv; exact HU.out
          · exact HA.out j v (by omega) hv
        case measure => simp [intOf]; omega
      · have hu' : clK x t y z u = false := by simpa using hu
        have HU := Lib.hid hu'
        clear hu hu'
        refine (isNoneOf_any t x y z u (by omega) _).mono ?_
        rintro e w2 ⟨he, hb2⟩
        rw [HU.out] at he
        subst he
        have hb2' : Below wr.heap.size wr w2 := ((Below.refl _ _).alloc (Nat.le_refl _) _).trans (hb2.mono (by simp))
        go_wp2
        go_ret
        exact ⟨by rw [HQ.out, cluesB_not HX.out HU.out]; rfl, hbx.trans (hb2'.mono hbx.size)⟩
    · obtain rfl : k = n := by omega
      go_wp2
      go_ret
      exact ⟨by rw [HQ.out, cluesB_of fun j c hj => HA.out j c (by rw [← HN.out]; exact (List.getElem?_eq_some_iff.1 hj).1) hj]; rfl, hbx⟩

end Go.Proofs.YtoheoojpmndhoabDoor

/-
  The written program's cutting of a rod and lengths.
  Conditions: the list has at most 1048576 numbers.
-/
import Derived.Test.YtoheoojpmndhoabRodI
namespace Go.Proofs.Ytoheoojpmndhoab
set_option linter.unusedVariables false
open Go.RowKit

theorem below_set6 {B g : Nat} {a w : World} (h : Below B a w) (hg : B ≤ g) (v0 v1 v2 v3 v4 v5 : Value) :
    Below B a ((((((w.setCell ⟨g, 0, none⟩ v0).setCell ⟨g, 1, none⟩ v1).setCell ⟨g, 2, none⟩ v2).setCell ⟨g, 3, none⟩ v3).setCell ⟨g, 4, none⟩ v4).setCell ⟨g, 5, none⟩ v5) :=
  (((((h.setCell (p := ⟨g, 0, none⟩) hg _).setCell (p := ⟨g, 1, none⟩) hg _).setCell (p := ⟨g, 2, none⟩) hg _).setCell (p := ⟨g, 3, none⟩) hg _).setCell (p := ⟨g, 4, none⟩) hg _).setCell (p := ⟨g, 5, none⟩) hg _

theorem frozen_each6 {w : World} {g T : Nat} {cs : Array Value} (h : w.heap[g]? = some (.cells cs T (0, 0))) :
    w.frozen? ⟨g, 0, none⟩ = false ∧ w.frozen? ⟨g, 1, none⟩ = false ∧ w.frozen? ⟨g, 2, none⟩ = false ∧ w.frozen? ⟨g, 3, none⟩ = false ∧ w.frozen? ⟨g, 4, none⟩ = false ∧ w.frozen? ⟨g, 5, none⟩ = false :=
  ⟨frozen_of h 0, frozen_of h 1, frozen_of h 2, frozen_of h 3, frozen_of h 4, frozen_of h 5⟩

theorem ints_4 {l : List Int} (h : l.length = 4) : ∃ v0 v1 v2 v3, l = [v0, v1, v2, v3] := by
  match l, h with
  | [v0, v1, v2, v3], _ => exact ⟨v0, v1, v2, v3, rfl⟩

theorem CutAt.six {w : World} {g T : Nat} {rod : Int} {A : Option Addr} {n c : Nat} {m0 m1 m2 m3 : Int} (h : CutAt w g T rod A n c [m0, m1, m2, m3]) : Cut6 w g rod A n c m0 m1 m2 m3 :=
  ⟨h.c0, h.c1, h.most (k := 0) rfl, h.most (k := 1) rfl, h.most (k := 2) rfl, h.most (k := 3) rfl⟩

theorem CutAt.far {w : World} {g T : Nat} {rod : Int} {A : Option Addr} {n c : Nat} {ms : List Int} (h : CutAt w g T rod A n c ms) {p : Addr} (hp : g ≠ p.block) (u : Value) : CutAt (w.setCell p u) g T rod A n c ms := h.keep (set_far w hp u)

theorem mostL_at {rod : Int} {zs : List Int} {k : Nat} {z : Int} (h : zs[k]? = some z) : (mostL rod zs)[k]? = some (rod / z) := by simp [mostL, h]

def zero6 : Array Value := #[.int .i64 0, .slice none 0 0, .int .i64 0, .int .i64 0, .int .i64 0, .int .i64 0]

section
variable (rod : Int) (A : Option Addr) (n c : Nat) (zs : List Int) (lo hi : Nat) (w : World) (hn : zs.length = n) (hlen : n ≤ 1048576) (hs : Seg w lo hi A zs) (hB : hi ≤ w.heap.size)
include hn hlen hs hB

set_option maxHeartbeats 400000 in
theorem cuttingOf_no (hq : rodB rod zs = false) :
    Calls Try.prog 29 #[.int .i64 rod, .slice A n c] w fun e w' => e = .returned (.tuple #[.agg #[.int .i64 0, .slice none 0 0, .int .i64 0, .int .i64 0, .int .i64 0, .int .i64 0], .bool false]) ∧ Below w.heap.size w w' := by
  have HN := Lib.hid hn
  obtain ⟨q0, q1, q2, q3, q4, q5⟩ := Cut6.of (new_at w (.cells #[.int .i64 0, .slice none 0 0, .int .i64 0, .int .i64 0, .int .i64 0, .int .i64 0] 40) rfl)
  by_cases h1 : inB rod 1 60 = true
  · have H2 : Hid (lensB zs = false) := by rw [rodB, h1, Bool.true_and] at hq; exact hq
    have H1 := Lib.hid h1
    clear hn hq h1
    go_enter Try.func29, Try.ntmps29
    go_wp2_with (first
      | (go_at_call 51; refine (isRod_any _ _ _ H1.out).mono ?_; rintro e w' ⟨rfl, rfl⟩)
      | (go_at_call 52; refine (implAreLengths_any _ _ _ zs lo hi _ HN.out hlen (hs.keep fun p _ h2 => World.cell?_of_block (Below.heap_alloc w _ p.block (by omega))) _ H2.out).mono ?_; rintro e w' ⟨rfl, rfl⟩))
    refine bodyPost_ret (v := .tuple #[.agg zero6, .bool false]) (by simp [results, Try.results29, go_sem, zero6, q0, q1, q2, q3, q4, q5]) rfl ⟨rfl, ?_⟩
    exact (Below.refl _ _).alloc (Nat.le_refl _) _
  · have h1' : inB rod 1 60 = false := by simpa using h1
    have H1 := Lib.hid h1'
    clear hn hq h1 h1'
    go_enter Try.func29, Try.ntmps29
    go_wp2_with (go_at_call 51; refine (isRod_any _ _ _ H1.out).mono ?_; rintro e w' ⟨rfl, rfl⟩)
    refine bodyPost_ret (v := .tuple #[.agg zero6, .bool false]) (by simp [results, Try.results29, go_sem, zero6, q0, q1, q2, q3, q4, q5]) rfl ⟨rfl, ?_⟩
    exact (Below.refl _ _).alloc (Nat.le_refl _) _

set_option maxHeartbeats 1000000 in
theorem cuttingOf_yes (hq : rodB rod zs = true) :
    Calls Try.prog 29 #[.int .i64 rod, .slice A n c] w fun e w' => ∃ m0 m1 m2 m3, pad4 (mostL rod zs) = [m0, m1, m2, m3] ∧ e = .returned (.tuple #[.agg #[.int .i64 rod, .slice A n c, .int .i64 m0, .int .i64 m1, .int .i64 m2, .int .i64 m3], .bool true]) ∧ Below w.heap.size w w' := by
  have HN := Lib.hid hn
  obtain ⟨hr, hl⟩ := rodB_true.1 hq
  obtain ⟨h1, h4, hz⟩ := lensB_at hl
  rw [hn] at h1 h4
  have H1 := Lib.hid (inB_true.2 hr)
  have H2 := Lib.hid hl
  have HZ := Lib.hid hz
  have hml : (mostL rod zs).length = n := by rw [mostL, List.length_map, hn]
  have HML := Lib.hid hml
  clear hn hq hl hz hml
  go_enter Try.func29, Try.ntmps29
  go_wp2_with (first
    | (go_at_call 51; refine (isRod_any _ _ _ H1.out).mono ?_; rintro e w' ⟨rfl, rfl⟩)
    | (go_at_call 52; refine (implAreLengths_any _ _ _ zs lo hi _ HN.out hlen (hs.keep fun p _ h2 => World.cell?_of_block (Below.heap_alloc w _ p.block (by omega))) _ H2.out).mono ?_; rintro e w' ⟨rfl, rfl⟩))
  obtain ⟨W, hW⟩ : ∃ W, (w.alloc (.cells #[.int .i64 0, .slice none 0 0, .int .i64 0, .int .i64 0, .int .i64 0, .int .i64 0] 40)).alloc (.cells #[.int .i64 rod, .slice A n c, .int .i64 0, .int .i64 0, .int .i64 0, .int .i64 0] 40) = W := ⟨_, rfl⟩
  have hb : Below w.heap.size w W := by rw [← hW]; exact ((Below.refl _ _).alloc (Nat.le_refl _) _).alloc (by simp) _
  have hc : CutAt W (w.heap.size + 1) 40 rod A n c (padTo (mostL rod zs) 0) := CutAt.of (by rw [← hW]; exact new_at _ _ (by simp))
  have hr0 : W.heap[w.heap.size]? = some (.cells #[.int .i64 0, .slice none 0 0, .int .i64 0, .int .i64 0, .int .i64 0, .int .i64 0] 40 (0, 0)) := by rw [← hW]; exact (alloc_old _ (by simp) _).trans (new_at _ _ rfl)
  rw [hW]
  clear hW
  go_loopw [23] (fun i wr => ∃ k : Nat, k ≤ n ∧ i = .int .i64 k ∧ CutAt wr (w.heap.size + 1) 40 rod A n c (padTo (mostL rod zs) k) ∧
    wr.heap[w.heap.size]? = some (.cells #[.int .i64 0, .slice none 0 0, .int .i64 0, .int .i64 0, .int .i64 0, .int .i64 0] 40 (0, 0)) ∧ Below w.heap.size w wr) (fun i _ => n - (intOf i).toNat)
  case atStart => exact ⟨0, Nat.zero_le _, rfl, hc, hr0, hb⟩
  case round =>
    obtain ⟨k, hk, rfl, hct, hrt, hbt⟩ := hrel
    by_cases hlt : k < n
    · have hs' := hs.below hbt hB
      obtain ⟨b', off', z, rfl, _, _, hx2, hc2⟩ := hs'.at_ (k := k) (by rw [HN.out]; omega)
      obtain ⟨hz1, hz2⟩ := HZ.out k z hx2
      have hmk := mostL_at (rod := rod) hx2
      have hk4 : k < 4 := by omega
      obtain ⟨u0, hu0⟩ : ∃ u0, (padTo (mostL rod zs) k)[k]? = some u0 := ⟨_, List.getElem?_eq_getElem (by rw [padTo_len]; exact hk4)⟩
      have hcu := hct.most hu0
      have hfr := hct.frozen (2 + k)
      have hzne : (z == 0) = false := by rw [beq_eq_false_iff_ne]; omega
      have hset := hct.set k (rod / z)
      rw [padTo_step hmk hk4] at hset
      have HSET := Lib.hid hset
      have HRT := Lib.hid ((set_far _ (by show w.heap.size ≠ w.heap.size + 1; omega) (.int .i64 (rod / z))).trans hrt : (wr.setCell ⟨w.heap.size + 1, 2 + k, none⟩ (.int .i64 (rod / z))).heap[w.heap.size]? = _)
      have HBT := Lib.hid (hbt.setCell (p := ⟨w.heap.size + 1, 2 + k, none⟩) (Nat.le_succ _) (.int .i64 (rod / z)))
      clear hu0 hmk hx2 hset hrt hct hbt
      go_wp2
      go_roundw
      case rel => exact ⟨k + 1, by omega, by go_num, HSET.out, HRT.out, HBT.out⟩
      case measure => simp [intOf]; omega
    · obtain rfl : k = n := by omega
      obtain ⟨m0, m1, m2, m3, hms⟩ := ints_4 (padTo_len (mostL rod zs) k)
      rw [hms] at hct
      rw [padTo_all HML.out] at hms
      obtain ⟨q0, q1, q2, q3, q4, q5⟩ := hct.six
      obtain ⟨f0, f1, f2, f3, f4, f5⟩ := frozen_each6 hrt
      obtain ⟨p0, p1, p2, p3, p4, p5⟩ := Cut6.of hrt
      have HMS := Lib.hid hms
      clear hms hct hrt
      go_wp2
      refine bodyPost_ret (v := .tuple #[.agg #[.int .i64 rod, .slice A k c, .int .i64 m0, .int .i64 m1, .int .i64 m2, .int .i64 m3], .bool true]) (by simp [results, Try.results29, go_sem, p0, p1, p2, p3, p4, p5]) rfl ⟨m0, m1, m2, m3, HMS.out, rfl, ?_⟩
      exact below_set6 hbt (Nat.le_refl _) _ _ _ _ _ _
end
end Go.Proofs.Ytoheoojpmndhoab

/-
  The written program's shelving of a list of numbers.
  Conditions: the lists have at most 1048576 elements.
-/
import Derived.Test.YtmdeijjlcebmaaaShelfOf
namespace Go.Proofs.Ytmdeijjlcebmaaa
set_option linter.unusedVariables false
open Go.RowKit

def zero13 : Array Value := #[.int .i64 0, .int .i64 0, .int .i64 0, .int .i64 0, .int .i64 0, .int .i64 0, .int .i64 0, .int .i64 0, .int .i64 0, .int .i64 0, .int .i64 0, .int .i64 0, .int .i64 0]

/-- A shelving and a bool are answered: the shelving of the list, or the one of no shelf. -/
def RetSh (p : Bool) (fs : List Int) (w : World) (e : Ending) (w' : World) : Prop :=
  e = .returned (.tuple #[if p = true then shV fs else shV [], .bool p]) ∧ Below w.heap.size w w'

theorem retSh_no {fs : List Int} {w w' : World} {e : Ending} (h : e = .returned (.tuple #[.agg #[.int .i64 0, .int .i64 0, .int .i64 0, .int .i64 0, .int .i64 0, .int .i64 0, .int .i64 0, .int .i64 0, .int .i64 0, .int .i64 0, .int .i64 0, .int .i64 0, .int .i64 0], .bool false])) (hb : Below w.heap.size w w') : RetSh false fs w e w' := ⟨h, hb⟩

theorem sh_zero {w : World} {g T : Nat} (h : w.heap[g]? = some (.cells #[.int .i64 0, .int .i64 0, .int .i64 0, .int .i64 0, .int .i64 0, .int .i64 0, .int .i64 0, .int .i64 0, .int .i64 0, .int .i64 0, .int .i64 0, .int .i64 0, .int .i64 0] T (0, 0))) : Arr w g T (shL []) := ⟨_, h, rfl⟩

theorem arr_vals {w : World} {g T : Nat} {ys : List Int} (h : Arr w g T ys) : w.heap[g]? = some (.cells (ys.map (Value.int .i64)).toArray T (0, 0)) := by
  obtain ⟨cs, hb, hc⟩ := h
  rw [hb, ← hc]

theorem riseB_out {n : Nat} {fs : List Int} (h : fs[0]? ≠ some 0) : riseB n fs = false := by
  by_cases h1 : riseB n fs = true
  · exact absurd (riseB_true.1 h1).1 h
  · simpa using h1

theorem riseB_step {n : Nat} {fs : List Int} {k : Nat} (hk : k < fs.length) (h : stepB n fs k = false) : riseB n fs = false := by
  by_cases h1 : riseB n fs = true
  · have := (riseB_true.1 h1).2 k hk
    rw [h] at this; cases this
  · simpa using h1

theorem bothB_ask {bs : List (Int × Int)} {width : Int} {fs : List Int} (h : askedK bs width = false) : bothB bs width fs = false := by rw [bothB, h, Bool.false_and]
theorem bothB_rise {bs : List (Int × Int)} {width : Int} {fs : List Int} (h : riseB bs.length fs = false) : bothB bs width fs = false := by rw [bothB, shelfB, h, Bool.false_and, Bool.and_false]
theorem bothB_full {bs : List (Int × Int)} {width : Int} {fs : List Int} (h : askedK bs width = true) (h2 : riseB bs.length fs = true) : bothB bs width fs = fullB bs width (natsOf fs) := by rw [bothB, shelfB, h, h2, Bool.true_and, Bool.true_and]

theorem ints_13 {l : List Int} (h : l.length = 13) : ∃ v0 v1 v2 v3 v4 v5 v6 v7 v8 v9 v10 v11 v12, l = [v0, v1, v2, v3, v4, v5, v6, v7, v8, v9, v10, v11, v12] := by
  match l, h with
  | [v0, v1, v2, v3, v4, v5, v6, v7, v8, v9, v10, v11, v12], _ => exact ⟨v0, v1, v2, v3, v4, v5, v6, v7, v8, v9, v10, v11, v12, rfl⟩

theorem below_set13 {B g : Nat} {a w : World} (h : Below B a w) (hg : B ≤ g) (v0 v1 v2 v3 v4 v5 v6 v7 v8 v9 v10 v11 v12 : Value) :
    Below B a (((((((((((((w.setCell ⟨g, 0, none⟩ v0).setCell ⟨g, 1, none⟩ v1).setCell ⟨g, 2, none⟩ v2).setCell ⟨g, 3, none⟩ v3).setCell ⟨g, 4, none⟩ v4).setCell ⟨g, 5, none⟩ v5).setCell ⟨g, 6, none⟩ v6).setCell ⟨g, 7, none⟩ v7).setCell ⟨g, 8, none⟩ v8).setCell ⟨g, 9, none⟩ v9).setCell ⟨g, 10, none⟩ v10).setCell ⟨g, 11, none⟩ v11).setCell ⟨g, 12, none⟩ v12) :=
  (((((((((((((h.setCell (p := ⟨g, 0, none⟩) hg _).setCell (p := ⟨g, 1, none⟩) hg _).setCell (p := ⟨g, 2, none⟩) hg _).setCell (p := ⟨g, 3, none⟩) hg _).setCell (p := ⟨g, 4, none⟩) hg _).setCell (p := ⟨g, 5, none⟩) hg _).setCell (p := ⟨g, 6, none⟩) hg _).setCell (p := ⟨g, 7, none⟩) hg _).setCell (p := ⟨g, 8, none⟩) hg _).setCell (p := ⟨g, 9, none⟩) hg _).setCell (p := ⟨g, 10, none⟩) hg _).setCell (p := ⟨g, 11, none⟩) hg _).setCell (p := ⟨g, 12, none⟩) hg _)

theorem frozen_each {w : World} {g T : Nat} {cs : Array Value} (h : w.heap[g]? = some (.cells cs T (0, 0))) :
    w.frozen? ⟨g, 0, none⟩ = false ∧ w.frozen? ⟨g, 1, none⟩ = false ∧ w.frozen? ⟨g, 2, none⟩ = false ∧ w.frozen? ⟨g, 3, none⟩ = false ∧ w.frozen? ⟨g, 4, none⟩ = false ∧ w.frozen? ⟨g, 5, none⟩ = false ∧ w.frozen? ⟨g, 6, none⟩ = false ∧ w.frozen? ⟨g, 7, none⟩ = false ∧ w.frozen? ⟨g, 8, none⟩ = false ∧ w.frozen? ⟨g, 9, none⟩ = false ∧ w.frozen? ⟨g, 10, none⟩ = false ∧ w.frozen? ⟨g, 11, none⟩ = false ∧ w.frozen? ⟨g, 12, none⟩ = false :=
  ⟨frozen_of h 0, frozen_of h 1, frozen_of h 2, frozen_of h 3, frozen_of h 4, frozen_of h 5, frozen_of h 6, frozen_of h 7, frozen_of h 8, frozen_of h 9, frozen_of h 10, frozen_of h 11, frozen_of h 12⟩

theorem retSh_yes {fs : List Int} {w w' : World} {e : Ending} {cs : Array Value} (hcs : ((shL fs).map (Value.int .i64)).toArray = cs) (h : e = .returned (.tuple #[.agg cs, .bool true])) (hb : Below w.heap.size w w') : RetSh true fs w e w' :=
  ⟨by rw [h, ← hcs]; rfl, hb⟩

theorem nats_map {n : Nat} {fs : List Int} (h : riseB n fs = true) : fs = (natsOf fs).map fun q : Nat => (q : Int) := by
  apply List.ext_getElem?
  intro k
  by_cases hk : k < fs.length
  · rw [rise_cell h hk]
    have : k < (natsOf fs).length := by rw [natsOf_length]; exact hk
    simp [List.getD, this]
  · rw [List.getElem?_eq_none (by omega), List.getElem?_eq_none (by simp [natsOf_length]; omega)]

theorem cells_of_rise {n : Nat} {fs : List Int} (h : riseB n fs = true) (hn : n ≤ 12) {cs : Array Value} (hcs : ((shL fs).map (Value.int .i64)).toArray = cs) : Cells13 cs (natsOf fs) := by
  have h1 := cells13 (qs := natsOf fs) (Nat.le_trans (rise_of h).len hn)
  rw [← nats_map h, hcs] at h1
  exact h1

set_option maxHeartbeats 2000000 in
theorem shelvingOf_no (A D : Option Addr) (n c m d : Nat) (bs : List (Int × Int)) (width : Int) (fs : List Int) (lo hi : Nat) (w : World) (hn : bs.length = n) (hlen : n ≤ 1048576) (hs : Seg w lo hi A (flat bs)) (hB : hi ≤ w.heap.size) (ha : askedK bs width = false) :
    Calls Try.prog 36 #[.slice A n c, .int .i64 width, .slice D m d] w (RetSh (bothB bs width fs) fs w) := by
  have HN := Lib.hid hn
  have HA := Lib.hid ha
  rw [bothB_ask ha]
  clear hn ha
  go_enter Try.func36, Try.ntmps36
  go_wp2_with fail
  refine (canBeShelved_any _ _ _ bs width lo hi _ HN.out hlen (hs.keep (fun p _ h2 => World.cell?_of_block (Below.heap_alloc w _ p.block (by omega)))) (by simp; omega) _ HA.out).mono ?_
  rintro e w1 ⟨rfl, hb1⟩
  have hbx := new_cells hb1
  have hbb := Below.trans ((Below.refl w.heap.size w).alloc (Nat.le_refl _) _) (hb1.mono (by simp))
  obtain ⟨q0, q1, q2, q3, q4, q5, q6, q7, q8, q9, q10, q11, q12⟩ := cells_each hbx
  obtain ⟨f0, f1, f2, f3, f4, f5, f6, f7, f8, f9, f10, f11, f12⟩ := frozen_each hbx
  have HBX := Lib.hid hbx
  clear hbx
  go_wp2
  refine bodyPost_ret (v := .tuple #[.agg zero13, .bool false]) (by simp [results, Try.results36, go_sem, zero13, q0, q1, q2, q3, q4, q5, q6, q7, q8, q9, q10, q11, q12]) rfl (retSh_no rfl ?_)
  exact below_set13 hbb (Nat.le_refl _) _ _ _ _ _ _ _ _ _ _ _ _ _

set_option maxHeartbeats 4000000 in
theorem shelvingOf_yes (A D : Option Addr) (n c m d : Nat) (bs : List (Int × Int)) (width : Int) (fs : List Int) (lo hi lo' hi' : Nat) (w : World) (hn : bs.length = n) (hc : n ≤ c) (hm : fs.length = m) (hm2 : m ≤ 1048576)
    (hs : Seg w lo hi A (flat bs)) (hB : hi ≤ w.heap.size) (ho : Seg w lo' hi' D fs) (hB' : hi' ≤ w.heap.size) (ha : askedK bs width = true) :
    Calls Try.prog 36 #[.slice A n c, .int .i64 width, .slice D m d] w (RetSh (bothB bs width fs) fs w) := by
  obtain ⟨h1, h12, hbk, hw1, hw2⟩ := askedK_at ha
  rw [hn] at h1 h12
  have hlen : n ≤ 1048576 := by omega
  obtain ⟨b, off, _, _, rfl, _⟩ := hs.book (k := 0) (by omega)
  have HN := Lib.hid hn
  have HM := Lib.hid hm
  have HA := Lib.hid ha
  have HG := Lib.hid (goodK_part (by simp only [askedK, Bool.and_eq_true] at ha; exact ha.1))
  have HF := Lib.hid (fun h => bothB_full (fs := fs) (width := width) ha h)
  clear hn hm ha hbk
  by_cases hz : m = 0
  · subst hz
    have hr : bothB bs width fs = false := bothB_rise (riseB_out (by rw [List.getElem?_eq_none (by rw [HM.out]; exact Nat.le_refl _)]; simp))
    rw [hr]
    clear hr
    go_enter Try.func36, Try.ntmps36
    go_wp2_with fail
    refine (canBeShelved_any _ _ _ bs width lo hi _ HN.out hlen (hs.keep (fun p _ h2 => World.cell?_of_block (Below.heap_alloc w _ p.block (by omega)))) (by simp; omega) _ HA.out).mono ?_
    rintro e w1 ⟨rfl, hb1⟩
    have hbx := new_cells hb1
    have hbb := Below.trans ((Below.refl w.heap.size w).alloc (Nat.le_refl _) _) (hb1.mono (by simp))
    obtain ⟨q0, q1, q2, q3, q4, q5, q6, q7, q8, q9, q10, q11, q12⟩ := cells_each hbx
    obtain ⟨f0, f1, f2, f3, f4, f5, f6, f7, f8, f9, f10, f11, f12⟩ := frozen_each hbx
    have HBX := Lib.hid hbx
    clear hbx
    go_wp2
    refine bodyPost_ret (v := .tuple #[.agg zero13, .bool false]) (by simp [results, Try.results36, go_sem, zero13, q0, q1, q2, q3, q4, q5, q6, q7, q8, q9, q10, q11, q12]) rfl (retSh_no rfl ?_)
    exact below_set13 hbb (Nat.le_refl _) _ _ _ _ _ _ _ _ _ _ _ _ _
  obtain ⟨bd, od, u0, rfl, _, hbd, hx0, hc0⟩ := ho.at_ (k := 0) (by rw [HM.out]; omega)
  have hc0' : w.cell? ⟨bd, od, none⟩ = some (.int .i64 u0) := hc0
  clear hc0
  have hmz : ((m : Int) == 0) = false := by rw [beq_eq_false_iff_ne]; omega
  by_cases hu0 : u0 = 0
  case neg =>
    have hr : bothB bs width fs = false := bothB_rise (riseB_out (by rw [hx0]; simpa using hu0))
    have hub : (u0 == 0) = false := by rw [beq_eq_false_iff_ne]; exact hu0
    rw [hr]
    clear hr hx0
    go_enter Try.func36, Try.ntmps36
    go_wp2_with fail
    refine (canBeShelved_any _ _ _ bs width lo hi _ HN.out hlen (hs.keep (fun p _ h2 => World.cell?_of_block (Below.heap_alloc w _ p.block (by omega)))) (by simp; omega) _ HA.out).mono ?_
    rintro e w1 ⟨rfl, hb1⟩
    have hbx := new_cells hb1
    have hbb := Below.trans ((Below.refl w.heap.size w).alloc (Nat.le_refl _) _) (hb1.mono (by simp))
    have hcu := (hbb.cell (p := ⟨bd, od, none⟩) (by exact Nat.lt_of_lt_of_le hbd hB')).trans hc0'
    obtain ⟨q0, q1, q2, q3, q4, q5, q6, q7, q8, q9, q10, q11, q12⟩ := cells_each hbx
    obtain ⟨f0, f1, f2, f3, f4, f5, f6, f7, f8, f9, f10, f11, f12⟩ := frozen_each hbx
    have HBX := Lib.hid hbx
    clear hbx
    go_wp2
    refine bodyPost_ret (v := .tuple #[.agg zero13, .bool false]) (by simp [results, Try.results36, go_sem, zero13, q0, q1, q2, q3, q4, q5, q6, q7, q8, q9, q10, q11, q12]) rfl (retSh_no rfl ?_)
    exact below_set13 hbb (Nat.le_refl _) _ _ _ _ _ _ _ _ _ _ _ _ _
  subst hu0
  have HX0 := Lib.hid hx0
  clear hx0
  go_enter Try.func36, Try.ntmps36
  go_wp2_with fail
  refine (canBeShelved_any _ _ _ bs width lo hi _ HN.out hlen (hs.keep (fun p _ h2 => World.cell?_of_block (Below.heap_alloc w _ p.block (by omega)))) (by simp; omega) _ HA.out).mono ?_
  rintro e w1 ⟨rfl, hb1⟩
  have hbx := new_cells hb1
  have hbb := Below.trans ((Below.refl w.heap.size w).alloc (Nat.le_refl _) _) (hb1.mono (by simp))
  have hcu := (hbb.cell (p := ⟨bd, od, none⟩) (by exact Nat.lt_of_lt_of_le hbd hB')).trans hc0'
  have HBX := Lib.hid hbx
  have hw1s := heap_lt hbx
  clear hbx
  go_wp2
  go_loopw [9, 10, 29] (fun _ _ i wr => ∃ k : Nat, k ≤ m ∧ i = .int .i64 k ∧ Below w.heap.size w wr ∧ wr.heap[w.heap.size]? = some (.cells #[.int .i64 0, .int .i64 0, .int .i64 0, .int .i64 0, .int .i64 0, .int .i64 0, .int .i64 0, .int .i64 0, .int .i64 0, .int .i64 0, .int .i64 0, .int .i64 0, .int .i64 0] 51 (0, 0)) ∧ Arr wr w1.heap.size 51 (shL (fs.take k)) ∧
      ∀ j, j < k → stepB n fs j = true) (fun _ _ i _ => m - (intOf i).toNat)
  case atStart => exact ⟨0, Nat.zero_le _, rfl, hbb.alloc (by omega) _, (alloc_old _ hw1s _).trans HBX.out, sh_zero (new_at _ _ rfl), fun j hj => by omega⟩
  clear hcu
  case round =>
    obtain ⟨k, hk, rfl, hb, hz6, har, hj⟩ := hrel
    have HJ := Lib.hid hj
    clear hj
    by_cases hlt : k < m
    · obtain ⟨bd', od', u, hA, _, _, hux, huc⟩ := ho.at_ (k := k) (by rw [HM.out]; exact hlt)
      obtain ⟨rfl, rfl⟩ : bd = bd' ∧ od = od' := by injection hA with hA; injection hA with h1 h2; exact ⟨h1, h2⟩
      have hcw := (hb.cell (p := ⟨bd, od + k, none⟩) (by exact Nat.lt_of_lt_of_le hbd hB')).trans huc
      have hgd : fs.getD k 0 = u := by simp [List.getD, hux]
      have HU := Lib.hid hux
      clear hA hux huc
      by_cases hun : u < (n : Int)
      case neg =>
        have hr : bothB bs width fs = false := bothB_rise (riseB_step (k := k) (by rw [HM.out]; exact hlt) (by rw [HN.out, stepB, hgd, decide_eq_false hun, Bool.false_and]))
        rw [hr]
        clear hr
        obtain ⟨q0, q1, q2, q3, q4, q5, q6, q7, q8, q9, q10, q11, q12⟩ := cells_each hz6
        obtain ⟨f0, f1, f2, f3, f4, f5, f6, f7, f8, f9, f10, f11, f12⟩ := frozen_each hz6
        clear hz6
        go_wp2
        refine bodyPost_ret (v := .tuple #[.agg zero13, .bool false]) (by simp [results, Try.results36, go_sem, zero13, q0, q1, q2, q3, q4, q5, q6, q7, q8, q9, q10, q11, q12]) rfl (retSh_no rfl ?_)
        exact below_set13 hb (Nat.le_refl _) _ _ _ _ _ _ _ _ _ _ _ _ _
      rcases Nat.eq_zero_or_pos k with hk0 | hkp
      · have hst : stepB n fs k = true := stepB_true.2 ⟨by rw [hgd]; exact hun, .inl hk0⟩
        have HS := Lib.hid hst
        subst hk0
        have hcw0 : wr.cell? ⟨bd, od, none⟩ = some (.int .i64 u) := hcw
        clear hst hgd hcw
        go_wp2_with fail
        refine (open_any w1.heap.size 51 (fs.take 0) u wr har (by rw [List.length_take, HM.out]; omega)).mono ?_
        rintro e w2 ⟨rfl, har2, honly⟩
        have hbel2 : Below w.heap.size w w2 := hb.trans (honly.below hb.size (fun g hg => by rw [hg]; omega))
        have hz62 := (honly.block w.heap.size (heap_lt hz6) (by intro h; have : w.heap.size = w1.heap.size := h; omega)).trans hz6
        have HT := Lib.hid (take_snoc HU.out)
        go_wp2
        go_roundw
        case rel => exact ⟨0 + 1, by omega, by go_num, hbel2, hz62, by rw [HT.out]; exact har2, fun j hj => by
          by_cases e : j = 0
          · subst e; exact HS.out
          · exact HJ.out j (by omega)⟩
        case measure => simp [intOf]; omega
      · obtain ⟨j, rfl⟩ : ∃ j, k = j + 1 := ⟨k - 1, by omega⟩
        obtain ⟨bd', od', v, hA, _, _, hvx, hvc⟩ := ho.at_ (k := j) (by rw [HM.out]; omega)
        obtain ⟨rfl, rfl⟩ : bd = bd' ∧ od = od' := by injection hA with hA; injection hA with h1 h2; exact ⟨h1, h2⟩
        have hcv := (hb.cell (p := ⟨bd, od + j, none⟩) (by exact Nat.lt_of_lt_of_le hbd hB')).trans hvc
        have hgv : fs.getD (j + 1 - 1) 0 = v := by simp [List.getD, hvx]
        clear hA hvx hvc
        by_cases hvu : v < u
        case neg =>
          have hr : bothB bs width fs = false := bothB_rise (riseB_step (k := j + 1) (by rw [HM.out]; exact hlt) (by rw [HN.out, stepB, hgd, hgv, decide_eq_false hvu]; simp))
          rw [hr]
          clear hr hgd hgv
          obtain ⟨q0, q1, q2, q3, q4, q5, q6, q7, q8, q9, q10, q11, q12⟩ := cells_each hz6
          obtain ⟨f0, f1, f2, f3, f4, f5, f6, f7, f8, f9, f10, f11, f12⟩ := frozen_each hz6
          clear hz6
          go_wp2
          refine bodyPost_ret (v := .tuple #[.agg zero13, .bool false]) (by simp [results, Try.results36, go_sem, zero13, q0, q1, q2, q3, q4, q5, q6, q7, q8, q9, q10, q11, q12]) rfl (retSh_no rfl ?_)
          exact below_set13 hb (Nat.le_refl _) _ _ _ _ _ _ _ _ _ _ _ _ _
        have hst : stepB n fs (j + 1) = true := stepB_true.2 ⟨by rw [hgd]; exact hun, .inr (by rw [hgd, hgv]; exact hvu)⟩
        have hku := step_ge (first_getD HX0.out) (k := j + 1) (fun i hi => by
          by_cases e : i = j + 1
          · subst e; exact hst
          · exact HJ.out i (by omega))
        rw [hgd] at hku
        have HS := Lib.hid hst
        clear hst hgd hgv
        go_wp2_with fail
        refine (open_any w1.heap.size 51 (fs.take (j + 1)) u wr har (by rw [List.length_take, HM.out]; omega)).mono ?_
        rintro e w2 ⟨rfl, har2, honly⟩
        have hbel2 : Below w.heap.size w w2 := hb.trans (honly.below hb.size (fun g hg => by rw [hg]; omega))
        have hz62 := (honly.block w.heap.size (heap_lt hz6) (by intro h; have : w.heap.size = w1.heap.size := h; omega)).trans hz6
        have HT := Lib.hid (take_snoc HU.out)
        go_wp2
        go_roundw
        case rel => exact ⟨j + 1 + 1, by omega, by go_num, hbel2, hz62, by rw [HT.out]; exact har2, fun i hi => by
          by_cases e : i = j + 1
          · subst e; exact HS.out
          · exact HJ.out i (by omega)⟩
        case measure => simp [intOf]; omega
    · obtain rfl : k = m := by omega
      have hri : riseB bs.length fs = true := riseB_true.2 ⟨HX0.out, fun j hj => by rw [HN.out]; exact HJ.out j (by rw [← HM.out]; exact hj)⟩
      have hres := HF.out hri
      have hrn : riseB n fs = true := by rw [← HN.out]; exact hri
      rw [← HM.out, List.take_length] at har
      have hav := arr_vals har
      obtain ⟨v0, v1, v2, v3, v4, v5, v6, v7, v8, v9, v10, v11, v12, hsl⟩ := ints_13 (shL_len (fs := fs) (by have := (rise_of hrn).len; rw [natsOf_length] at this; omega))
      have hcs : ((shL fs).map (Value.int .i64)).toArray = #[.int .i64 v0, .int .i64 v1, .int .i64 v2, .int .i64 v3, .int .i64 v4, .int .i64 v5, .int .i64 v6, .int .i64 v7, .int .i64 v8, .int .i64 v9, .int .i64 v10, .int .i64 v11, .int .i64 v12] := by rw [hsl]; rfl
      rw [hcs] at hav
      have HC := Lib.hid (cells_of_rise hrn h12 hcs)
      have HCS := Lib.hid hcs
      have HR := Lib.hid (rise_of hrn)
      have hfm := Lib.hid (fullB_most (bs := bs) (qs := natsOf fs) (width := width) (by omega))
      have hql : (natsOf fs).length = k := by rw [natsOf_length]; exact HM.out
      have HQL := Lib.hid hql
      have h1k := HR.out.one
      rw [hql] at h1k
      clear hcs hri hrn har hql
      rw [hfm.out] at hres
      obtain ⟨mx, hmx⟩ : ∃ mx, mostOf (widthsK bs (natsOf fs)) = mx := ⟨_, rfl⟩
      rw [hmx] at hres
      obtain ⟨q, hq⟩ : ∃ q, decide (mx ≤ width) = q := ⟨_, rfl⟩
      rw [hq] at hres
      have HRES := Lib.hid hres
      clear hres
      have HMX := Lib.hid hmx
      have HQ := Lib.hid hq
      clear hfm hmx hq
      obtain ⟨p0, p1, p2, p3, p4, p5, p6, p7, p8, p9, p10, p11, p12⟩ := cells_each hav
      have HAV := Lib.hid hav
      have HZ6 := Lib.hid hz6
      clear hav hz6
      go_wp2_with fail
      refine (widths_any b off n c bs (natsOf fs) _ lo hi wr HN.out hc HC.out HR.out HG.out (hs.below hb hB) (Nat.le_trans hB hb.size)).mono ?_
      rintro e w3 ⟨g3, rfl, har3, hg3, hb3⟩
      rw [HQL.out]
      have hseg3 := (har3.own (lo := g3) (hi := g3 + 1) (Nat.le_refl _) (Nat.lt_succ_self _)).seg
      go_wp2_with fail
      refine (slicesMax_any _ _ _ _ _ _ _ (by rw [widths_length]; exact HQL.out) hm2 hseg3 h1k (fun x hx => ?_)).mono ?_
      · obtain ⟨j, hj⟩ := List.getElem?_of_mem hx
        have hjl := (List.getElem?_eq_some_iff.1 hj).1
        rw [widths_length] at hjl
        rw [widths_at bs hjl] at hj
        injection hj with hj
        have := sum_bds (ths (partK bs (natsOf fs) j)) (fun y hy => by
          obtain ⟨q, hq, rfl⟩ := List.mem_map.1 hy
          have := HG.out.2 q (part_mem hq)
          omega)
        omega
      rintro e w4 ⟨rfl, rfl⟩
      have hbb3 := hb.trans (hb3.mono hb.size)
      have hz63 := (hb3.block _ (heap_lt HZ6.out)).trans HZ6.out
      have hav3 := (hb3.block _ (heap_lt HAV.out)).trans HAV.out
      rw [HMX.out]
      clear p0 p1 p2 p3 p4 p5 p6 p7 p8 p9 p10 p11 p12 HC HR
      obtain ⟨q0, q1, q2, q3, q4, q5, q6, q7, q8, q9, q10, q11, q12⟩ := cells_each hz63
      obtain ⟨f0, f1, f2, f3, f4, f5, f6, f7, f8, f9, f10, f11, f12⟩ := frozen_each hz63
      obtain ⟨p0, p1, p2, p3, p4, p5, p6, p7, p8, p9, p10, p11, p12⟩ := cells_each hav3
      clear hz63 hav3 har3 hseg3 hb3 HZ6 HAV
      cases q
      case true =>
        have hfull := of_decide_eq_true HQ.out
        go_wp2
        refine bodyPost_ret (v := .tuple #[.agg #[.int .i64 v0, .int .i64 v1, .int .i64 v2, .int .i64 v3, .int .i64 v4, .int .i64 v5, .int .i64 v6, .int .i64 v7, .int .i64 v8, .int .i64 v9, .int .i64 v10, .int .i64 v11, .int .i64 v12], .bool true]) (by simp [results, Try.results36, go_sem, q0, q1, q2, q3, q4, q5, q6, q7, q8, q9, q10, q11, q12]) rfl ?_
        rw [HRES.out]
        refine retSh_yes HCS.out rfl ?_
        exact below_set13 hbb3 (Nat.le_refl _) _ _ _ _ _ _ _ _ _ _ _ _ _
      case false =>
        have hfull := of_decide_eq_false HQ.out
        go_wp2
        refine bodyPost_ret (v := .tuple #[.agg zero13, .bool false]) (by simp [results, Try.results36, go_sem, zero13, q0, q1, q2, q3, q4, q5, q6, q7, q8, q9, q10, q11, q12]) rfl ?_
        rw [HRES.out]
        refine retSh_no rfl ?_
        exact below_set13 hbb3 (Nat.le_refl _) _ _ _ _ _ _ _ _ _ _ _ _ _
end Go.Proofs.Ytmdeijjlcebmaaa

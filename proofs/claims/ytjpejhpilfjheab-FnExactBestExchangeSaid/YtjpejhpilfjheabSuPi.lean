/-
  The written program's items taken in an order.
  Conditions: items and a suitcase.
-/
import Derived.Test.YtjpejhpilfjheabSuPc
import Derived.Test.YtjpejhpilfjheabSuC
import Derived.Test.YtjpejhpilfjheabInsP
import Derived.Test.YtjpejhpilfjheabSortN
import Derived.Test.YtjpejhpilfjheabSegT
import Derived.Test.YtjpejhpilfjheabL1Own
import Derived.Test.YtjpejhpilfjheabSomeN
import Derived.Test.YtjpejhpilfjheabBdO
namespace Go.Proofs.Ytjpejhpilfjheab
set_option linter.unusedVariables false
set_option linter.unusedSimpArgs false
open Go.RowKit

theorem holds_any (Wr Br x y z : Int) (w : World) (q : Bool) (hq : (decide (x ≤ Wr) && decide (y ≤ Br)) = q) :
    Calls Try.prog 52 #[.agg #[.int .i64 Wr, .int .i64 Br], .agg #[.int .i64 x, .int .i64 y, .int .i64 z]] w fun e w' => e = .returned (.bool q) ∧ Below w.heap.size w w' := by
  have hb := ((Below.refl w.heap.size w).alloc (Nat.le_refl _) (.cells #[.int .i64 Wr, .int .i64 Br] 41)).alloc (by simp) (.cells #[.int .i64 x, .int .i64 y, .int .i64 z] 63)
  by_cases h1 : x ≤ Wr
  · by_cases h2 : y ≤ Br
    · obtain rfl : q = true := by rw [← hq]; simp [h1, h2]
      clear hq
      go_enter Try.func52, Try.ntmps52
      go_wp2
      go_ret
      exact ⟨rfl, hb⟩
    · obtain rfl : q = false := by rw [← hq]; simp [h2]
      have h3 : decide (y ≤ Br) = false := decide_eq_false h2
      clear hq
      go_enter Try.func52, Try.ntmps52
      go_wp2
      go_ret
      exact ⟨rfl, hb⟩
  · obtain rfl : q = false := by rw [← hq]; simp [h1]
    have h3 : decide (x ≤ Wr) = false := decide_eq_false h1
    clear hq
    go_enter Try.func52, Try.ntmps52
    go_wp2
    go_ret
    exact ⟨rfl, hb⟩

theorem without_any (Wr Br x y z : Int) (w : World) (h1 : 0 ≤ Wr ∧ Wr ≤ 4000) (h2 : 0 ≤ Br ∧ Br ≤ 4000) (h3 : 0 ≤ x ∧ x ≤ 4000) (h4 : 0 ≤ y ∧ y ≤ 4000) :
    Calls Try.prog 90 #[.agg #[.int .i64 Wr, .int .i64 Br], .agg #[.int .i64 x, .int .i64 y, .int .i64 z]] w fun e w' => e = .returned (.agg #[.int .i64 (Wr - x), .int .i64 (Br - y)]) ∧ Below w.heap.size w w' := by
  have e1 : IntKind.i64.wrap (Wr - x) = Wr - x := by rw [IntKind.wrap_i64]; omega
  have e2 : IntKind.i64.wrap (Br - y) = Br - y := by rw [IntKind.wrap_i64]; omega
  go_enter Try.func90, Try.ntmps90
  go_wp2
  refine bodyPost_ret (v := .agg #[.int .i64 (Wr - x), .int .i64 (Br - y)]) (by simp [results, Try.results90, go_sem]) rfl ⟨rfl, ?_⟩
  exact (((Below.refl w.heap.size w).alloc (Nat.le_refl _) _).alloc (by simp) _).alloc (by simp; omega) _


theorem chP_yes {ra : Bool} {ts : List (Int × Int × Int)} {W B : Int} {k : Nat} {x : Int} (h : (ordP ra ts)[k]? = some x) (h1 : wI ts x ≤ W - sumF (wI ts) (chP ts W B ((ordP ra ts).take k))) (h2 : bI ts x ≤ B - sumF (bI ts) (chP ts W B ((ordP ra ts).take k))) :
    chP ts W B ((ordP ra ts).take (k + 1)) = chP ts W B ((ordP ra ts).take k) ++ [x] := by
  rw [take_nextP h, chP_snoc, stepP, if_pos]
  rw [fitI_true, sumF_snoc, sumF_snoc]
  omega
theorem chP_no {ra : Bool} {ts : List (Int × Int × Int)} {W B : Int} {k : Nat} {x : Int} (h : (ordP ra ts)[k]? = some x) (h1 : ¬ (wI ts x ≤ W - sumF (wI ts) (chP ts W B ((ordP ra ts).take k)) ∧ bI ts x ≤ B - sumF (bI ts) (chP ts W B ((ordP ra ts).take k)))) :
    chP ts W B ((ordP ra ts).take (k + 1)) = chP ts W B ((ordP ra ts).take k) := by
  rw [take_nextP h, chP_snoc, stepP, if_neg]
  rw [fitI_true, sumF_snoc, sumF_snoc]
  omega
theorem row_set {w : World} {base T n P i : Nat} {v : Value} {xs : List Value} (h : w.ownsRow base T 1 v n xs) (hP : P < base) (u : Value) : (w.setCell ⟨P, i, none⟩ u).ownsRow base T 1 v n xs :=
  h.kept (row := some P) ⟨rfl, rfl, rfl, by simp [World.setCell], fun k _ hne => Below.heap_setCell _ _ _ _ (fun e => hne (by rw [e]))⟩ (by
    by_cases e : v.ownBlock = some P
    · have := (h.lt _ e).1; omega
    · exact .inr e)
/-- An item, and the room. -/
theorem keepPk {b0 Pr Pl bq o : Nat} {v x y z Wr Br : Value} {u W0 W1 : World} (h : Below b0 u W0 ∧ (W0.cell? ⟨Pr, 0, none⟩ = some Wr ∧ W0.cell? ⟨Pr, 1, none⟩ = some Br) ∧ W0.cell? ⟨Pl, 0, none⟩ = some v ∧ W0.cell? ⟨bq, o, none⟩ = some x ∧ W0.cell? ⟨bq, o + 1, none⟩ = some y ∧ W0.cell? ⟨bq, o + 2, none⟩ = some z) (hb : Below W0.heap.size W0 W1) (hz : b0 ≤ W0.heap.size) :
    Below b0 u W1 ∧ (W1.cell? ⟨Pr, 0, none⟩ = some Wr ∧ W1.cell? ⟨Pr, 1, none⟩ = some Br) ∧ W1.cell? ⟨Pl, 0, none⟩ = some v ∧ W1.cell? ⟨bq, o, none⟩ = some x ∧ W1.cell? ⟨bq, o + 1, none⟩ = some y ∧ W1.cell? ⟨bq, o + 2, none⟩ = some z :=
  ⟨h.1.trans (hb.mono hz), ⟨(hb.cell (cell_lt h.2.1.1)).trans h.2.1.1, (hb.cell (cell_lt h.2.1.2)).trans h.2.1.2⟩, (hb.cell (cell_lt h.2.2.1)).trans h.2.2.1, (hb.cell (cell_lt h.2.2.2.1)).trans h.2.2.2.1, (hb.cell (cell_lt h.2.2.2.2.1)).trans h.2.2.2.2.1, (hb.cell (cell_lt h.2.2.2.2.2)).trans h.2.2.2.2.2⟩
theorem only_grown2 {S : Nat → Prop} {a w w' : World} {row : Option Nat} (h : Only S a w) (hg : w.grownBy w' row) (hr : ∀ b, row = some b → S b) : Only S a w' :=
  h.trans ⟨hg.os, hg.tape, hg.output, hg.size, fun k hk hs => hg.block k hk (fun e => hs (hr k e.symm))⟩
theorem set_two4 {w : World} {p T : Nat} {a b : Value} (h : w.heap[p]? = some (.cells #[a, b] T (0, 0))) (x y : Value) : ((w.setCell ⟨p, 0, none⟩ x).setCell ⟨p, 1, none⟩ y).heap[p]? = some (.cells #[x, y] T (0, 0)) := by
  rw [set_self ((set_self h 0 x).trans rfl) 1 y]
  rfl
/-- Only the room and what is new. -/
def RN (Pr b : Nat) : Nat → Prop := fun k => k = Pr ∨ b ≤ k

set_option maxRecDepth 100000 in
set_option maxHeartbeats 2000000 in
theorem ordV_any (gc gl n c0 : Nat) (A0 : Option Addr) (ts : List (Int × Int × Int)) (lo hi : Nat) (i j : Nat) (w : World) (hn : ts.length = n) (hg : OkI ts) (hs : Seg w lo hi A0 (flat3 ts)) (hgc : w.cell? ⟨gc, 0, none⟩ = some (.func (.func 58) #[] #[])) (hgl : w.cell? ⟨gl, 0, none⟩ = some (.slice A0 n c0)) (hi1 : i < n) (hj1 : j < n) :
    Calls Try.prog 89 #[.int .i64 (i : Int), .int .i64 (j : Int), .pointer (some ⟨gc, 0, none⟩), .pointer (some ⟨gl, 0, none⟩)] w fun e w' => ∃ r, e = .returned (.int .i64 r) ∧ decide (r < 0) = upP false ts (i : Int) (j : Int) ∧ Below w.heap.size w w' := by
  obtain ⟨bq, oq, x, y, z, rfl, _, _, hx, p0, p1, p2⟩ := hs.tri (k := i) (by rw [hn]; exact hi1)
  obtain ⟨b2, o2, x2, y2, z2, hA2, _, _, hx2, r0, r1, r2⟩ := hs.tri (k := j) (by rw [hn]; exact hj1)
  obtain ⟨rfl, rfl⟩ : bq = b2 ∧ oq = o2 := by injection hA2 with hA; injection hA with h1 h2; exact ⟨h1, h2⟩
  have HIT := Lib.hid (hg.all _ (List.mem_of_getElem? hx))
  have HIT2 := Lib.hid (hg.all _ (List.mem_of_getElem? hx2))
  have HUP := Lib.hid (show bef2 false x y z x2 y2 z2 = upP false ts (i : Int) (j : Int) by have h1 := itm_w hx; have h2 := itm_w hx2; rw [upP, h1.1, h1.2.1, h1.2.2, h2.1, h2.2.1, h2.2.2])
  have hin : (i : Int) < (n : Int) := by omega
  have hjn : (j : Int) < (n : Int) := by omega
  clear hA2 hx hx2 hs hn hg
  go_enter Try.func89, Try.ntmps89
  go_wp2_with fail
  refine wp_region_held_drew (S := (fun wq => Below w.heap.size w wq ∧ wq.cell? ⟨gc, 0, none⟩ = some (.func (.func 58) #[] #[]) ∧ wq.cell? ⟨gl, 0, none⟩ = some (.slice (some ⟨bq, oq, none⟩) n c0) ∧ (wq.cell? ⟨bq, oq + i * 3, none⟩ = some (.int .i64 x) ∧ wq.cell? ⟨bq, oq + i * 3 + 1, none⟩ = some (.int .i64 y) ∧ wq.cell? ⟨bq, oq + i * 3 + 2, none⟩ = some (.int .i64 z)) ∧ wq.cell? ⟨bq, oq + j * 3, none⟩ = some (.int .i64 x2) ∧ wq.cell? ⟨bq, oq + j * 3 + 1, none⟩ = some (.int .i64 y2) ∧ wq.cell? ⟨bq, oq + j * 3 + 2, none⟩ = some (.int .i64 z2))) (by kernel_rfl) ⟨(Below.refl w.heap.size w).drew, hgc, hgl, ⟨p0, p1, p2⟩, r0, r1, r2⟩ (fun hH0 => ?_)
  refine wpAnyH_take (i := 0) (v := ?_) (ops_at rfl) (by kernel_rfl) (by kernel_rfl) (by kernel_rfl) (fun _ _ _ h => h) (Or.inl ⟨by rfl, ?ya0⟩) (by assumption) ?na0
  case ya0 => (intro wS hSw; (try dsimp only at hSw); go_simp; try rfl)
  try simp only [Act.put, List.setIfInBounds_toArray, List.set_cons_zero, List.set_cons_succ]
  refine wpAnyH_take (i := 1) (v := ?_) (ops_at rfl) (by kernel_rfl) (by kernel_rfl) (by kernel_rfl) (fun _ _ _ h => h) (Or.inl ⟨by rfl, ?ya1⟩) (by assumption) ?na1
  case ya1 => (intro wS hSw; (try dsimp only at hSw); go_simp; try rfl)
  try simp only [Act.put, List.setIfInBounds_toArray, List.set_cons_zero, List.set_cons_succ]
  refine wpAnyH_take (i := 2) (v := ?_) (ops_at rfl) (by kernel_rfl) (by kernel_rfl) (by kernel_rfl) (fun _ _ _ h => h) (Or.inl ⟨by rfl, ?ya2⟩) (by assumption) ?na2
  case ya2 => (intro wS hSw; (try dsimp only at hSw); go_simp; try rfl)
  try simp only [Act.put, List.setIfInBounds_toArray, List.set_cons_zero, List.set_cons_succ]
  refine wpAnyH_take (i := 3) (v := ?_) (ops_at rfl) (by kernel_rfl) (by kernel_rfl) (by kernel_rfl) (fun _ _ _ h => h) (Or.inl ⟨by rfl, ?ya3⟩) (by assumption) ?na3
  case ya3 => (intro wS hSw; (try dsimp only at hSw); go_simp; try rfl)
  try simp only [Act.put, List.setIfInBounds_toArray, List.set_cons_zero, List.set_cons_succ]
  refine wpAnyH_take (i := 4) (v := ?_) (ops_at rfl) (by kernel_rfl) (by kernel_rfl) (by kernel_rfl) (fun _ _ _ h => h) (Or.inl ⟨by rfl, ?ya4⟩) (by assumption) ?na4
  case ya4 => (intro wS hSw; (try dsimp only at hSw); go_simp; try rfl)
  try simp only [Act.put, List.setIfInBounds_toArray, List.set_cons_zero, List.set_cons_succ]
  refine wpAnyH_take (i := 5) (v := ?_) (ops_at rfl) (by kernel_rfl) (by kernel_rfl) (by kernel_rfl) (fun _ _ _ h => h) (Or.inl ⟨by rfl, ?ya5⟩) (by assumption) ?na5
  case ya5 => (intro wS hSw; (try dsimp only at hSw); go_simp; try rfl)
  try simp only [Act.put, List.setIfInBounds_toArray, List.set_cons_zero, List.set_cons_succ]
  refine wpAnyH_take (i := 6) (v := ?_) (ops_at rfl) (by kernel_rfl) (by kernel_rfl) (by kernel_rfl) (fun _ _ _ h => h) (Or.inl ⟨by rfl, ?ya6⟩) (by assumption) ?na6
  case ya6 => (intro wS hSw; (try dsimp only at hSw); go_simp; try rfl)
  try simp only [Act.put, List.setIfInBounds_toArray, List.set_cons_zero, List.set_cons_succ]
  refine wpAnyH_take (i := 7) (v := ?_) (ops_at rfl) (by kernel_rfl) (by kernel_rfl) (by kernel_rfl) (fun _ _ _ h => h) (Or.inl ⟨by rfl, ?ya7⟩) (by assumption) ?na7
  case ya7 => (intro wS hSw; (try dsimp only at hSw); go_simp; try rfl)
  try simp only [Act.put, List.setIfInBounds_toArray, List.set_cons_zero, List.set_cons_succ]
  refine wpAnyH_take (i := 8) (v := ?_) (ops_at rfl) (by kernel_rfl) (by kernel_rfl) (by kernel_rfl) (fun _ _ _ h => h) (Or.inl ⟨by rfl, ?ya8⟩) (by assumption) ?na8
  case ya8 => (intro wS hSw; (try dsimp only at hSw); go_simp; try rfl)
  try simp only [Act.put, List.setIfInBounds_toArray, List.set_cons_zero, List.set_cons_succ]
  refine wpAnyH_take (i := 9) (v := ?_) (ops_at rfl) (by kernel_rfl) (by kernel_rfl) (by kernel_rfl) (fun _ _ _ h => h) (Or.inl ⟨by rfl, ?ya9⟩) (by assumption) ?na9
  case ya9 => (intro wS hSw; (try dsimp only at hSw); go_simp; try rfl)
  try simp only [Act.put, List.setIfInBounds_toArray, List.set_cons_zero, List.set_cons_succ]
  refine wpAnyH_take (i := 10) (v := ?_) (ops_at rfl) (by kernel_rfl) (by kernel_rfl) (by kernel_rfl) (fun _ _ _ h => h) (Or.inl ⟨by rfl, ?ya10⟩) (by assumption) ?na10
  case ya10 => (intro wS hSw; (try dsimp only at hSw); go_simp; try rfl)
  try simp only [Act.put, List.setIfInBounds_toArray, List.set_cons_zero, List.set_cons_succ]
  refine wpAnyH_ready (rs := [11]) (by kernel_rfl) (by simp) ?_
  refine AllReadyH.cons (ops_at rfl) (fun K hK => ?_) AllReadyH.nil
  go_simp
  refine (cmpV_any x y z x2 y2 z2 _).mono ?_
  rintro e wb ⟨r, rfl, hr, hbb⟩
  have HR := Lib.hid hr
  dsimp only
  refine hK.out _ _ ⟨hH0.1.trans (hbb.mono hH0.1.size), (hbb.cell (cell_lt hH0.2.1)).trans hH0.2.1, (hbb.cell (cell_lt hH0.2.2.1)).trans hH0.2.2.1, ⟨(hbb.cell (cell_lt hH0.2.2.2.1.1)).trans hH0.2.2.2.1.1, (hbb.cell (cell_lt hH0.2.2.2.1.2.1)).trans hH0.2.2.2.1.2.1, (hbb.cell (cell_lt hH0.2.2.2.1.2.2)).trans hH0.2.2.2.1.2.2⟩, (hbb.cell (cell_lt hH0.2.2.2.2.1)).trans hH0.2.2.2.2.1, (hbb.cell (cell_lt hH0.2.2.2.2.2.1)).trans hH0.2.2.2.2.2.1, (hbb.cell (cell_lt hH0.2.2.2.2.2.2)).trans hH0.2.2.2.2.2.2⟩ (fun hHb => ?_)
  clear hK K hr
  refine wpAnyH_take (i := 12) (v := ?_) (ops_at rfl) (by kernel_rfl) (by kernel_rfl) (by kernel_rfl) (fun _ _ _ h => h) (Or.inl ⟨by rfl, ?yb12⟩) (by assumption) ?nb12
  case yb12 => (intro wS hSw; (try dsimp only at hSw); go_simp; try rfl)
  try simp only [Act.put, List.setIfInBounds_toArray, List.set_cons_zero, List.set_cons_succ]
  refine wpAnyH_done (by kernel_rfl) ?_ _
  go_wp2
  go_ret
  exact ⟨r, rfl, by rw [HR.out]; exact HUP.out, hHb.1⟩

set_option maxRecDepth 100000 in
set_option maxHeartbeats 2000000 in
theorem ordR_any (gc gl n c0 : Nat) (A0 : Option Addr) (ts : List (Int × Int × Int)) (lo hi : Nat) (i j : Nat) (w : World) (hn : ts.length = n) (hg : OkI ts) (hs : Seg w lo hi A0 (flat3 ts)) (hgc : w.cell? ⟨gc, 0, none⟩ = some (.func (.func 60) #[] #[])) (hgl : w.cell? ⟨gl, 0, none⟩ = some (.slice A0 n c0)) (hi1 : i < n) (hj1 : j < n) :
    Calls Try.prog 89 #[.int .i64 (i : Int), .int .i64 (j : Int), .pointer (some ⟨gc, 0, none⟩), .pointer (some ⟨gl, 0, none⟩)] w fun e w' => ∃ r, e = .returned (.int .i64 r) ∧ decide (r < 0) = upP true ts (i : Int) (j : Int) ∧ Below w.heap.size w w' := by
  obtain ⟨bq, oq, x, y, z, rfl, _, _, hx, p0, p1, p2⟩ := hs.tri (k := i) (by rw [hn]; exact hi1)
  obtain ⟨b2, o2, x2, y2, z2, hA2, _, _, hx2, r0, r1, r2⟩ := hs.tri (k := j) (by rw [hn]; exact hj1)
  obtain ⟨rfl, rfl⟩ : bq = b2 ∧ oq = o2 := by injection hA2 with hA; injection hA with h1 h2; exact ⟨h1, h2⟩
  have HIT := Lib.hid (hg.all _ (List.mem_of_getElem? hx))
  have HIT2 := Lib.hid (hg.all _ (List.mem_of_getElem? hx2))
  have HUP := Lib.hid (show bef2 true x y z x2 y2 z2 = upP true ts (i : Int) (j : Int) by have h1 := itm_w hx; have h2 := itm_w hx2; rw [upP, h1.1, h1.2.1, h1.2.2, h2.1, h2.2.1, h2.2.2])
  have hin : (i : Int) < (n : Int) := by omega
  have hjn : (j : Int) < (n : Int) := by omega
  clear hA2 hx hx2 hs hn hg
  go_enter Try.func89, Try.ntmps89
  go_wp2_with fail
  refine wp_region_held_drew (S := (fun wq => Below w.heap.size w wq ∧ wq.cell? ⟨gc, 0, none⟩ = some (.func (.func 60) #[] #[]) ∧ wq.cell? ⟨gl, 0, none⟩ = some (.slice (some ⟨bq, oq, none⟩) n c0) ∧ (wq.cell? ⟨bq, oq + i * 3, none⟩ = some (.int .i64 x) ∧ wq.cell? ⟨bq, oq + i * 3 + 1, none⟩ = some (.int .i64 y) ∧ wq.cell? ⟨bq, oq + i * 3 + 2, none⟩ = some (.int .i64 z)) ∧ wq.cell? ⟨bq, oq + j * 3, none⟩ = some (.int .i64 x2) ∧ wq.cell? ⟨bq, oq + j * 3 + 1, none⟩ = some (.int .i64 y2) ∧ wq.cell? ⟨bq, oq + j * 3 + 2, none⟩ = some (.int .i64 z2))) (by kernel_rfl) ⟨(Below.refl w.heap.size w).drew, hgc, hgl, ⟨p0, p1, p2⟩, r0, r1, r2⟩ (fun hH0 => ?_)
  refine wpAnyH_take (i := 0) (v := ?_) (ops_at rfl) (by kernel_rfl) (by kernel_rfl) (by kernel_rfl) (fun _ _ _ h => h) (Or.inl ⟨by rfl, ?ya0⟩) (by assumption) ?na0
  case ya0 => (intro wS hSw; (try dsimp only at hSw); go_simp; try rfl)
  try simp only [Act.put, List.setIfInBounds_toArray, List.set_cons_zero, List.set_cons_succ]
  refine wpAnyH_take (i := 1) (v := ?_) (ops_at rfl) (by kernel_rfl) (by kernel_rfl) (by kernel_rfl) (fun _ _ _ h => h) (Or.inl ⟨by rfl, ?ya1⟩) (by assumption) ?na1
  case ya1 => (intro wS hSw; (try dsimp only at hSw); go_simp; try rfl)
  try simp only [Act.put, List.setIfInBounds_toArray, List.set_cons_zero, List.set_cons_succ]
  refine wpAnyH_take (i := 2) (v := ?_) (ops_at rfl) (by kernel_rfl) (by kernel_rfl) (by kernel_rfl) (fun _ _ _ h => h) (Or.inl ⟨by rfl, ?ya2⟩) (by assumption) ?na2
  case ya2 => (intro wS hSw; (try dsimp only at hSw); go_simp; try rfl)
  try simp only [Act.put, List.setIfInBounds_toArray, List.set_cons_zero, List.set_cons_succ]
  refine wpAnyH_take (i := 3) (v := ?_) (ops_at rfl) (by kernel_rfl) (by kernel_rfl) (by kernel_rfl) (fun _ _ _ h => h) (Or.inl ⟨by rfl, ?ya3⟩) (by assumption) ?na3
  case ya3 => (intro wS hSw; (try dsimp only at hSw); go_simp; try rfl)
  try simp only [Act.put, List.setIfInBounds_toArray, List.set_cons_zero, List.set_cons_succ]
  refine wpAnyH_take (i := 4) (v := ?_) (ops_at rfl) (by kernel_rfl) (by kernel_rfl) (by kernel_rfl) (fun _ _ _ h => h) (Or.inl ⟨by rfl, ?ya4⟩) (by assumption) ?na4
  case ya4 => (intro wS hSw; (try dsimp only at hSw); go_simp; try rfl)
  try simp only [Act.put, List.setIfInBounds_toArray, List.set_cons_zero, List.set_cons_succ]
  refine wpAnyH_take (i := 5) (v := ?_) (ops_at rfl) (by kernel_rfl) (by kernel_rfl) (by kernel_rfl) (fun _ _ _ h => h) (Or.inl ⟨by rfl, ?ya5⟩) (by assumption) ?na5
  case ya5 => (intro wS hSw; (try dsimp only at hSw); go_simp; try rfl)
  try simp only [Act.put, List.setIfInBounds_toArray, List.set_cons_zero, List.set_cons_succ]
  refine wpAnyH_take (i := 6) (v := ?_) (ops_at rfl) (by kernel_rfl) (by kernel_rfl) (by kernel_rfl) (fun _ _ _ h => h) (Or.inl ⟨by rfl, ?ya6⟩) (by assumption) ?na6
  case ya6 => (intro wS hSw; (try dsimp only at hSw); go_simp; try rfl)
  try simp only [Act.put, List.setIfInBounds_toArray, List.set_cons_zero, List.set_cons_succ]
  refine wpAnyH_take (i := 7) (v := ?_) (ops_at rfl) (by kernel_rfl) (by kernel_rfl) (by kernel_rfl) (fun _ _ _ h => h) (Or.inl ⟨by rfl, ?ya7⟩) (by assumption) ?na7
  case ya7 => (intro wS hSw; (try dsimp only at hSw); go_simp; try rfl)
  try simp only [Act.put, List.setIfInBounds_toArray, List.set_cons_zero, List.set_cons_succ]
  refine wpAnyH_take (i := 8) (v := ?_) (ops_at rfl) (by kernel_rfl) (by kernel_rfl) (by kernel_rfl) (fun _ _ _ h => h) (Or.inl ⟨by rfl, ?ya8⟩) (by assumption) ?na8
  case ya8 => (intro wS hSw; (try dsimp only at hSw); go_simp; try rfl)
  try simp only [Act.put, List.setIfInBounds_toArray, List.set_cons_zero, List.set_cons_succ]
  refine wpAnyH_take (i := 9) (v := ?_) (ops_at rfl) (by kernel_rfl) (by kernel_rfl) (by kernel_rfl) (fun _ _ _ h => h) (Or.inl ⟨by rfl, ?ya9⟩) (by assumption) ?na9
  case ya9 => (intro wS hSw; (try dsimp only at hSw); go_simp; try rfl)
  try simp only [Act.put, List.setIfInBounds_toArray, List.set_cons_zero, List.set_cons_succ]
  refine wpAnyH_take (i := 10) (v := ?_) (ops_at rfl) (by kernel_rfl) (by kernel_rfl) (by kernel_rfl) (fun _ _ _ h => h) (Or.inl ⟨by rfl, ?ya10⟩) (by assumption) ?na10
  case ya10 => (intro wS hSw; (try dsimp only at hSw); go_simp; try rfl)
  try simp only [Act.put, List.setIfInBounds_toArray, List.set_cons_zero, List.set_cons_succ]
  refine wpAnyH_ready (rs := [11]) (by kernel_rfl) (by simp) ?_
  refine AllReadyH.cons (ops_at rfl) (fun K hK => ?_) AllReadyH.nil
  go_simp
  refine (cmpR_any x y z x2 y2 z2 _ HIT.out HIT2.out).mono ?_
  rintro e wb ⟨r, rfl, hr, hbb⟩
  have HR := Lib.hid hr
  dsimp only
  refine hK.out _ _ ⟨hH0.1.trans (hbb.mono hH0.1.size), (hbb.cell (cell_lt hH0.2.1)).trans hH0.2.1, (hbb.cell (cell_lt hH0.2.2.1)).trans hH0.2.2.1, ⟨(hbb.cell (cell_lt hH0.2.2.2.1.1)).trans hH0.2.2.2.1.1, (hbb.cell (cell_lt hH0.2.2.2.1.2.1)).trans hH0.2.2.2.1.2.1, (hbb.cell (cell_lt hH0.2.2.2.1.2.2)).trans hH0.2.2.2.1.2.2⟩, (hbb.cell (cell_lt hH0.2.2.2.2.1)).trans hH0.2.2.2.2.1, (hbb.cell (cell_lt hH0.2.2.2.2.2.1)).trans hH0.2.2.2.2.2.1, (hbb.cell (cell_lt hH0.2.2.2.2.2.2)).trans hH0.2.2.2.2.2.2⟩ (fun hHb => ?_)
  clear hK K hr
  refine wpAnyH_take (i := 12) (v := ?_) (ops_at rfl) (by kernel_rfl) (by kernel_rfl) (by kernel_rfl) (fun _ _ _ h => h) (Or.inl ⟨by rfl, ?yb12⟩) (by assumption) ?nb12
  case yb12 => (intro wS hSw; (try dsimp only at hSw); go_simp; try rfl)
  try simp only [Act.put, List.setIfInBounds_toArray, List.set_cons_zero, List.set_cons_succ]
  refine wpAnyH_done (by kernel_rfl) ?_ _
  go_wp2
  go_ret
  exact ⟨r, rfl, by rw [HR.out]; exact HUP.out, hHb.1⟩

set_option maxRecDepth 100000 in
set_option maxHeartbeats 4000000 in
theorem packV_any (A0 : Option Addr) (n c0 : Nat) (W B : Int) (ts : List (Int × Int × Int)) (lo hi : Nat) (w : World) (hn : ts.length = n) (h1 : 1 ≤ n) (hg : OkI ts) (hs : Seg w lo hi A0 (flat3 ts)) (hB : hi ≤ w.heap.size) (hW : 0 ≤ W ∧ W ≤ 200) (hBB : 0 ≤ B ∧ B ≤ 200) :
    Calls Try.prog 57 #[.agg #[.slice A0 n c0, .int .i64 W, .int .i64 B], .func (.func 58) #[] #[]] w fun e w' => ∃ A' n' c', e = .returned (.slice A' n' c') ∧ (packP false ts W B).length = n' ∧ Own w' w.heap.size w'.heap.size A' (packP false ts W B) ∧ Below w.heap.size w w' := by
  obtain ⟨i0, hi0, hz0, hz1, hz2⟩ := info_parts int_info
  have h10 : n ≤ 10 := by rw [← hn]; exact hg.len
  have HN := Lib.hid hn
  have HG := Lib.hid hg
  have HS := Lib.hid hs
  obtain ⟨W0, hW0⟩ : ∃ W0, (w.alloc (.cells #[.slice A0 n c0, .int .i64 W, .int .i64 B] 67)).alloc (.cells #[.func (.func 58) #[] #[]] 78) = W0 := ⟨_, rfl⟩
  have hb0 : Below w.heap.size w W0 := by rw [← hW0]; exact ((Below.refl _ _).alloc (Nat.le_refl _) _).alloc (by simp) _
  have hzW : w.heap.size + 2 ≤ W0.heap.size := by rw [← hW0]; simp
  have l0 : W0.heap[w.heap.size]? = some (.cells #[.slice A0 n c0, .int .i64 W, .int .i64 B] 67 (0, 0)) := by rw [← hW0]; exact (alloc_old _ (by simp) _).trans (new_at _ _ rfl)
  have f0 : W0.heap[w.heap.size + 1]? = some (.cells #[.func (.func 58) #[] #[]] 78 (0, 0)) := by rw [← hW0]; exact new_at _ _ (by simp)
  have c0' := cell_of l0 0
  rw [← hW0] at c0'
  have HB0 := Lib.hid hb0
  have HL0 := Lib.hid l0
  have HF0 := Lib.hid f0
  have HW0 := Lib.hid hW0
  clear hn hg hs hb0 l0 f0 hW0
  go_enter Try.func57, Try.ntmps57
  go_wp2_with fail
  rw [HW0.out]
  clear c0'
  refine (numbersBelow_any n W0 (by omega)).mono ?_
  rintro e w1 ⟨rfl, harr, hb1⟩
  have HB1 := Lib.hid (HB0.out.trans (hb1.mono (by omega)))
  have hz1w : W0.heap.size < w1.heap.size := harr.lt
  have HROW := Lib.hid harr.row
  have HL1 := Lib.hid ((hb1.block _ (by omega)).trans HL0.out)
  have HF1 := Lib.hid ((hb1.block _ (by omega)).trans HF0.out)
  clear harr hb1
  go_wp2_with fail
  refine (sortP_any (upP false ts) n (w.heap.size + 1) w.heap.size W0.heap.size 3 _ n n (below n) w1 (Lib.hid (fun V i j hV hi1 hj1 => ?_)) (fun b hb => below_mem hb) (below_length n) h1 (by omega) HROW.out).mono ?_
  · have hVB : Below w.heap.size w V := HB1.out.trans (hV.below (by omega) (fun k hk => by have : k = W0.heap.size := hk; omega))
    have q0 := (hV.block _ (by omega) (by show ¬ w.heap.size = W0.heap.size; omega)).trans HL1.out
    have q1 := (hV.block _ (by omega) (by show ¬ w.heap.size + 1 = W0.heap.size; omega)).trans HF1.out
    exact ordV_any (w.heap.size + 1) w.heap.size n c0 A0 ts lo hi i j V HN.out HG.out (HS.out.below hVB hB) ((cell_of q1 0).trans rfl) ((cell_of q0 0).trans rfl) hi1 hj1
  rintro e w2 ⟨rfl, hrow2, honly2⟩
  have HB2 := Lib.hid (HB1.out.trans (honly2.below (B := w.heap.size) (by omega) (fun k hk => by have : k = W0.heap.size := hk; omega)))
  have hz2w := honly2.size
  have HROW2 := Lib.hid (show Row w2 W0.heap.size 3 _ (ordP false ts) by rw [ordP, HN.out]; exact hrow2)
  have HL2 := Lib.hid ((honly2.block _ (by omega) (by show ¬ w.heap.size = W0.heap.size; omega)).trans HL1.out)
  clear hrow2 honly2
  obtain ⟨wz, hwz⟩ : ∃ wz, w2.alloc (.cells #[.int .i64 W, .int .i64 B] 41) = wz := ⟨_, rfl⟩
  obtain ⟨Pr, hPr⟩ : ∃ Pr, w2.heap.size = Pr := ⟨_, rfl⟩
  have hzz : Pr + 1 ≤ wz.heap.size := by rw [← hwz, ← hPr]; simp
  have hbz : Below w2.heap.size w2 wz := by rw [← hwz]; exact (Below.refl _ _).alloc (Nat.le_refl _) _
  have HRM0 := Lib.hid (show wz.heap[Pr]? = some (.cells #[.int .i64 W, .int .i64 B] 41 (0, 0)) by rw [← hwz, ← hPr]; exact new_at _ _ rfl)
  have HBZ := Lib.hid (HB2.out.trans (hbz.mono (by omega)))
  have HLZ := Lib.hid ((hbz.block _ (by omega)).trans HL2.out)
  have HRZ := Lib.hid (HROW2.out.keep (hbz.block _ HROW2.out.lt))
  have l1 := cell_of HL2.out 1
  have l2 := cell_of HL2.out 2
  have HWZ := Lib.hid hwz
  have hPw : w.heap.size + 2 ≤ Pr := by omega
  have hPW0 : W0.heap.size < Pr := by omega
  clear hwz hbz
  go_wp2
  rw [HWZ.out]
  clear l1 l2
  go_loopw [6, 9, 21] (fun v _ i wr => ∃ k2 : Nat, k2 ≤ n ∧ i = .int .i64 (k2 : Int) ∧ ∃ m, (chP ts W B ((ordP false ts).take k2)).length = m ∧ Only (RN Pr wz.heap.size) wz wr ∧ wr.ownsRow wz.heap.size 3 1 v m ((chP ts W B ((ordP false ts).take k2)).map (Value.int .i64)) ∧ wr.heap[Pr]? = some (.cells #[.int .i64 (W - sumF (wI ts) (chP ts W B ((ordP false ts).take k2))), .int .i64 (B - sumF (bI ts) (chP ts W B ((ordP false ts).take k2)))] 41 (0, 0))) (fun _ _ i _ => n - (intOf i).toNat)
  case atStart => exact ⟨0, Nat.zero_le _, rfl, 0, rfl, Only.refl _ _, World.ownsRow_nil _ _ _ _, by have h := HRM0.out; simpa [chP, sumF] using h⟩
  case round =>
    obtain ⟨k2, hk2, rfl, m, hm, honly, hown, hrb⟩ := hrel
    obtain ⟨A2, c2, rfl⟩ := ownsRow_form hown
    have hzr := honly.size
    have hm10 : m ≤ 10 := by have := chP_len (ra := false) (ts := ts) (W := W) (B := B) k2; rw [hm, HN.out] at this; omega
    have HM := Lib.hid hm
    have HON := Lib.hid honly
    have HOW := Lib.hid hown
    have HBP := Lib.hid (honly.below (B := Pr) (by omega) (fun k hk => by rcases hk with hk | hk <;> omega))
    have HBR := Lib.hid (HBZ.out.trans (HBP.out.mono (by omega)))
    clear hm honly hown
    by_cases hlt : k2 < n
    · obtain ⟨x0, hx0⟩ : ∃ x0, (ordP false ts)[k2]? = some x0 := ⟨_, List.getElem?_eq_getElem (by rw [ordP_length, HN.out]; exact hlt)⟩
      have hxm := ordP_mem (List.mem_of_getElem? hx0)
      rw [HN.out] at hxm
      obtain ⟨kn, rfl⟩ : ∃ kn : Nat, x0 = (kn : Int) := ⟨x0.toNat, by omega⟩
      have hkn : kn < n := by omega
      have hkn' : (kn : Int) < (n : Int) := by omega
      have hlt' : (k2 : Int) < (n : Int) := by omega
      have oc := (World.cell?_of_block (HBP.out.block W0.heap.size hPW0)).trans (HRZ.out.cell hx0)
      obtain ⟨bq, oq, x, y, z, rfl, hbq0, hbq, hx, p0, p1, p2⟩ := (HS.out.below HBR.out hB).tri (k := kn) (by rw [HN.out]; exact hkn)
      have hit := itB_true.1 (HG.out.all _ (List.mem_of_getElem? hx))
      simp only [] at hit
      obtain ⟨hx200, hy200, hz200⟩ := hit
      have hws := itm_w hx
      obtain ⟨Wr, hWr⟩ : ∃ Wr, W - sumF (wI ts) (chP ts W B ((ordP false ts).take k2)) = Wr := ⟨_, rfl⟩
      obtain ⟨Br, hBr⟩ : ∃ Br, B - sumF (bI ts) (chP ts W B ((ordP false ts).take k2)) = Br := ⟨_, rfl⟩
      have hWr1 : Wr ≤ 200 := by have := (sumF_bd (wI_f HG.out) (chP ts W B ((ordP false ts).take k2))).1; omega
      have hBr1 : Br ≤ 200 := by have := (sumF_bd (bI_f HG.out) (chP ts W B ((ordP false ts).take k2))).1; omega
      rw [hWr, hBr] at hrb
      have HRB := Lib.hid hrb
      have HRM := Lib.hid (And.intro ((cell_of hrb 0).trans rfl) ((cell_of hrb 1).trans rfl) : wr.cell? ⟨Pr, 0, none⟩ = some (.int .i64 Wr) ∧ wr.cell? ⟨Pr, 1, none⟩ = some (.int .i64 Br))
      have HLG := Lib.hid ((World.cell?_of_block (HBP.out.block w.heap.size (by omega))).trans ((cell_of HLZ.out 0).trans rfl) : wr.cell? ⟨w.heap.size, 0, none⟩ = some (.slice (some ⟨bq, oq, none⟩) n c0))
      have HIC := Lib.hid (And.intro p0 (And.intro p1 p2))
      have HWr := Lib.hid hWr
      have HBr := Lib.hid hBr
      have hbqP : bq < Pr := by omega
      clear p0 p1 p2 hrb
      by_cases hf : x ≤ Wr ∧ y ≤ Br
      · have HCN := Lib.hid (chP_yes hx0 (by rw [hws.1, hWr]; exact hf.1) (by rw [hws.2.1, hBr]; exact hf.2))
        have HSW := Lib.hid (show W - sumF (wI ts) (chP ts W B ((ordP false ts).take k2) ++ [(kn : Int)]) = Wr - x by rw [sumF_snoc, hws.1]; omega)
        have HSB := Lib.hid (show B - sumF (bI ts) (chP ts W B ((ordP false ts).take k2) ++ [(kn : Int)]) = Br - y by rw [sumF_snoc, hws.2.1]; omega)
        have HFQ := Lib.hid (show (decide (x ≤ Wr) && decide (y ≤ Br)) = true by rw [decide_eq_true hf.1, decide_eq_true hf.2]; rfl)
        have HBD := Lib.hid (show (0 ≤ Wr ∧ Wr ≤ 4000) ∧ (0 ≤ Br ∧ Br ≤ 4000) ∧ (0 ≤ x ∧ x ≤ 4000) ∧ 0 ≤ y ∧ y ≤ 4000 by omega)
        have HX := Lib.hid hx
        clear hf hws hWr hBr hx0 hx hWr1 hBr1 hx200 hy200 hz200 hxm
        go_wp2_with fail
        refine wp_region_held_drew (S := (fun wq => Below wr.heap.size wr wq ∧ (wq.cell? ⟨Pr, 0, none⟩ = some (.int .i64 Wr) ∧ wq.cell? ⟨Pr, 1, none⟩ = some (.int .i64 Br)) ∧ wq.cell? ⟨w.heap.size, 0, none⟩ = some (.slice (some ⟨bq, oq, none⟩) n c0) ∧ wq.cell? ⟨bq, oq + kn * 3, none⟩ = some (.int .i64 x) ∧ wq.cell? ⟨bq, oq + kn * 3 + 1, none⟩ = some (.int .i64 y) ∧ wq.cell? ⟨bq, oq + kn * 3 + 2, none⟩ = some (.int .i64 z))) (by kernel_rfl) ⟨(Below.refl wr.heap.size wr).drew, HRM.out, HLG.out, HIC.out⟩ (fun hH0 => ?_)
        refine wpAnyH_take (i := 0) (v := ?_) (ops_at rfl) (by kernel_rfl) (by kernel_rfl) (by kernel_rfl) (fun _ _ _ h => h) (Or.inl ⟨by rfl, ?yy0⟩) (by assumption) ?ny0
        case yy0 => (intro wS hSw; (try dsimp only at hSw); go_simp; try rfl)
        try simp only [Act.put, List.setIfInBounds_toArray, List.set_cons_zero, List.set_cons_succ]
        refine wpAnyH_take (i := 1) (v := ?_) (ops_at rfl) (by kernel_rfl) (by kernel_rfl) (by kernel_rfl) (fun _ _ _ h => h) (Or.inl ⟨by rfl, ?yy1⟩) (by assumption) ?ny1
        case yy1 => (intro wS hSw; (try dsimp only at hSw); go_simp; try rfl)
        try simp only [Act.put, List.setIfInBounds_toArray, List.set_cons_zero, List.set_cons_succ]
        refine wpAnyH_take (i := 2) (v := ?_) (ops_at rfl) (by kernel_rfl) (by kernel_rfl) (by kernel_rfl) (fun _ _ _ h => h) (Or.inl ⟨by rfl, ?yy2⟩) (by assumption) ?ny2
        case yy2 => (intro wS hSw; (try dsimp only at hSw); go_simp; try rfl)
        try simp only [Act.put, List.setIfInBounds_toArray, List.set_cons_zero, List.set_cons_succ]
        refine wpAnyH_take (i := 3) (v := ?_) (ops_at rfl) (by kernel_rfl) (by kernel_rfl) (by kernel_rfl) (fun _ _ _ h => h) (Or.inl ⟨by rfl, ?yy3⟩) (by assumption) ?ny3
        case yy3 => (intro wS hSw; (try dsimp only at hSw); go_simp; try rfl)
        try simp only [Act.put, List.setIfInBounds_toArray, List.set_cons_zero, List.set_cons_succ]
        refine wpAnyH_take (i := 4) (v := ?_) (ops_at rfl) (by kernel_rfl) (by kernel_rfl) (by kernel_rfl) (fun _ _ _ h => h) (Or.inl ⟨by rfl, ?yy4⟩) (by assumption) ?ny4
        case yy4 => (intro wS hSw; (try dsimp only at hSw); go_simp; try rfl)
        try simp only [Act.put, List.setIfInBounds_toArray, List.set_cons_zero, List.set_cons_succ]
        refine wpAnyH_take (i := 5) (v := ?_) (ops_at rfl) (by kernel_rfl) (by kernel_rfl) (by kernel_rfl) (fun _ _ _ h => h) (Or.inl ⟨by rfl, ?yy5⟩) (by assumption) ?ny5
        case yy5 => (intro wS hSw; (try dsimp only at hSw); go_simp; try rfl)
        try simp only [Act.put, List.setIfInBounds_toArray, List.set_cons_zero, List.set_cons_succ]
        refine wpAnyH_ready (rs := [6]) (by kernel_rfl) (by simp) ?_
        refine AllReadyH.cons (ops_at rfl) (fun K hK => ?_) AllReadyH.nil
        go_simp
        refine (holds_any Wr Br x y z _ true HFQ.out).mono ?_
        rintro e wb ⟨rfl, hbb1⟩
        dsimp only
        refine hK.out _ _ (keepPk hH0 hbb1 hH0.1.size) (fun hHb => ?_)
        clear hK K
        refine wpAnyH_done (by kernel_rfl) ?_ _
        have HWB := Lib.hid hHb.1
        have HOW6 := Lib.hid ((row_below HOW.out hHb.1).alloc (.cells #[.int .i64 (kn : Int)] 3))
        have HLT6 := Lib.hid HOW6.out.lt
        have HRB2 := Lib.hid ((hHb.1.block _ (heap_lt HRB.out)).trans HRB.out)
        have hzb := hHb.1.size
        have HHB := Lib.hid hHb.2
        have HON2 := Lib.hid (HON.out.trans (Only.of_below (S := RN Pr wz.heap.size) hHb.1 (Nat.le_refl _)))
        clear hHb hH0 hbb1
        go_wp2_with (at_builtin; refine wpList_append_seg _ rfl _ _ 22 rfl wz.heap.size 3 i0 Try.underlying22 hi0 hz0 hz1 hz2 _ m _ rfl HOW6.out _ 1 1 [(kn : Int)] _ _ rfl rfl (seg_one wb (kn : Int) 3) (by omega) (by simp; omega) ?_; intro v3 w3 hown3 hgr3; have HOW3 := Lib.hid (show w3.ownsRow wz.heap.size 3 1 v3 (m + 1) ((chP ts W B ((ordP false ts).take k2) ++ [(kn : Int)]).map (Value.int .i64)) by rw [List.map_append]; exact hown3); have HG3 := Lib.hid hgr3; clear hown3 hgr3; obtain ⟨A3, c3, rfl⟩ := ownsRow_form HOW3.out)
        have HP3 := Lib.hid (((Below.refl Pr wb).alloc (by omega) (.cells #[.int .i64 (kn : Int)] 3)).grown HG3.out (by simp; omega) (fun g' hg' => by have := (HLT6.out g' hg').1; omega))
        have hr3 := (HG3.out.block Pr (by simp; omega) (fun e => by have := (HLT6.out _ e.symm).1; omega)).trans ((alloc_old wb (heap_lt HRB2.out) (.cells #[.int .i64 (kn : Int)] 3)).trans HRB2.out)
        have HRB3 := Lib.hid hr3
        have HON3 := Lib.hid (only_grown2 (HON2.out.alloc (.cells #[.int .i64 (kn : Int)] 3)) HG3.out (fun b hb => .inr (HLT6.out b hb).1))
        have HI3 := Lib.hid (show (fun wq => (wq.cell? ⟨Pr, 0, none⟩ = some (.int .i64 Wr) ∧ wq.cell? ⟨Pr, 1, none⟩ = some (.int .i64 Br)) ∧ wq.cell? ⟨w.heap.size, 0, none⟩ = some (.slice (some ⟨bq, oq, none⟩) n c0) ∧ wq.cell? ⟨bq, oq + kn * 3, none⟩ = some (.int .i64 x) ∧ wq.cell? ⟨bq, oq + kn * 3 + 1, none⟩ = some (.int .i64 y) ∧ wq.cell? ⟨bq, oq + kn * 3 + 2, none⟩ = some (.int .i64 z)) w3 from ⟨⟨cell_of hr3 0, cell_of hr3 1⟩, (World.cell?_of_block (HP3.out.block w.heap.size (by omega))).trans HHB.out.2.1, (World.cell?_of_block (HP3.out.block bq (by omega))).trans HHB.out.2.2.1, (World.cell?_of_block (HP3.out.block bq (by omega))).trans HHB.out.2.2.2.1, (World.cell?_of_block (HP3.out.block bq (by omega))).trans HHB.out.2.2.2.2⟩)
        clear hr3
        go_wp2_with fail
        refine region_E (S := (fun wq => Below w3.heap.size w3 wq ∧ (wq.cell? ⟨Pr, 0, none⟩ = some (.int .i64 Wr) ∧ wq.cell? ⟨Pr, 1, none⟩ = some (.int .i64 Br)) ∧ wq.cell? ⟨w.heap.size, 0, none⟩ = some (.slice (some ⟨bq, oq, none⟩) n c0) ∧ wq.cell? ⟨bq, oq + kn * 3, none⟩ = some (.int .i64 x) ∧ wq.cell? ⟨bq, oq + kn * 3 + 1, none⟩ = some (.int .i64 y) ∧ wq.cell? ⟨bq, oq + kn * 3 + 2, none⟩ = some (.int .i64 z))) 7 (by kernel_rfl) ⟨(Below.refl w3.heap.size w3).drew, HI3.out⟩ (fun hH0 => ?_)
        refine AnyE.take (i := 0) (v := ?_) (ops_at rfl) (by kernel_rfl) (by kernel_rfl) (by kernel_rfl) (by kernel_rfl) (fun _ _ _ h => h) (Or.inl ⟨by rfl, ?ye0⟩) (by assumption) ?ne0
        case ye0 => (intro wS hSw; (try dsimp only at hSw); go_simp; try rfl)
        try simp only [Act.put, List.setIfInBounds_toArray, List.set_cons_zero, List.set_cons_succ]
        refine AnyE.take (i := 1) (v := ?_) (ops_at rfl) (by kernel_rfl) (by kernel_rfl) (by kernel_rfl) (by kernel_rfl) (fun _ _ _ h => h) (Or.inl ⟨by rfl, ?ye1⟩) (by assumption) ?ne1
        case ye1 => (intro wS hSw; (try dsimp only at hSw); go_simp; try rfl)
        try simp only [Act.put, List.setIfInBounds_toArray, List.set_cons_zero, List.set_cons_succ]
        refine AnyE.take (i := 2) (v := ?_) (ops_at rfl) (by kernel_rfl) (by kernel_rfl) (by kernel_rfl) (by kernel_rfl) (fun _ _ _ h => h) (Or.inl ⟨by rfl, ?ye2⟩) (by assumption) ?ne2
        case ye2 => (intro wS hSw; (try dsimp only at hSw); go_simp; try rfl)
        try simp only [Act.put, List.setIfInBounds_toArray, List.set_cons_zero, List.set_cons_succ]
        refine AnyE.take (i := 3) (v := ?_) (ops_at rfl) (by kernel_rfl) (by kernel_rfl) (by kernel_rfl) (by kernel_rfl) (fun _ _ _ h => h) (Or.inl ⟨by rfl, ?ye3⟩) (by assumption) ?ne3
        case ye3 => (intro wS hSw; (try dsimp only at hSw); go_simp; try rfl)
        try simp only [Act.put, List.setIfInBounds_toArray, List.set_cons_zero, List.set_cons_succ]
        refine AnyE.take (i := 4) (v := ?_) (ops_at rfl) (by kernel_rfl) (by kernel_rfl) (by kernel_rfl) (by kernel_rfl) (fun _ _ _ h => h) (Or.inl ⟨by rfl, ?ye4⟩) (by assumption) ?ne4
        case ye4 => (intro wS hSw; (try dsimp only at hSw); go_simp; try rfl)
        try simp only [Act.put, List.setIfInBounds_toArray, List.set_cons_zero, List.set_cons_succ]
        refine AnyE.take (i := 5) (v := ?_) (ops_at rfl) (by kernel_rfl) (by kernel_rfl) (by kernel_rfl) (by kernel_rfl) (fun _ _ _ h => h) (Or.inl ⟨by rfl, ?ye5⟩) (by assumption) ?ne5
        case ye5 => (intro wS hSw; (try dsimp only at hSw); go_simp; try rfl)
        try simp only [Act.put, List.setIfInBounds_toArray, List.set_cons_zero, List.set_cons_succ]
        have hS0 := hH0
        refine AnyE.of_ready (rs := [6]) (by kernel_rfl) (by simp) ?_
        refine ReadyE.cons (ops_at rfl) (fun K hK => ?_) ReadyE.nil
        go_simp
        refine (without_any Wr Br x y z _ HBD.out.1 HBD.out.2.1 HBD.out.2.2.1 HBD.out.2.2.2).mono ?_
        rintro e w4 ⟨rfl, hb4⟩
        dsimp only
        refine hK.out _ _ (fun _ => keepPk hS0 hb4 hS0.1.size) (fun hH4 => ?_)
        clear hK K
        have hS4 := hH4 (by omega)
        have HB4 := Lib.hid hS4.1
        have HRB4 := Lib.hid ((hS4.1.block Pr (heap_lt HRB3.out)).trans HRB3.out)
        have hcr0 := hS4.2.1.1
        have hcr1 := hS4.2.1.2
        have hfr0 := frozen_of HRB4.out 0
        have hfr1 := frozen_of HRB4.out 1
        refine AnyE.of_ready (rs := [7]) (by kernel_rfl) (by simp) ?_
        refine ReadyE.cons (ops_at rfl) (fun K hK => ?_) ReadyE.nil
        go_simp
        refine hK.out _ _ (fun h => absurd rfl h) (fun _ => ?_)
        clear hK K
        refine AnyE.end_ (by kernel_rfl) ?_ _
        clear hcr0 hcr1 hfr0 hfr1 hb4 hS0 hS4 hH0 hH4
        go_wp2
        go_roundw
        case rel => exact ⟨k2 + 1, by omega, by go_num, m + 1, by rw [HCN.out, List.length_append, HM.out]; rfl, (((HON3.out.trans (Only.of_below HB4.out (Nat.le_refl _))).setCell (p := ⟨Pr, 0, none⟩) (.inl rfl) _).setCell (p := ⟨Pr, 1, none⟩) (.inl rfl) _), by rw [HCN.out]; exact row_set (row_set (row_below HOW3.out HB4.out) (by omega) _) (by omega) _, by rw [HCN.out, HSW.out, HSB.out]; exact set_two4 HRB4.out _ _⟩
        case measure => simp [intOf]; omega
      · have HCN := Lib.hid (chP_no hx0 (by rw [hws.1, hws.2.1, hWr, hBr]; exact hf))
        have HFQ := Lib.hid (show (decide (x ≤ Wr) && decide (y ≤ Br)) = false by rw [← Bool.decide_and]; exact decide_eq_false hf)
        clear hf hws hWr hBr hx0 hx hWr1 hBr1 hx200 hy200 hz200 hxm
        go_wp2_with fail
        refine wp_region_held_drew (S := (fun wq => Below wr.heap.size wr wq ∧ (wq.cell? ⟨Pr, 0, none⟩ = some (.int .i64 Wr) ∧ wq.cell? ⟨Pr, 1, none⟩ = some (.int .i64 Br)) ∧ wq.cell? ⟨w.heap.size, 0, none⟩ = some (.slice (some ⟨bq, oq, none⟩) n c0) ∧ wq.cell? ⟨bq, oq + kn * 3, none⟩ = some (.int .i64 x) ∧ wq.cell? ⟨bq, oq + kn * 3 + 1, none⟩ = some (.int .i64 y) ∧ wq.cell? ⟨bq, oq + kn * 3 + 2, none⟩ = some (.int .i64 z))) (by kernel_rfl) ⟨(Below.refl wr.heap.size wr).drew, HRM.out, HLG.out, HIC.out⟩ (fun hH0 => ?_)
        refine wpAnyH_take (i := 0) (v := ?_) (ops_at rfl) (by kernel_rfl) (by kernel_rfl) (by kernel_rfl) (fun _ _ _ h => h) (Or.inl ⟨by rfl, ?yn0⟩) (by assumption) ?nn0
        case yn0 => (intro wS hSw; (try dsimp only at hSw); go_simp; try rfl)
        try simp only [Act.put, List.setIfInBounds_toArray, List.set_cons_zero, List.set_cons_succ]
        refine wpAnyH_take (i := 1) (v := ?_) (ops_at rfl) (by kernel_rfl) (by kernel_rfl) (by kernel_rfl) (fun _ _ _ h => h) (Or.inl ⟨by rfl, ?yn1⟩) (by assumption) ?nn1
        case yn1 => (intro wS hSw; (try dsimp only at hSw); go_simp; try rfl)
        try simp only [Act.put, List.setIfInBounds_toArray, List.set_cons_zero, List.set_cons_succ]
        refine wpAnyH_take (i := 2) (v := ?_) (ops_at rfl) (by kernel_rfl) (by kernel_rfl) (by kernel_rfl) (fun _ _ _ h => h) (Or.inl ⟨by rfl, ?yn2⟩) (by assumption) ?nn2
        case yn2 => (intro wS hSw; (try dsimp only at hSw); go_simp; try rfl)
        try simp only [Act.put, List.setIfInBounds_toArray, List.set_cons_zero, List.set_cons_succ]
        refine wpAnyH_take (i := 3) (v := ?_) (ops_at rfl) (by kernel_rfl) (by kernel_rfl) (by kernel_rfl) (fun _ _ _ h => h) (Or.inl ⟨by rfl, ?yn3⟩) (by assumption) ?nn3
        case yn3 => (intro wS hSw; (try dsimp only at hSw); go_simp; try rfl)
        try simp only [Act.put, List.setIfInBounds_toArray, List.set_cons_zero, List.set_cons_succ]
        refine wpAnyH_take (i := 4) (v := ?_) (ops_at rfl) (by kernel_rfl) (by kernel_rfl) (by kernel_rfl) (fun _ _ _ h => h) (Or.inl ⟨by rfl, ?yn4⟩) (by assumption) ?nn4
        case yn4 => (intro wS hSw; (try dsimp only at hSw); go_simp; try rfl)
        try simp only [Act.put, List.setIfInBounds_toArray, List.set_cons_zero, List.set_cons_succ]
        refine wpAnyH_take (i := 5) (v := ?_) (ops_at rfl) (by kernel_rfl) (by kernel_rfl) (by kernel_rfl) (fun _ _ _ h => h) (Or.inl ⟨by rfl, ?yn5⟩) (by assumption) ?nn5
        case yn5 => (intro wS hSw; (try dsimp only at hSw); go_simp; try rfl)
        try simp only [Act.put, List.setIfInBounds_toArray, List.set_cons_zero, List.set_cons_succ]
        refine wpAnyH_ready (rs := [6]) (by kernel_rfl) (by simp) ?_
        refine AllReadyH.cons (ops_at rfl) (fun K hK => ?_) AllReadyH.nil
        go_simp
        refine (holds_any Wr Br x y z _ false HFQ.out).mono ?_
        rintro e wb ⟨rfl, hbb1⟩
        dsimp only
        refine hK.out _ _ (keepPk hH0 hbb1 hH0.1.size) (fun hHb => ?_)
        clear hK K
        refine wpAnyH_done (by kernel_rfl) ?_ _
        have HHB := Lib.hid hHb.1
        clear hHb hH0 hbb1
        go_wp2
        go_roundw
        case rel => exact ⟨k2 + 1, by omega, by go_num, m, by rw [HCN.out]; exact HM.out, HON.out.trans (Only.of_below HHB.out (Nat.le_refl _)), by rw [HCN.out]; exact row_below HOW.out HHB.out, by rw [HCN.out, HWr.out, HBr.out]; exact (HHB.out.block _ (heap_lt HRB.out)).trans HRB.out⟩
        case measure => simp [intOf]; omega
    · obtain rfl : k2 = n := by omega
      have hfull : (ordP false ts).take k2 = ordP false ts := List.take_of_length_le (by rw [ordP_length, HN.out]; exact Nat.le_refl _)
      have hown := HOW.out
      have hm := HM.out
      rw [hfull] at hown hm
      have HOWF := Lib.hid hown
      have HMF := Lib.hid hm
      clear hown hm hfull hrb
      by_cases hm0 : 0 < m
      · obtain ⟨g, N, rfl, hg0, hrow⟩ := row_of_owns HOWF.out hm0
        have HROWF := Lib.hid hrow
        clear hrow
        go_wp2_with fail
        refine (sortN_any g 3 N m c2 _ _ HMF.out hm0 hm10 HROWF.out).mono ?_
        rintro e w5 ⟨rfl, hrow5, honly5⟩
        have HB5 := Lib.hid (HBR.out.trans (honly5.below (B := w.heap.size) (by have := HBR.out.size; omega) (fun k hk => by have : k = g := hk; omega)))
        have HO5 := Lib.hid (hrow5.own (lo := w.heap.size) (hi := w5.heap.size) (by omega) hrow5.lt)
        have HPL := Lib.hid (show (sortG upLt (chP ts W B (ordP false ts))).length = m by rw [sortG_length]; exact HMF.out)
        clear hrow5 honly5
        go_wp2
        go_ret
        exact ⟨_, m, c2, rfl, HPL.out, HO5.out, HB5.out⟩
      · obtain rfl : m = 0 := by omega
        have HNIL := Lib.hid (show packP false ts W B = [] by rw [packP, outP, List.eq_nil_of_length_eq_zero HMF.out]; rfl)
        go_wp2_with fail
        refine (sort0_any A2 c2 _).mono ?_
        rintro e w5 ⟨rfl, rfl⟩
        go_wp2
        go_ret
        exact ⟨A2, 0, c2, rfl, by rw [HNIL.out]; rfl, by rw [HNIL.out]; exact Own.nil_, HBR.out⟩

set_option maxRecDepth 100000 in
set_option maxHeartbeats 4000000 in
theorem packR_any (A0 : Option Addr) (n c0 : Nat) (W B : Int) (ts : List (Int × Int × Int)) (lo hi : Nat) (w : World) (hn : ts.length = n) (h1 : 1 ≤ n) (hg : OkI ts) (hs : Seg w lo hi A0 (flat3 ts)) (hB : hi ≤ w.heap.size) (hW : 0 ≤ W ∧ W ≤ 200) (hBB : 0 ≤ B ∧ B ≤ 200) :
    Calls Try.prog 57 #[.agg #[.slice A0 n c0, .int .i64 W, .int .i64 B], .func (.func 60) #[] #[]] w fun e w' => ∃ A' n' c', e = .returned (.slice A' n' c') ∧ (packP true ts W B).length = n' ∧ Own w' w.heap.size w'.heap.size A' (packP true ts W B) ∧ Below w.heap.size w w' := by
  obtain ⟨i0, hi0, hz0, hz1, hz2⟩ := info_parts int_info
  have h10 : n ≤ 10 := by rw [← hn]; exact hg.len
  have HN := Lib.hid hn
  have HG := Lib.hid hg
  have HS := Lib.hid hs
  obtain ⟨W0, hW0⟩ : ∃ W0, (w.alloc (.cells #[.slice A0 n c0, .int .i64 W, .int .i64 B] 67)).alloc (.cells #[.func (.func 60) #[] #[]] 78) = W0 := ⟨_, rfl⟩
  have hb0 : Below w.heap.size w W0 := by rw [← hW0]; exact ((Below.refl _ _).alloc (Nat.le_refl _) _).alloc (by simp) _
  have hzW : w.heap.size + 2 ≤ W0.heap.size := by rw [← hW0]; simp
  have l0 : W0.heap[w.heap.size]? = some (.cells #[.slice A0 n c0, .int .i64 W, .int .i64 B] 67 (0, 0)) := by rw [← hW0]; exact (alloc_old _ (by simp) _).trans (new_at _ _ rfl)
  have f0 : W0.heap[w.heap.size + 1]? = some (.cells #[.func (.func 60) #[] #[]] 78 (0, 0)) := by rw [← hW0]; exact new_at _ _ (by simp)
  have c0' := cell_of l0 0
  rw [← hW0] at c0'
  have HB0 := Lib.hid hb0
  have HL0 := Lib.hid l0
  have HF0 := Lib.hid f0
  have HW0 := Lib.hid hW0
  clear hn hg hs hb0 l0 f0 hW0
  go_enter Try.func57, Try.ntmps57
  go_wp2_with fail
  rw [HW0.out]
  clear c0'
  refine (numbersBelow_any n W0 (by omega)).mono ?_
  rintro e w1 ⟨rfl, harr, hb1⟩
  have HB1 := Lib.hid (HB0.out.trans (hb1.mono (by omega)))
  have hz1w : W0.heap.size < w1.heap.size := harr.lt
  have HROW := Lib.hid harr.row
  have HL1 := Lib.hid ((hb1.block _ (by omega)).trans HL0.out)
  have HF1 := Lib.hid ((hb1.block _ (by omega)).trans HF0.out)
  clear harr hb1
  go_wp2_with fail
  refine (sortP_any (upP true ts) n (w.heap.size + 1) w.heap.size W0.heap.size 3 _ n n (below n) w1 (Lib.hid (fun V i j hV hi1 hj1 => ?_)) (fun b hb => below_mem hb) (below_length n) h1 (by omega) HROW.out).mono ?_
  · have hVB : Below w.heap.size w V := HB1.out.trans (hV.below (by omega) (fun k hk => by have : k = W0.heap.size := hk; omega))
    have q0 := (hV.block _ (by omega) (by show ¬ w.heap.size = W0.heap.size; omega)).trans HL1.out
    have q1 := (hV.block _ (by omega) (by show ¬ w.heap.size + 1 = W0.heap.size; omega)).trans HF1.out
    exact ordR_any (w.heap.size + 1) w.heap.size n c0 A0 ts lo hi i j V HN.out HG.out (HS.out.below hVB hB) ((cell_of q1 0).trans rfl) ((cell_of q0 0).trans rfl) hi1 hj1
  rintro e w2 ⟨rfl, hrow2, honly2⟩
  have HB2 := Lib.hid (HB1.out.trans (honly2.below (B := w.heap.size) (by omega) (fun k hk => by have : k = W0.heap.size := hk; omega)))
  have hz2w := honly2.size
  have HROW2 := Lib.hid (show Row w2 W0.heap.size 3 _ (ordP true ts) by rw [ordP, HN.out]; exact hrow2)
  have HL2 := Lib.hid ((honly2.block _ (by omega) (by show ¬ w.heap.size = W0.heap.size; omega)).trans HL1.out)
  clear hrow2 honly2
  obtain ⟨wz, hwz⟩ : ∃ wz, w2.alloc (.cells #[.int .i64 W, .int .i64 B] 41) = wz := ⟨_, rfl⟩
  obtain ⟨Pr, hPr⟩ : ∃ Pr, w2.heap.size = Pr := ⟨_, rfl⟩
  have hzz : Pr + 1 ≤ wz.heap.size := by rw [← hwz, ← hPr]; simp
  have hbz : Below w2.heap.size w2 wz := by rw [← hwz]; exact (Below.refl _ _).alloc (Nat.le_refl _) _
  have HRM0 := Lib.hid (show wz.heap[Pr]? = some (.cells #[.int .i64 W, .int .i64 B] 41 (0, 0)) by rw [← hwz, ← hPr]; exact new_at _ _ rfl)
  have HBZ := Lib.hid (HB2.out.trans (hbz.mono (by omega)))
  have HLZ := Lib.hid ((hbz.block _ (by omega)).trans HL2.out)
  have HRZ := Lib.hid (HROW2.out.keep (hbz.block _ HROW2.out.lt))
  have l1 := cell_of HL2.out 1
  have l2 := cell_of HL2.out 2
  have HWZ := Lib.hid hwz
  have hPw : w.heap.size + 2 ≤ Pr := by omega
  have hPW0 : W0.heap.size < Pr := by omega
  clear hwz hbz
  go_wp2
  rw [HWZ.out]
  clear l1 l2
  go_loopw [6, 9, 21] (fun v _ i wr => ∃ k2 : Nat, k2 ≤ n ∧ i = .int .i64 (k2 : Int) ∧ ∃ m, (chP ts W B ((ordP true ts).take k2)).length = m ∧ Only (RN Pr wz.heap.size) wz wr ∧ wr.ownsRow wz.heap.size 3 1 v m ((chP ts W B ((ordP true ts).take k2)).map (Value.int .i64)) ∧ wr.heap[Pr]? = some (.cells #[.int .i64 (W - sumF (wI ts) (chP ts W B ((ordP true ts).take k2))), .int .i64 (B - sumF (bI ts) (chP ts W B ((ordP true ts).take k2)))] 41 (0, 0))) (fun _ _ i _ => n - (intOf i).toNat)
  case atStart => exact ⟨0, Nat.zero_le _, rfl, 0, rfl, Only.refl _ _, World.ownsRow_nil _ _ _ _, by have h := HRM0.out; simpa [chP, sumF] using h⟩
  case round =>
    obtain ⟨k2, hk2, rfl, m, hm, honly, hown, hrb⟩ := hrel
    obtain ⟨A2, c2, rfl⟩ := ownsRow_form hown
    have hzr := honly.size
    have hm10 : m ≤ 10 := by have := chP_len (ra := true) (ts := ts) (W := W) (B := B) k2; rw [hm, HN.out] at this; omega
    have HM := Lib.hid hm
    have HON := Lib.hid honly
    have HOW := Lib.hid hown
    have HBP := Lib.hid (honly.below (B := Pr) (by omega) (fun k hk => by rcases hk with hk | hk <;> omega))
    have HBR := Lib.hid (HBZ.out.trans (HBP.out.mono (by omega)))
    clear hm honly hown
    by_cases hlt : k2 < n
    · obtain ⟨x0, hx0⟩ : ∃ x0, (ordP true ts)[k2]? = some x0 := ⟨_, List.getElem?_eq_getElem (by rw [ordP_length, HN.out]; exact hlt)⟩
      have hxm := ordP_mem (List.mem_of_getElem? hx0)
      rw [HN.out] at hxm
      obtain ⟨kn, rfl⟩ : ∃ kn : Nat, x0 = (kn : Int) := ⟨x0.toNat, by omega⟩
      have hkn : kn < n := by omega
      have hkn' : (kn : Int) < (n : Int) := by omega
      have hlt' : (k2 : Int) < (n : Int) := by omega
      have oc := (World.cell?_of_block (HBP.out.block W0.heap.size hPW0)).trans (HRZ.out.cell hx0)
      obtain ⟨bq, oq, x, y, z, rfl, hbq0, hbq, hx, p0, p1, p2⟩ := (HS.out.below HBR.out hB).tri (k := kn) (by rw [HN.out]; exact hkn)
      have hit := itB_true.1 (HG.out.all _ (List.mem_of_getElem? hx))
      simp only [] at hit
      obtain ⟨hx200, hy200, hz200⟩ := hit
      have hws := itm_w hx
      obtain ⟨Wr, hWr⟩ : ∃ Wr, W - sumF (wI ts) (chP ts W B ((ordP true ts).take k2)) = Wr := ⟨_, rfl⟩
      obtain ⟨Br, hBr⟩ : ∃ Br, B - sumF (bI ts) (chP ts W B ((ordP true ts).take k2)) = Br := ⟨_, rfl⟩
      have hWr1 : Wr ≤ 200 := by have := (sumF_bd (wI_f HG.out) (chP ts W B ((ordP true ts).take k2))).1; omega
      have hBr1 : Br ≤ 200 := by have := (sumF_bd (bI_f HG.out) (chP ts W B ((ordP true ts).take k2))).1; omega
      rw [hWr, hBr] at hrb
      have HRB := Lib.hid hrb
      have HRM := Lib.hid (And.intro ((cell_of hrb 0).trans rfl) ((cell_of hrb 1).trans rfl) : wr.cell? ⟨Pr, 0, none⟩ = some (.int .i64 Wr) ∧ wr.cell? ⟨Pr, 1, none⟩ = some (.int .i64 Br))
      have HLG := Lib.hid ((World.cell?_of_block (HBP.out.block w.heap.size (by omega))).trans ((cell_of HLZ.out 0).trans rfl) : wr.cell? ⟨w.heap.size, 0, none⟩ = some (.slice (some ⟨bq, oq, none⟩) n c0))
      have HIC := Lib.hid (And.intro p0 (And.intro p1 p2))
      have HWr := Lib.hid hWr
      have HBr := Lib.hid hBr
      have hbqP : bq < Pr := by omega
      clear p0 p1 p2 hrb
      by_cases hf : x ≤ Wr ∧ y ≤ Br
      · have HCN := Lib.hid (chP_yes hx0 (by rw [hws.1, hWr]; exact hf.1) (by rw [hws.2.1, hBr]; exact hf.2))
        have HSW := Lib.hid (show W - sumF (wI ts) (chP ts W B ((ordP true ts).take k2) ++ [(kn : Int)]) = Wr - x by rw [sumF_snoc, hws.1]; omega)
        have HSB := Lib.hid (show B - sumF (bI ts) (chP ts W B ((ordP true ts).take k2) ++ [(kn : Int)]) = Br - y by rw [sumF_snoc, hws.2.1]; omega)
        have HFQ := Lib.hid (show (decide (x ≤ Wr) && decide (y ≤ Br)) = true by rw [decide_eq_true hf.1, decide_eq_true hf.2]; rfl)
        have HBD := Lib.hid (show (0 ≤ Wr ∧ Wr ≤ 4000) ∧ (0 ≤ Br ∧ Br ≤ 4000) ∧ (0 ≤ x ∧ x ≤ 4000) ∧ 0 ≤ y ∧ y ≤ 4000 by omega)
        have HX := Lib.hid hx
        clear hf hws hWr hBr hx0 hx hWr1 hBr1 hx200 hy200 hz200 hxm
        go_wp2_with fail
        refine wp_region_held_drew (S := (fun wq => Below wr.heap.size wr wq ∧ (wq.cell? ⟨Pr, 0, none⟩ = some (.int .i64 Wr) ∧ wq.cell? ⟨Pr, 1, none⟩ = some (.int .i64 Br)) ∧ wq.cell? ⟨w.heap.size, 0, none⟩ = some (.slice (some ⟨bq, oq, none⟩) n c0) ∧ wq.cell? ⟨bq, oq + kn * 3, none⟩ = some (.int .i64 x) ∧ wq.cell? ⟨bq, oq + kn * 3 + 1, none⟩ = some (.int .i64 y) ∧ wq.cell? ⟨bq, oq + kn * 3 + 2, none⟩ = some (.int .i64 z))) (by kernel_rfl) ⟨(Below.refl wr.heap.size wr).drew, HRM.out, HLG.out, HIC.out⟩ (fun hH0 => ?_)
        refine wpAnyH_take (i := 0) (v := ?_) (ops_at rfl) (by kernel_rfl) (by kernel_rfl) (by kernel_rfl) (fun _ _ _ h => h) (Or.inl ⟨by rfl, ?yy0⟩) (by assumption) ?ny0
        case yy0 => (intro wS hSw; (try dsimp only at hSw); go_simp; try rfl)
        try simp only [Act.put, List.setIfInBounds_toArray, List.set_cons_zero, List.set_cons_succ]
        refine wpAnyH_take (i := 1) (v := ?_) (ops_at rfl) (by kernel_rfl) (by kernel_rfl) (by kernel_rfl) (fun _ _ _ h => h) (Or.inl ⟨by rfl, ?yy1⟩) (by assumption) ?ny1
        case yy1 => (intro wS hSw; (try dsimp only at hSw); go_simp; try rfl)
        try simp only [Act.put, List.setIfInBounds_toArray, List.set_cons_zero, List.set_cons_succ]
        refine wpAnyH_take (i := 2) (v := ?_) (ops_at rfl) (by kernel_rfl) (by kernel_rfl) (by kernel_rfl) (fun _ _ _ h => h) (Or.inl ⟨by rfl, ?yy2⟩) (by assumption) ?ny2
        case yy2 => (intro wS hSw; (try dsimp only at hSw); go_simp; try rfl)
        try simp only [Act.put, List.setIfInBounds_toArray, List.set_cons_zero, List.set_cons_succ]
        refine wpAnyH_take (i := 3) (v := ?_) (ops_at rfl) (by kernel_rfl) (by kernel_rfl) (by kernel_rfl) (fun _ _ _ h => h) (Or.inl ⟨by rfl, ?yy3⟩) (by assumption) ?ny3
        case yy3 => (intro wS hSw; (try dsimp only at hSw); go_simp; try rfl)
        try simp only [Act.put, List.setIfInBounds_toArray, List.set_cons_zero, List.set_cons_succ]
        refine wpAnyH_take (i := 4) (v := ?_) (ops_at rfl) (by kernel_rfl) (by kernel_rfl) (by kernel_rfl) (fun _ _ _ h => h) (Or.inl ⟨by rfl, ?yy4⟩) (by assumption) ?ny4
        case yy4 => (intro wS hSw; (try dsimp only at hSw); go_simp; try rfl)
        try simp only [Act.put, List.setIfInBounds_toArray, List.set_cons_zero, List.set_cons_succ]
        refine wpAnyH_take (i := 5) (v := ?_) (ops_at rfl) (by kernel_rfl) (by kernel_rfl) (by kernel_rfl) (fun _ _ _ h => h) (Or.inl ⟨by rfl, ?yy5⟩) (by assumption) ?ny5
        case yy5 => (intro wS hSw; (try dsimp only at hSw); go_simp; try rfl)
        try simp only [Act.put, List.setIfInBounds_toArray, List.set_cons_zero, List.set_cons_succ]
        refine wpAnyH_ready (rs := [6]) (by kernel_rfl) (by simp) ?_
        refine AllReadyH.cons (ops_at rfl) (fun K hK => ?_) AllReadyH.nil
        go_simp
        refine (holds_any Wr Br x y z _ true HFQ.out).mono ?_
        rintro e wb ⟨rfl, hbb1⟩
        dsimp only
        refine hK.out _ _ (keepPk hH0 hbb1 hH0.1.size) (fun hHb => ?_)
        clear hK K
        refine wpAnyH_done (by kernel_rfl) ?_ _
        have HWB := Lib.hid hHb.1
        have HOW6 := Lib.hid ((row_below HOW.out hHb.1).alloc (.cells #[.int .i64 (kn : Int)] 3))
        have HLT6 := Lib.hid HOW6.out.lt
        have HRB2 := Lib.hid ((hHb.1.block _ (heap_lt HRB.out)).trans HRB.out)
        have hzb := hHb.1.size
        have HHB := Lib.hid hHb.2
        have HON2 := Lib.hid (HON.out.trans (Only.of_below (S := RN Pr wz.heap.size) hHb.1 (Nat.le_refl _)))
        clear hHb hH0 hbb1
        go_wp2_with (at_builtin; refine wpList_append_seg _ rfl _ _ 22 rfl wz.heap.size 3 i0 Try.underlying22 hi0 hz0 hz1 hz2 _ m _ rfl HOW6.out _ 1 1 [(kn : Int)] _ _ rfl rfl (seg_one wb (kn : Int) 3) (by omega) (by simp; omega) ?_; intro v3 w3 hown3 hgr3; have HOW3 := Lib.hid (show w3.ownsRow wz.heap.size 3 1 v3 (m + 1) ((chP ts W B ((ordP true ts).take k2) ++ [(kn : Int)]).map (Value.int .i64)) by rw [List.map_append]; exact hown3); have HG3 := Lib.hid hgr3; clear hown3 hgr3; obtain ⟨A3, c3, rfl⟩ := ownsRow_form HOW3.out)
        have HP3 := Lib.hid (((Below.refl Pr wb).alloc (by omega) (.cells #[.int .i64 (kn : Int)] 3)).grown HG3.out (by simp; omega) (fun g' hg' => by have := (HLT6.out g' hg').1; omega))
        have hr3 := (HG3.out.block Pr (by simp; omega) (fun e => by have := (HLT6.out _ e.symm).1; omega)).trans ((alloc_old wb (heap_lt HRB2.out) (.cells #[.int .i64 (kn : Int)] 3)).trans HRB2.out)
        have HRB3 := Lib.hid hr3
        have HON3 := Lib.hid (only_grown2 (HON2.out.alloc (.cells #[.int .i64 (kn : Int)] 3)) HG3.out (fun b hb => .inr (HLT6.out b hb).1))
        have HI3 := Lib.hid (show (fun wq => (wq.cell? ⟨Pr, 0, none⟩ = some (.int .i64 Wr) ∧ wq.cell? ⟨Pr, 1, none⟩ = some (.int .i64 Br)) ∧ wq.cell? ⟨w.heap.size, 0, none⟩ = some (.slice (some ⟨bq, oq, none⟩) n c0) ∧ wq.cell? ⟨bq, oq + kn * 3, none⟩ = some (.int .i64 x) ∧ wq.cell? ⟨bq, oq + kn * 3 + 1, none⟩ = some (.int .i64 y) ∧ wq.cell? ⟨bq, oq + kn * 3 + 2, none⟩ = some (.int .i64 z)) w3 from ⟨⟨cell_of hr3 0, cell_of hr3 1⟩, (World.cell?_of_block (HP3.out.block w.heap.size (by omega))).trans HHB.out.2.1, (World.cell?_of_block (HP3.out.block bq (by omega))).trans HHB.out.2.2.1, (World.cell?_of_block (HP3.out.block bq (by omega))).trans HHB.out.2.2.2.1, (World.cell?_of_block (HP3.out.block bq (by omega))).trans HHB.out.2.2.2.2⟩)
        clear hr3
        go_wp2_with fail
        refine region_E (S := (fun wq => Below w3.heap.size w3 wq ∧ (wq.cell? ⟨Pr, 0, none⟩ = some (.int .i64 Wr) ∧ wq.cell? ⟨Pr, 1, none⟩ = some (.int .i64 Br)) ∧ wq.cell? ⟨w.heap.size, 0, none⟩ = some (.slice (some ⟨bq, oq, none⟩) n c0) ∧ wq.cell? ⟨bq, oq + kn * 3, none⟩ = some (.int .i64 x) ∧ wq.cell? ⟨bq, oq + kn * 3 + 1, none⟩ = some (.int .i64 y) ∧ wq.cell? ⟨bq, oq + kn * 3 + 2, none⟩ = some (.int .i64 z))) 7 (by kernel_rfl) ⟨(Below.refl w3.heap.size w3).drew, HI3.out⟩ (fun hH0 => ?_)
        refine AnyE.take (i := 0) (v := ?_) (ops_at rfl) (by kernel_rfl) (by kernel_rfl) (by kernel_rfl) (by kernel_rfl) (fun _ _ _ h => h) (Or.inl ⟨by rfl, ?ye0⟩) (by assumption) ?ne0
        case ye0 => (intro wS hSw; (try dsimp only at hSw); go_simp; try rfl)
        try simp only [Act.put, List.setIfInBounds_toArray, List.set_cons_zero, List.set_cons_succ]
        refine AnyE.take (i := 1) (v := ?_) (ops_at rfl) (by kernel_rfl) (by kernel_rfl) (by kernel_rfl) (by kernel_rfl) (fun _ _ _ h => h) (Or.inl ⟨by rfl, ?ye1⟩) (by assumption) ?ne1
        case ye1 => (intro wS hSw; (try dsimp only at hSw); go_simp; try rfl)
        try simp only [Act.put, List.setIfInBounds_toArray, List.set_cons_zero, List.set_cons_succ]
        refine AnyE.take (i := 2) (v := ?_) (ops_at rfl) (by kernel_rfl) (by kernel_rfl) (by kernel_rfl) (by kernel_rfl) (fun _ _ _ h => h) (Or.inl ⟨by rfl, ?ye2⟩) (by assumption) ?ne2
        case ye2 => (intro wS hSw; (try dsimp only at hSw); go_simp; try rfl)
        try simp only [Act.put, List.setIfInBounds_toArray, List.set_cons_zero, List.set_cons_succ]
        refine AnyE.take (i := 3) (v := ?_) (ops_at rfl) (by kernel_rfl) (by kernel_rfl) (by kernel_rfl) (by kernel_rfl) (fun _ _ _ h => h) (Or.inl ⟨by rfl, ?ye3⟩) (by assumption) ?ne3
        case ye3 => (intro wS hSw; (try dsimp only at hSw); go_simp; try rfl)
        try simp only [Act.put, List.setIfInBounds_toArray, List.set_cons_zero, List.set_cons_succ]
        refine AnyE.take (i := 4) (v := ?_) (ops_at rfl) (by kernel_rfl) (by kernel_rfl) (by kernel_rfl) (by kernel_rfl) (fun _ _ _ h => h) (Or.inl ⟨by rfl, ?ye4⟩) (by assumption) ?ne4
        case ye4 => (intro wS hSw; (try dsimp only at hSw); go_simp; try rfl)
        try simp only [Act.put, List.setIfInBounds_toArray, List.set_cons_zero, List.set_cons_succ]
        refine AnyE.take (i := 5) (v := ?_) (ops_at rfl) (by kernel_rfl) (by kernel_rfl) (by kernel_rfl) (by kernel_rfl) (fun _ _ _ h => h) (Or.inl ⟨by rfl, ?ye5⟩) (by assumption) ?ne5
        case ye5 => (intro wS hSw; (try dsimp only at hSw); go_simp; try rfl)
        try simp only [Act.put, List.setIfInBounds_toArray, List.set_cons_zero, List.set_cons_succ]
        have hS0 := hH0
        refine AnyE.of_ready (rs := [6]) (by kernel_rfl) (by simp) ?_
        refine ReadyE.cons (ops_at rfl) (fun K hK => ?_) ReadyE.nil
        go_simp
        refine (without_any Wr Br x y z _ HBD.out.1 HBD.out.2.1 HBD.out.2.2.1 HBD.out.2.2.2).mono ?_
        rintro e w4 ⟨rfl, hb4⟩
        dsimp only
        refine hK.out _ _ (fun _ => keepPk hS0 hb4 hS0.1.size) (fun hH4 => ?_)
        clear hK K
        have hS4 := hH4 (by omega)
        have HB4 := Lib.hid hS4.1
        have HRB4 := Lib.hid ((hS4.1.block Pr (heap_lt HRB3.out)).trans HRB3.out)
        have hcr0 := hS4.2.1.1
        have hcr1 := hS4.2.1.2
        have hfr0 := frozen_of HRB4.out 0
        have hfr1 := frozen_of HRB4.out 1
        refine AnyE.of_ready (rs := [7]) (by kernel_rfl) (by simp) ?_
        refine ReadyE.cons (ops_at rfl) (fun K hK => ?_) ReadyE.nil
        go_simp
        refine hK.out _ _ (fun h => absurd rfl h) (fun _ => ?_)
        clear hK K
        refine AnyE.end_ (by kernel_rfl) ?_ _
        clear hcr0 hcr1 hfr0 hfr1 hb4 hS0 hS4 hH0 hH4
        go_wp2
        go_roundw
        case rel => exact ⟨k2 + 1, by omega, by go_num, m + 1, by rw [HCN.out, List.length_append, HM.out]; rfl, (((HON3.out.trans (Only.of_below HB4.out (Nat.le_refl _))).setCell (p := ⟨Pr, 0, none⟩) (.inl rfl) _).setCell (p := ⟨Pr, 1, none⟩) (.inl rfl) _), by rw [HCN.out]; exact row_set (row_set (row_below HOW3.out HB4.out) (by omega) _) (by omega) _, by rw [HCN.out, HSW.out, HSB.out]; exact set_two4 HRB4.out _ _⟩
        case measure => simp [intOf]; omega
      · have HCN := Lib.hid (chP_no hx0 (by rw [hws.1, hws.2.1, hWr, hBr]; exact hf))
        have HFQ := Lib.hid (show (decide (x ≤ Wr) && decide (y ≤ Br)) = false by rw [← Bool.decide_and]; exact decide_eq_false hf)
        clear hf hws hWr hBr hx0 hx hWr1 hBr1 hx200 hy200 hz200 hxm
        go_wp2_with fail
        refine wp_region_held_drew (S := (fun wq => Below wr.heap.size wr wq ∧ (wq.cell? ⟨Pr, 0, none⟩ = some (.int .i64 Wr) ∧ wq.cell? ⟨Pr, 1, none⟩ = some (.int .i64 Br)) ∧ wq.cell? ⟨w.heap.size, 0, none⟩ = some (.slice (some ⟨bq, oq, none⟩) n c0) ∧ wq.cell? ⟨bq, oq + kn * 3, none⟩ = some (.int .i64 x) ∧ wq.cell? ⟨bq, oq + kn * 3 + 1, none⟩ = some (.int .i64 y) ∧ wq.cell? ⟨bq, oq + kn * 3 + 2, none⟩ = some (.int .i64 z))) (by kernel_rfl) ⟨(Below.refl wr.heap.size wr).drew, HRM.out, HLG.out, HIC.out⟩ (fun hH0 => ?_)
        refine wpAnyH_take (i := 0) (v := ?_) (ops_at rfl) (by kernel_rfl) (by kernel_rfl) (by kernel_rfl) (fun _ _ _ h => h) (Or.inl ⟨by rfl, ?yn0⟩) (by assumption) ?nn0
        case yn0 => (intro wS hSw; (try dsimp only at hSw); go_simp; try rfl)
        try simp only [Act.put, List.setIfInBounds_toArray, List.set_cons_zero, List.set_cons_succ]
        refine wpAnyH_take (i := 1) (v := ?_) (ops_at rfl) (by kernel_rfl) (by kernel_rfl) (by kernel_rfl) (fun _ _ _ h => h) (Or.inl ⟨by rfl, ?yn1⟩) (by assumption) ?nn1
        case yn1 => (intro wS hSw; (try dsimp only at hSw); go_simp; try rfl)
        try simp only [Act.put, List.setIfInBounds_toArray, List.set_cons_zero, List.set_cons_succ]
        refine wpAnyH_take (i := 2) (v := ?_) (ops_at rfl) (by kernel_rfl) (by kernel_rfl) (by kernel_rfl) (fun _ _ _ h => h) (Or.inl ⟨by rfl, ?yn2⟩) (by assumption) ?nn2
        case yn2 => (intro wS hSw; (try dsimp only at hSw); go_simp; try rfl)
        try simp only [Act.put, List.setIfInBounds_toArray, List.set_cons_zero, List.set_cons_succ]
        refine wpAnyH_take (i := 3) (v := ?_) (ops_at rfl) (by kernel_rfl) (by kernel_rfl) (by kernel_rfl) (fun _ _ _ h => h) (Or.inl ⟨by rfl, ?yn3⟩) (by assumption) ?nn3
        case yn3 => (intro wS hSw; (try dsimp only at hSw); go_simp; try rfl)
        try simp only [Act.put, List.setIfInBounds_toArray, List.set_cons_zero, List.set_cons_succ]
        refine wpAnyH_take (i := 4) (v := ?_) (ops_at rfl) (by kernel_rfl) (by kernel_rfl) (by kernel_rfl) (fun _ _ _ h => h) (Or.inl ⟨by rfl, ?yn4⟩) (by assumption) ?nn4
        case yn4 => (intro wS hSw; (try dsimp only at hSw); go_simp; try rfl)
        try simp only [Act.put, List.setIfInBounds_toArray, List.set_cons_zero, List.set_cons_succ]
        refine wpAnyH_take (i := 5) (v := ?_) (ops_at rfl) (by kernel_rfl) (by kernel_rfl) (by kernel_rfl) (fun _ _ _ h => h) (Or.inl ⟨by rfl, ?yn5⟩) (by assumption) ?nn5
        case yn5 => (intro wS hSw; (try dsimp only at hSw); go_simp; try rfl)
        try simp only [Act.put, List.setIfInBounds_toArray, List.set_cons_zero, List.set_cons_succ]
        refine wpAnyH_ready (rs := [6]) (by kernel_rfl) (by simp) ?_
        refine AllReadyH.cons (ops_at rfl) (fun K hK => ?_) AllReadyH.nil
        go_simp
        refine (holds_any Wr Br x y z _ false HFQ.out).mono ?_
        rintro e wb ⟨rfl, hbb1⟩
        dsimp only
        refine hK.out _ _ (keepPk hH0 hbb1 hH0.1.size) (fun hHb => ?_)
        clear hK K
        refine wpAnyH_done (by kernel_rfl) ?_ _
        have HHB := Lib.hid hHb.1
        clear hHb hH0 hbb1
        go_wp2
        go_roundw
        case rel => exact ⟨k2 + 1, by omega, by go_num, m, by rw [HCN.out]; exact HM.out, HON.out.trans (Only.of_below HHB.out (Nat.le_refl _)), by rw [HCN.out]; exact row_below HOW.out HHB.out, by rw [HCN.out, HWr.out, HBr.out]; exact (HHB.out.block _ (heap_lt HRB.out)).trans HRB.out⟩
        case measure => simp [intOf]; omega
    · obtain rfl : k2 = n := by omega
      have hfull : (ordP true ts).take k2 = ordP true ts := List.take_of_length_le (by rw [ordP_length, HN.out]; exact Nat.le_refl _)
      have hown := HOW.out
      have hm := HM.out
      rw [hfull] at hown hm
      have HOWF := Lib.hid hown
      have HMF := Lib.hid hm
      clear hown hm hfull hrb
      by_cases hm0 : 0 < m
      · obtain ⟨g, N, rfl, hg0, hrow⟩ := row_of_owns HOWF.out hm0
        have HROWF := Lib.hid hrow
        clear hrow
        go_wp2_with fail
        refine (sortN_any g 3 N m c2 _ _ HMF.out hm0 hm10 HROWF.out).mono ?_
        rintro e w5 ⟨rfl, hrow5, honly5⟩
        have HB5 := Lib.hid (HBR.out.trans (honly5.below (B := w.heap.size) (by have := HBR.out.size; omega) (fun k hk => by have : k = g := hk; omega)))
        have HO5 := Lib.hid (hrow5.own (lo := w.heap.size) (hi := w5.heap.size) (by omega) hrow5.lt)
        have HPL := Lib.hid (show (sortG upLt (chP ts W B (ordP true ts))).length = m by rw [sortG_length]; exact HMF.out)
        clear hrow5 honly5
        go_wp2
        go_ret
        exact ⟨_, m, c2, rfl, HPL.out, HO5.out, HB5.out⟩
      · obtain rfl : m = 0 := by omega
        have HNIL := Lib.hid (show packP true ts W B = [] by rw [packP, outP, List.eq_nil_of_length_eq_zero HMF.out]; rfl)
        go_wp2_with fail
        refine (sort0_any A2 c2 _).mono ?_
        rintro e w5 ⟨rfl, rfl⟩
        go_wp2
        go_ret
        exact ⟨A2, 0, c2, rfl, by rw [HNIL.out]; rfl, by rw [HNIL.out]; exact Own.nil_, HBR.out⟩

set_option maxRecDepth 100000 in
set_option maxHeartbeats 2000000 in
theorem impl_PackByValue (A : Option Addr) (n c : Nat) (W B : Int) (ts : List (Int × Int × Int)) (lo hi : Nat) (w : World) (hn : ts.length = n) (hlen : n ≤ 1048576) (hs : Seg w lo hi A (flat3 ts)) (hB : hi ≤ w.heap.size) (q : Bool) (hq : askI ts W B = q) :
    Calls Try.prog 26 #[.slice A n c, .agg #[.int .i64 W, .int .i64 B]] w (RetL q (someN q (packP false ts W B)) w) := by
  have HN := Lib.hid hn
  have HB0 := Lib.hid ((Below.refl w.heap.size w).alloc (Nat.le_refl _) (.cells #[.int .i64 W, .int .i64 B] 41))
  have HC0 := Lib.hid (new_at w (.cells #[.int .i64 W, .int .i64 B] 41) rfl)
  have HS0 := Lib.hid (hs.below HB0.out hB)
  have HQ := Lib.hid hq
  cases q
  · clear hn hq hs
    go_enter Try.func26, Try.ntmps26
    go_wp2_with fail
    refine (luggage_no A n c W B ts lo hi _ HN.out hlen HS0.out (by simp; omega) HQ.out).mono ?_
    rintro e w1 ⟨rfl, hb1⟩
    have HB1 := Lib.hid (HB0.out.trans (hb1.mono (by simp)))
    go_wp2
    go_ret2
    exact ⟨none, 0, 0, rfl, rfl, Own.nil_, HB1.out.alloc HB1.out.size _⟩
  · obtain ⟨hg, hW, hBB⟩ := askI_true.1 hq
    have HG := Lib.hid (goodI_ok hg)
    have hW4 : 0 ≤ W ∧ W ≤ 4000 := by omega
    have hB4 : 0 ≤ B ∧ B ≤ 4000 := by omega
    clear hn hq hs hg
    go_enter Try.func26, Try.ntmps26
    go_wp2_with fail
    refine (luggage_yes A n c W B ts lo hi _ HN.out hlen HS0.out (by simp; omega) HQ.out).mono ?_
    rintro e w1 ⟨rfl, hb1⟩
    have hz1' : w.heap.size < w1.heap.size := by have := hb1.size; simp at this; omega
    have HB1 := Lib.hid (HB0.out.trans (hb1.mono (by simp)))
    have hb1b := (Below.refl w1.heap.size w1).alloc (Nat.le_refl _) (.cells #[.slice A n c, .int .i64 W, .int .i64 B] 67)
    have HB2 := Lib.hid (HB1.out.trans (hb1b.mono HB1.out.size))
    have HS1 := Lib.hid (HS0.out.below hb1 (by simp; omega))
    have HS2 := Lib.hid (HS1.out.below hb1b (by omega))
    have HL2 := Lib.hid (new_at w1 (.cells #[.slice A n c, .int .i64 W, .int .i64 B] 67) rfl)
    clear hb1 hb1b
    go_wp2_with fail
    refine (packV_any A n c W B ts lo hi _ HN.out (by have := goodI_one (askI_true.1 HQ.out).1; rw [HN.out] at this; exact this) HG.out HS2.out (by simp; omega) hW hBB).mono ?_
    rintro e w3 ⟨Af, nf, cf, rfl, hnf, hown, hb3⟩
    have HB3 := Lib.hid (HB2.out.trans (hb3.mono HB2.out.size))
    have HNF := Lib.hid hnf
    have HOWN := Lib.hid (hown.more (lo' := w.heap.size) (by simp; omega) (Nat.le_refl _))
    clear hb3 hnf hown
    go_wp2
    go_ret2
    exact ⟨Af, nf, cf, rfl, HNF.out, HOWN.out, HB3.out⟩

set_option maxRecDepth 100000 in
set_option maxHeartbeats 2000000 in
theorem impl_PackByRatio (A : Option Addr) (n c : Nat) (W B : Int) (ts : List (Int × Int × Int)) (lo hi : Nat) (w : World) (hn : ts.length = n) (hlen : n ≤ 1048576) (hs : Seg w lo hi A (flat3 ts)) (hB : hi ≤ w.heap.size) (q : Bool) (hq : askI ts W B = q) :
    Calls Try.prog 29 #[.slice A n c, .agg #[.int .i64 W, .int .i64 B]] w (RetL q (someN q (packP true ts W B)) w) := by
  have HN := Lib.hid hn
  have HB0 := Lib.hid ((Below.refl w.heap.size w).alloc (Nat.le_refl _) (.cells #[.int .i64 W, .int .i64 B] 41))
  have HC0 := Lib.hid (new_at w (.cells #[.int .i64 W, .int .i64 B] 41) rfl)
  have HS0 := Lib.hid (hs.below HB0.out hB)
  have HQ := Lib.hid hq
  cases q
  · clear hn hq hs
    go_enter Try.func29, Try.ntmps29
    go_wp2_with fail
    refine (luggage_no A n c W B ts lo hi _ HN.out hlen HS0.out (by simp; omega) HQ.out).mono ?_
    rintro e w1 ⟨rfl, hb1⟩
    have HB1 := Lib.hid (HB0.out.trans (hb1.mono (by simp)))
    go_wp2
    go_ret2
    exact ⟨none, 0, 0, rfl, rfl, Own.nil_, HB1.out.alloc HB1.out.size _⟩
  · obtain ⟨hg, hW, hBB⟩ := askI_true.1 hq
    have HG := Lib.hid (goodI_ok hg)
    have hW4 : 0 ≤ W ∧ W ≤ 4000 := by omega
    have hB4 : 0 ≤ B ∧ B ≤ 4000 := by omega
    clear hn hq hs hg
    go_enter Try.func29, Try.ntmps29
    go_wp2_with fail
    refine (luggage_yes A n c W B ts lo hi _ HN.out hlen HS0.out (by simp; omega) HQ.out).mono ?_
    rintro e w1 ⟨rfl, hb1⟩
    have hz1' : w.heap.size < w1.heap.size := by have := hb1.size; simp at this; omega
    have HB1 := Lib.hid (HB0.out.trans (hb1.mono (by simp)))
    have hb1b := (Below.refl w1.heap.size w1).alloc (Nat.le_refl _) (.cells #[.slice A n c, .int .i64 W, .int .i64 B] 67)
    have HB2 := Lib.hid (HB1.out.trans (hb1b.mono HB1.out.size))
    have HS1 := Lib.hid (HS0.out.below hb1 (by simp; omega))
    have HS2 := Lib.hid (HS1.out.below hb1b (by omega))
    have HL2 := Lib.hid (new_at w1 (.cells #[.slice A n c, .int .i64 W, .int .i64 B] 67) rfl)
    clear hb1 hb1b
    go_wp2_with fail
    refine (packR_any A n c W B ts lo hi _ HN.out (by have := goodI_one (askI_true.1 HQ.out).1; rw [HN.out] at this; exact this) HG.out HS2.out (by simp; omega) hW hBB).mono ?_
    rintro e w3 ⟨Af, nf, cf, rfl, hnf, hown, hb3⟩
    have HB3 := Lib.hid (HB2.out.trans (hb3.mono HB2.out.size))
    have HNF := Lib.hid hnf
    have HOWN := Lib.hid (hown.more (lo' := w.heap.size) (by simp; omega) (Nat.le_refl _))
    clear hb3 hnf hown
    go_wp2
    go_ret2
    exact ⟨Af, nf, cf, rfl, HNF.out, HOWN.out, HB3.out⟩

end Go.Proofs.Ytjpejhpilfjheab

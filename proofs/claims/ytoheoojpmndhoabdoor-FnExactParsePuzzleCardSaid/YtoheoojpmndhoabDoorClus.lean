/-
  The law's own copies, comparisons and marks of a slice of clues.
  Conditions: the slices have at most 1048576 clues.
-/
import Derived.Test.YtoheoojpmndhoabDoorQuadM
import Derived.Test.YtoheoojpmndhoabDoorMem
import Derived.Deep.OwnRows
import Derived.Deep.Slices
import Derived.Deep.Strs
import Derived.Lib.SmallJoins
import Derived.ChangeArms
import Derived.Deep.RegionHeld3
namespace Go.Proofs.YtoheoojpmndhoabDoor
set_option linter.unusedVariables false
open Go.RowKit

theorem clue_info : (Tryd.prog.info? 44).map (fun i => (i.zero, i.size, i.bytes)) = some (some (.agg #[.int .i64 0, .int .i64 0, .int .i64 0, .int .i64 0]), 4, 32) := by kernel_rfl

theorem list4 {α : Type} {cs : List α} (h : cs.length = 4) : ∃ a b c d, cs = [a, b, c, d] := by
  match cs, h with
  | [a, b, c, d], _ => exact ⟨a, b, c, d, rfl⟩

theorem open_clues {H : Type} {enc : TypeId × Value → H} {w : World} {spare : Nat → Bool} {held : Bool} {fuel : Nat} {a0 : Option Addr} {len cap : Nat} {x : DataW H × List MemPlace}
    (h : DataW.trod enc Tryd.prog w 0 spare held fuel 22 (Value.slice a0 len cap).cells.toList = some x) : len ≤ 9223372036854775807 ∧ ∃ zs : List Clu, zs.length = len ∧ Seg w 0 w.heap.size a0 (flat4 zs) := by
  rcases Go.Deep.open_slice Tryd.underlying22 h with ⟨hcs, _⟩ | ⟨a, l, c, m, n, D, Pl, hcs, _, hl, hcm, hm, _, hx⟩
  · simp [Value.cells] at hcs
    obtain ⟨rfl, rfl, rfl⟩ := hcs
    exact ⟨by omega, [], rfl, .inl rfl⟩
  · simp [Value.cells] at hcs
    obtain ⟨rfl, rfl, rfl⟩ := hcs
    have hlm : len ≤ m := by rw [hm]; split <;> omega
    have each : ∀ i, i < m → ∃ q : Clu, w.cell? (a.add (i * 4)) = some (.int .i64 q.1) ∧ w.cell? (a.add (i * 4 + 1)) = some (.int .i64 q.2.1) ∧ w.cell? (a.add (i * 4 + 2)) = some (.int .i64 q.2.2.1) ∧ w.cell? (a.add (i * 4 + 3)) = some (.int .i64 q.2.2.2) := by
      intro i hi
      obtain ⟨cs', h1, h2⟩ := hx i hi
      have hco : Tryd.prog.cellsOf 61 = 4 := by kernel_rfl
      rw [hco] at h1
      obtain ⟨_, hlen, hcell⟩ := World.cells?_some h1
      obtain ⟨y0, y1, y2, y3, n', _, _, g0, g1, g2, g3⟩ := Go.Joins.trod_struct4 Tryd.underlying61 h2
      obtain ⟨v0, v1, v2, v3, rfl⟩ := list4 hlen
      have e0 := hcell 0 (by omega)
      have e1 := hcell 1 (by omega)
      have e2 := hcell 2 (by omega)
      have e3 := hcell 3 (by omega)
      rw [Go.Deep.add_add] at e0 e1 e2 e3
      have hc1 : Tryd.prog.cellsOf 3 = 1 := by kernel_rfl
      simp [hc1] at g0 g1 g2 g3
      obtain ⟨n0, f0, _, _⟩ := DataW.trod_int Tryd.underlying3 g0
      obtain ⟨n1, f1, _, _⟩ := DataW.trod_int Tryd.underlying3 g1
      obtain ⟨n2, f2, _, _⟩ := DataW.trod_int Tryd.underlying3 g2
      obtain ⟨n3, f3, _, _⟩ := DataW.trod_int Tryd.underlying3 g3
      injection f0 with f0
      injection f1 with f1
      injection f2 with f2
      injection f3 with f3
      refine ⟨(n0, n1, n2, n3), ?_, ?_, ?_, ?_⟩
      · simpa [f0] using e0
      · simpa [f1] using e1
      · simpa [f2] using e2
      · simpa [f3] using e3
    obtain ⟨q, hq⟩ := Go.Deep.choose_lt each
    refine ⟨by simp [maxLen] at hcm; omega, (List.range len).map q, by simp, seg_of_quads (len := len) (by simp) fun i b hb => ?_⟩
    have hi : i < len := by
      have := (List.getElem?_eq_some_iff.1 hb).1
      simpa using this
    simp [hi] at hb
    subst hb
    exact hq i (by omega)

/-- 'n' clues, those below 'k' written already. -/
theorem Part.quad {w : World} {g T n k : Nat} {bs : List Clu} {x y z u : Int} (h : Part w g T (n * 4) (k * 4) (flat4 bs)) (hk : k < n) (hu : bs[k]? = some (x, y, z, u)) :
    Part ((((w.setCell ⟨g, k * 4, none⟩ (.int .i64 x)).setCell ⟨g, k * 4 + 1, none⟩ (.int .i64 y)).setCell ⟨g, k * 4 + 2, none⟩ (.int .i64 z)).setCell ⟨g, k * 4 + 3, none⟩ (.int .i64 u)) g T (n * 4) ((k + 1) * 4) (flat4 bs) := by
  obtain ⟨h1, h2, h3, h4⟩ := flat4_at hu
  have := (((h.step (by omega) h1).step (by omega) h2).step (by omega) h3).step (by omega) h4
  rwa [show k * 4 + 1 + 1 + 1 + 1 = (k + 1) * 4 by omega] at this

theorem szClueS_any (A : Option Addr) (n c : Nat) (w : World) (hlen : n ≤ 1048576) :
    Calls Tryd.prog 14 #[.slice A n c, .int .i64 1048576] w fun e w' => e = .returned (.int .i64 (1048576 - (n : Int))) ∧ w = w' := by
  go_enter Tryd.func14, Tryd.ntmps14
  go_wp2
  go_ret
  exact ⟨rfl, rfl⟩

theorem szClueS_big (A : Option Addr) (n c : Nat) (w : World) (hlen : 1048576 < n) (hm : n ≤ 9223372036854775807) :
    Calls Tryd.prog 14 #[.slice A n c, .int .i64 1048576] w fun e w' => e = .returned (.int .i64 (-1)) ∧ w = w' := by
  go_enter Tryd.func14, Tryd.ntmps14
  go_wp2
  go_ret
  exact ⟨rfl, rfl⟩

theorem toClue_any (x y z u : Int) (w : World) :
    Calls Tryd.prog 31 #[.agg #[.int .i64 x, .int .i64 y, .int .i64 z, .int .i64 u]] w fun e w' => e = .returned (.agg #[.int .i64 x, .int .i64 y, .int .i64 z, .int .i64 u]) ∧ Below w.heap.size w w' := by
  go_enter Tryd.func31, Tryd.ntmps31
  go_wp2
  refine bodyPost_ret (v := .agg #[.int .i64 x, .int .i64 y, .int .i64 z, .int .i64 u]) (by simp [results, Tryd.results31, go_sem]) rfl ⟨rfl, ?_⟩
  exact (((Below.refl _ _).alloc (Nat.le_refl _) _).alloc (by simp) _).alloc (by simp; omega) _

theorem eqClue_any (x y z u : Int) (w : World) :
    Calls Tryd.prog 37 #[.agg #[.int .i64 x, .int .i64 y, .int .i64 z, .int .i64 u], .agg #[.int .i64 x, .int .i64 y, .int .i64 z, .int .i64 u]] w fun e w' => e = .returned (.bool true) ∧ Below w.heap.size w w' := by
  go_enter Tryd.func37, Tryd.ntmps37
  go_wp2
  go_ret
  exact ⟨rfl, ((Below.refl _ _).alloc (Nat.le_refl _) _).alloc (by simp) _⟩

theorem clue_part_new (w : World) (T n : Nat) (z z' z2 z3 : Value) (xs : List Int) : Part (w.alloc (.cells (madeCells #[z, z', z2, z3] (n * 4)) T)) w.heap.size T (n * 4) 0 xs :=
  ⟨madeCells #[z, z', z2, z3] (n * 4), heap_alloc_new w _, by simp [madeCells], fun j hj => by omega⟩

theorem make_clues (n : Nat) (hn : n ≤ 1048576) (W : World) : (Instr.makeSlice 28 (.int .i64 (n : Int)) (.int .i64 (n : Int))).run Tryd.prog W =
    .ok (.slice (some ⟨W.heap.size, 0, none⟩) n n) (W.alloc (.cells (madeCells #[.int .i64 0, .int .i64 0, .int .i64 0, .int .i64 0] (n * 4)) 44)) := by
  obtain ⟨i, hi, hz, hs, hb⟩ := info_parts clue_info
  have h := run_make (P := Tryd.prog) W 28 44 i _ Tryd.underlying28 hi hz .i64 .i64 (n : Int) (n : Int) (by omega) (by omega) (by rw [hb]; omega) (by omega)
  simpa [hs, Value.cells] using h

set_option maxHeartbeats 400000 in
theorem toClueS_any (A : Option Addr) (n c : Nat) (bs : List Clu) (B : Nat) (w : World) (hn : bs.length = n) (hlen : n ≤ 1048576) (h : Seg w 0 B A (flat4 bs)) (hB : B ≤ w.heap.size) :
    Calls Tryd.prog 17 #[.slice A n c] w fun e w' => e = .returned (.slice (some ⟨w.heap.size, 0, none⟩) n n) ∧
      Own w' w.heap.size w'.heap.size (some ⟨w.heap.size, 0, none⟩) (flat4 bs) ∧ Below w.heap.size w w' := by
  have hmk := make_clues n hlen
  have HN := Lib.hid hn
  clear hn
  go_enter Tryd.func17, Tryd.ntmps17
  go_wp2
  clear hmk
  go_loopw [4] (fun i wr => ∃ k : Nat, k ≤ n ∧ i = .int .i64 k ∧ Below w.heap.size w wr ∧ Part wr w.heap.size 44 (n * 4) (k * 4) (flat4 bs)) (fun i _ => n - (intOf i).toNat)
  case atStart => exact ⟨0, Nat.zero_le _, rfl, (Below.refl _ _).alloc (Nat.le_refl _) _, clue_part_new _ _ _ _ _ _ _ _⟩
  case round =>
    obtain ⟨k, hk, rfl, hb, hp⟩ := hrel
    by_cases hlt : k < n
    · obtain ⟨b, off, x, y, z, u, rfl, _, hbB, hx, hc0, hc1, hc2, hc3⟩ := h.quad (k := k) (by rw [HN.out]; exact hlt)
      have hcw0 : wr.cell? ⟨b, off + k * 4, none⟩ = some (.int .i64 x) := (hb.cell (by exact Nat.lt_of_lt_of_le hbB hB)).trans hc0
      have hcw1 : wr.cell? ⟨b, off + k * 4 + 1, none⟩ = some (.int .i64 y) := (hb.cell (by exact Nat.lt_of_lt_of_le hbB hB)).trans hc1
      have hcw2 : wr.cell? ⟨b, off + k * 4 + 2, none⟩ = some (.int .i64 z) := (hb.cell (by exact Nat.lt_of_lt_of_le hbB hB)).trans hc2
      have hcw3 : wr.cell? ⟨b, off + k * 4 + 3, none⟩ = some (.int .i64 u) := (hb.cell (by exact Nat.lt_of_lt_of_le hbB hB)).trans hc3
      have HX := Lib.hid hx
      clear hx hc0 hc1 hc2 hc3
      go_wp2_with fail
      refine (toClue_any _ _ _ _ _).mono ?_
      rintro e w1 ⟨rfl, hb1⟩
      have hp1 := hp.keep (hb1.block _ hp.lt)
      have hbb := hb.trans (hb1.mono hb.size)
      obtain ⟨v0, hv0⟩ := hp1.cell (k * 4) (by omega)
      obtain ⟨v1, hv1⟩ := hp1.cell (k * 4 + 1) (by omega)
      obtain ⟨v2, hv2⟩ := hp1.cell (k * 4 + 2) (by omega)
      obtain ⟨v3, hv3⟩ := hp1.cell (k * 4 + 3) (by omega)
      have hf0 := hp1.frozen (k * 4)
      have hf1 := hp1.frozen (k * 4 + 1)
      have hf2 := hp1.frozen (k * 4 + 2)
      have hf3 := hp1.frozen (k * 4 + 3)
      go_wp2
      go_roundw
      case rel => exact ⟨k + 1, by omega, by go_num, (((hbb.setCell (Nat.le_refl _) _).setCell (Nat.le_refl _) _).setCell (Nat.le_refl _) _).setCell (Nat.le_refl _) _, hp1.quad hlt HX.out⟩
      case measure => simp [intOf]; omega
    · obtain rfl : k = n := by omega
      go_wp2
      go_ret
      refine ⟨rfl, ?_, hb⟩
      have hp' : Part wr w.heap.size 44 (k * 4) (flat4 bs).length (flat4 bs) := by rw [flat4_length, HN.out]; exact hp
      exact hp'.own (Nat.le_refl _) hp.lt

set_option maxHeartbeats 1000000 in
theorem eqClueS_b (A C : Option Addr) (n c d : Nat) (bs : List Clu) (lo hi lo' hi' : Nat) (w : World) (hn : bs.length = n) (hlen : n ≤ 1048576) (h : Seg w lo hi A (flat4 bs)) (h' : Seg w lo' hi' C (flat4 bs)) (hB : hi ≤ w.heap.size) (hB' : hi' ≤ w.heap.size) :
    Calls Tryd.prog 21 #[.slice A n c, .slice C n d] w fun e w' => e = .returned (.bool true) ∧ Below w.heap.size w w' := by
  have HN := Lib.hid hn
  clear hn
  go_enter Tryd.func21, Tryd.ntmps21
  go_wp2
  go_loopw [5] (fun i wr => ∃ k : Nat, k ≤ n ∧ i = .int .i64 k ∧ Below w.heap.size w wr) (fun i _ => n - (intOf i).toNat)
  case atStart => exact ⟨0, Nat.zero_le _, rfl, Below.refl _ _⟩
  case round =>
    obtain ⟨k, hk, rfl, hb⟩ := hrel
    have h1 := h.below hb hB
    have h1' := h'.below hb hB'
    by_cases hlt : k < n
    · obtain ⟨b, off, x, y, z, u, rfl, _, _, hx, hc0, hc1, hc2, hc3⟩ := h1.quad (k := k) (by rw [HN.out]; exact hlt)
      obtain ⟨b', off', x', y', z', u', rfl, _, _, hx', hc0', hc1', hc2', hc3'⟩ := h1'.quad (k := k) (by rw [HN.out]; exact hlt)
      obtain ⟨rfl, rfl, rfl, rfl⟩ : x = x' ∧ y = y' ∧ z = z' ∧ u = u' := by rw [hx] at hx'; injection hx' with hx'; injection hx' with e1 e2; injection e2 with e2 e3; injection e3 with e3 e4; exact ⟨e1, e2, e3, e4⟩
      clear hx hx'
      go_wp2_with fail
      refine wp_region_held_drew (S := (fun wq => (Below w.heap.size w wq ∧ wq.cell? ⟨b, off + k * 4, none⟩ = some (.int .i64 x) ∧ wq.cell? ⟨b, off + k * 4 + 1, none⟩ = some (.int .i64 y) ∧ wq.cell? ⟨b, off + k * 4 + 2, none⟩ = some (.int .i64 z) ∧ wq.cell? ⟨b, off + k * 4 + 3, none⟩ = some (.int .i64 u) ∧ wq.cell? ⟨b', off' + k * 4, none⟩ = some (.int .i64 x) ∧ wq.cell? ⟨b', off' + k * 4 + 1, none⟩ = some (.int .i64 y) ∧ wq.cell? ⟨b', off' + k * 4 + 2, none⟩ = some (.int .i64 z) ∧ wq.cell? ⟨b', off' + k * 4 + 3, none⟩ = some (.int .i64 u)))) (by kernel_rfl) ⟨below_drewN hb 1, hc0, hc1, hc2, hc3, hc0', hc1', hc2', hc3'⟩ (fun hH0 => ?_)
      refine wpAnyH_take (i := 0) (v := ?_) (ops_at rfl) (by kernel_rfl) (by kernel_rfl) (by kernel_rfl) (fun _ _ _ h => h) (Or.inl ⟨by rfl, ?yr0⟩) (by assumption) ?nr0
      case yr0 => (intro wS hSw; (try dsimp only at hSw); go_simp; try rfl)
      try simp only [Act.put, List.setIfInBounds_toArray, List.set_cons_zero, List.set_cons_succ]
      refine wpAnyH_take (i := 1) (v := ?_) (ops_at rfl) (by kernel_rfl) (by kernel_rfl) (by kernel_rfl) (fun _ _ _ h => h) (Or.inl ⟨by rfl, ?yr1⟩) (by assumption) ?nr1
      case yr1 => (intro wS hSw; (try dsimp only at hSw); go_simp; try rfl)
      try simp only [Act.put, List.setIfInBounds_toArray, List.set_cons_zero, List.set_cons_succ]
      refine wpAnyH_take (i := 2) (v := ?_) (ops_at rfl) (by kernel_rfl) (by kernel_rfl) (by kernel_rfl) (fun _ _ _ h => h) (Or.inl ⟨by rfl, ?yr2⟩) (by assumption) ?nr2
      case yr2 => (intro wS hSw; (try dsimp only at hSw); go_simp; try rfl)
      try simp only [Act.put, List.setIfInBounds_toArray, List.set_cons_zero, List.set_cons_succ]
      refine wpAnyH_take (i := 3) (v := ?_) (ops_at rfl) (by kernel_rfl) (by kernel_rfl) (by kernel_rfl) (fun _ _ _ h => h) (Or.inl ⟨by rfl, ?yr3⟩) (by assumption) ?nr3
      case yr3 => (intro wS hSw; (try dsimp only at hSw); go_simp; try rfl)
      try simp only [Act.put, List.setIfInBounds_toArray, List.set_cons_zero, List.set_cons_succ]
      refine wpAnyH_take (i := 4) (v := ?_) (ops_at rfl) (by kernel_rfl) (by kernel_rfl) (by kernel_rfl) (fun _ _ _ h => h) (Or.inl ⟨by rfl, ?yr4⟩) (by assumption) ?nr4
      case yr4 => (intro wS hSw; (try dsimp only at hSw); go_simp; try rfl)
      try simp only [Act.put, List.setIfInBounds_toArray, List.set_cons_zero, List.set_cons_succ]
      refine wpAnyH_take (i := 5) (v := ?_) (ops_at rfl) (by kernel_rfl) (by kernel_rfl) (by kernel_rfl) (fun _ _ _ h => h) (Or.inl ⟨by rfl, ?yr5⟩) (by assumption) ?nr5
      case yr5 => (intro wS hSw; (try dsimp only at hSw); go_simp; try rfl)
      try simp only [Act.put, List.setIfInBounds_toArray, List.set_cons_zero, List.set_cons_succ]
      refine wpAnyH_take (i := 6) (v := ?_) (ops_at rfl) (by kernel_rfl) (by kernel_rfl) (by kernel_rfl) (fun _ _ _ h => h) (Or.inl ⟨by rfl, ?yr6⟩) (by assumption) ?nr6
      case yr6 => (intro wS hSw; (try dsimp only at hSw); go_simp; try rfl)
      try simp only [Act.put, List.setIfInBounds_toArray, List.set_cons_zero, List.set_cons_succ]
      refine wpAnyH_take (i := 7) (v := ?_) (ops_at rfl) (by kernel_rfl) (by kernel_rfl) (by kernel_rfl) (fun _ _ _ h => h) (Or.inl ⟨by rfl, ?yr7⟩) (by assumption) ?nr7
      case yr7 => (intro wS hSw; (try dsimp only at hSw); go_simp; try rfl)
      try simp only [Act.put, List.setIfInBounds_toArray, List.set_cons_zero, List.set_cons_succ]
      refine wpAnyH_ready (rs := [8]) (by kernel_rfl) (by simp) ?_
      refine AllReadyH.cons (ops_at rfl) (fun K hK => ?_) AllReadyH.nil
      go_simp
      refine (eqClue_any _ _ _ _ _).mono ?_
      rintro e w2 ⟨rfl, hb2⟩
      refine hK.out _ _ ⟨(hH0.1).trans (hb2.mono (hH0.1).size), (hb2.cell (by have := cell_lt hH0.2.1; exact this)).trans hH0.2.1, (hb2.cell (by have := cell_lt hH0.2.2.1; exact this)).trans hH0.2.2.1, (hb2.cell (by have := cell_lt hH0.2.2.2.1; exact this)).trans hH0.2.2.2.1, (hb2.cell (by have := cell_lt hH0.2.2.2.2.1; exact this)).trans hH0.2.2.2.2.1, (hb2.cell (by have := cell_lt hH0.2.2.2.2.2.1; exact this)).trans hH0.2.2.2.2.2.1, (hb2.cell (by have := cell_lt hH0.2.2.2.2.2.2.1; exact this)).trans hH0.2.2.2.2.2.2.1, (hb2.cell (by have := cell_lt hH0.2.2.2.2.2.2.2.1; exact this)).trans hH0.2.2.2.2.2.2.2.1, (hb2.cell (by have := cell_lt hH0.2.2.2.2.2.2.2.2; exact this)).trans hH0.2.2.2.2.2.2.2.2⟩ (fun hHr8 => ?_)
      clear hK K
      refine wpAnyH_take (i := 9) (v := ?_) (ops_at rfl) (by kernel_rfl) (by kernel_rfl) (by kernel_rfl) (fun _ _ _ h => h) (Or.inl ⟨by rfl, ?yr9⟩) (by assumption) ?nr9
      case yr9 => (intro wS hSw; (try dsimp only at hSw); go_simp; try rfl)
      try simp only [Act.put, List.setIfInBounds_toArray, List.set_cons_zero, List.set_cons_succ]
      refine wpAnyH_done (by kernel_rfl) ?_ _
      go_wp2
      go_roundw
      case rel => exact ⟨k + 1, by omega, by go_num, hHr8.1⟩
      case measure => simp [intOf]; omega
    · go_wp2
      go_ret
      exact ⟨rfl, hb⟩

theorem Part.mark4 {w : World} {g T n k N : Nat} {k0 : Int} (h : Part w g T N (k * 4) (marks k0 (n * 4))) (hk : k < n) (hN : n * 4 ≤ N) :
    Part ((((w.setCell ⟨g, k * 4, none⟩ (.int .i64 (k0 + ((k * 4 : Nat) : Int)))).setCell ⟨g, k * 4 + 1, none⟩ (.int .i64 (k0 + ((k * 4 : Nat) : Int) + 1))).setCell ⟨g, k * 4 + 2, none⟩ (.int .i64 (k0 + ((k * 4 : Nat) : Int) + 1 + 1))).setCell ⟨g, k * 4 + 3, none⟩ (.int .i64 (k0 + ((k * 4 : Nat) : Int) + 1 + 1 + 1))) g T N ((k + 1) * 4) (marks k0 (n * 4)) := by
  have := (((h.mark (by omega) (by omega)).mark (by omega) (by omega)).mark (by omega) (by omega)).mark (by omega) (by omega)
  rw [show (k + 1) * 4 = k * 4 + 1 + 1 + 1 + 1 by omega]
  have e : k0 + ((k * 4 : Nat) : Int) + 1 = k0 + ((k * 4 + 1 : Nat) : Int) := by omega
  have e2 : k0 + ((k * 4 : Nat) : Int) + 1 + 1 = k0 + ((k * 4 + 1 + 1 : Nat) : Int) := by omega
  have e3 : k0 + ((k * 4 : Nat) : Int) + 1 + 1 + 1 = k0 + ((k * 4 + 1 + 1 + 1 : Nat) : Int) := by omega
  rw [e3, e2, e]
  exact this

set_option maxHeartbeats 400000 in
theorem markClueS_any (A : Option Addr) (n c : Nat) (k0 : Int) (bs : List Clu) (lo hi : Nat) (w : World) (hn : bs.length = n) (hlen : n ≤ 1048576) (h0 : 0 ≤ k0) (h1 : k0 ≤ 4611686018427387904) (h : Own w lo hi A (flat4 bs)) :
    Calls Tryd.prog 26 #[.slice A n c, .int .i64 k0] w fun e w' => e = .returned (.int .i64 (k0 + ((n * 4 : Nat) : Int))) ∧ Own w' lo hi A (marks k0 (n * 4)) ∧
      ∃ row, w.grownBy w' row ∧ ∀ g, row = some g → lo ≤ g ∧ g < hi := by
  by_cases hz : n = 0
  · subst hz
    go_enter Tryd.func26, Tryd.ntmps26
    go_wp2
    go_loopw [1, 5] (fun k i wr => k = .int .i64 k0 ∧ i = .int .i64 0 ∧ wr = w) (fun _ _ _ => 0)
    case atStart => exact ⟨rfl, rfl, rfl⟩
    case round =>
      obtain ⟨rfl, rfl, rfl⟩ := hrel
      go_wp2
      go_ret
      exact ⟨by simp, .inl rfl, none, World.grownBy.refl _ _, by simp⟩
  · obtain ⟨g, cs, T, rfl, hlo, hhi, hb, hc⟩ : ∃ b cs T, A = some ⟨b, 0, none⟩ ∧ lo ≤ b ∧ b < hi ∧ w.heap[b]? = some (.cells cs T (0, 0)) ∧ ∀ k, k < (flat4 bs).length → cs[k]? = some (.int .i64 ((flat4 bs).getD k 0)) := by
      rcases h with h | h
      · have h2 := flat4_nil h; subst h2; exact absurd hn.symm hz
      · exact h
    have hfl := flat4_length bs
    have hsz : n * 4 ≤ cs.size := by
      have := hc (n * 4 - 1) (by omega)
      have := (Array.getElem?_eq_some_iff.1 this).1
      omega
    obtain ⟨N, hN⟩ : ∃ N, N = cs.size := ⟨_, rfl⟩
    have hp0 : Part w g T N 0 (marks k0 (n * 4)) := ⟨cs, hb, hN.symm, fun j hj => by omega⟩
    have hNn : n * 4 ≤ N := by omega
    clear hb hc hn hsz hN hfl
    go_enter Tryd.func26, Tryd.ntmps26
    go_wp2
    go_loopw [1, 5] (fun q i wr => ∃ k : Nat, k ≤ n ∧ q = .int .i64 (k0 + ((k * 4 : Nat) : Int)) ∧ i = .int .i64 k ∧ w.grownBy wr (some g) ∧ Part wr g T N (k * 4) (marks k0 (n * 4))) (fun _ i _ => n - (intOf i).toNat)
    case atStart => exact ⟨0, Nat.zero_le _, by simp, rfl, World.grownBy.refl _ _, hp0⟩
    case round =>
      obtain ⟨k, hk, rfl, rfl, hgr, hp⟩ := hrel
      by_cases hlt : k < n
      · obtain ⟨v0, hv0⟩ := hp.cell (k * 4) (by omega)
        obtain ⟨v1, hv1⟩ := hp.cell (k * 4 + 1) (by omega)
        obtain ⟨v2, hv2⟩ := hp.cell (k * 4 + 2) (by omega)
        obtain ⟨v3, hv3⟩ := hp.cell (k * 4 + 3) (by omega)
        have hf0 := hp.frozen (k * 4)
        have hf1 := hp.frozen (k * 4 + 1)
        have hf2 := hp.frozen (k * 4 + 2)
        have hf3 := hp.frozen (k * 4 + 3)
        go_wp2
        go_roundw
        case rel => exact ⟨k + 1, by omega, by go_num, by go_num, grown_set (grown_set (grown_set (grown_set hgr rfl _) rfl _) rfl _) rfl _, hp.mark4 hlt (by omega)⟩
        case measure => simp [intOf]; omega
      · obtain rfl : k = n := by omega
        go_wp2
        go_ret
        refine ⟨rfl, ?_, some g, hgr, by rintro g' ⟨⟩; exact ⟨hlo, hhi⟩⟩
        have hp' : Part wr g T N (marks k0 (k * 4)).length (marks k0 (k * 4)) := by rw [marks_length]; exact hp
        exact hp'.own hlo hhi

end Go.Proofs.YtoheoojpmndhoabDoor

/-
  The law's own copies, comparisons and marks of a slice of pieces.
  Conditions: the slices have at most 1048576 pieces.
-/
import Derived.Test.YtjpejhpilfjheacDoorTriM
import Derived.Test.YtjpejhpilfjheacDoorMem
import Derived.Deep.OwnRows
import Derived.Deep.Slices
import Derived.Deep.Strs
import Derived.ChangeArms
import Derived.Deep.RegionHeld3
namespace Go.Proofs.YtjpejhpilfjheacDoor
set_option linter.unusedVariables false
open Go.RowKit

theorem piece_info : (Tryd.prog.info? 34).map (fun i => (i.zero, i.size, i.bytes)) = some (some (.agg #[.int .i64 0, .int .i64 0, .int .i64 0]), 3, 24) := by kernel_rfl

theorem list3 {α : Type} {cs : List α} (h : cs.length = 3) : ∃ a b c, cs = [a, b, c] := by
  match cs, h with
  | [a, b, c], _ => exact ⟨a, b, c, rfl⟩

/-- 'n' things, those below 'k' written already. -/
theorem Part.tri {w : World} {g T n k : Nat} {bs : List (Int × Int × Int)} {x y z : Int} (h : Part w g T (n * 3) (k * 3) (flat3 bs)) (hk : k < n) (hu : bs[k]? = some (x, y, z)) :
    Part (((w.setCell ⟨g, k * 3, none⟩ (.int .i64 x)).setCell ⟨g, k * 3 + 1, none⟩ (.int .i64 y)).setCell ⟨g, k * 3 + 2, none⟩ (.int .i64 z)) g T (n * 3) ((k + 1) * 3) (flat3 bs) := by
  obtain ⟨h1, h2, h3⟩ := flat3_at hu
  have := ((h.step (by omega) h1).step (by omega) h2).step (by omega) h3
  rwa [show k * 3 + 1 + 1 + 1 = (k + 1) * 3 by omega] at this

theorem eqPiece_any (x y z : Int) (w : World) :
    Calls Tryd.prog 15 #[.agg #[.int .i64 x, .int .i64 y, .int .i64 z], .agg #[.int .i64 x, .int .i64 y, .int .i64 z]] w fun e w' => e = .returned (.bool true) ∧ Below w.heap.size w w' := by
  go_enter Tryd.func15, Tryd.ntmps15
  go_wp2
  go_ret
  exact ⟨rfl, ((Below.refl _ _).alloc (Nat.le_refl _) _).alloc (by simp) _⟩

theorem piece_part_new (w : World) (T n : Nat) (z z' z2 : Value) (xs : List Int) : Part (w.alloc (.cells (madeCells #[z, z', z2] (n * 3)) T)) w.heap.size T (n * 3) 0 xs :=
  ⟨madeCells #[z, z', z2] (n * 3), heap_alloc_new w _, by simp [madeCells], fun j hj => by omega⟩

theorem make_pieces (n : Nat) (hn : n ≤ 1048576) (W : World) : (Instr.makeSlice 22 (.int .i64 (n : Int)) (.int .i64 (n : Int))).run Tryd.prog W =
    .ok (.slice (some ⟨W.heap.size, 0, none⟩) n n) (W.alloc (.cells (madeCells #[.int .i64 0, .int .i64 0, .int .i64 0] (n * 3)) 34)) := by
  obtain ⟨i, hi, hz, hs, hb⟩ := info_parts piece_info
  have h := run_make (P := Tryd.prog) W 22 34 i _ Tryd.underlying22 hi hz .i64 .i64 (n : Int) (n : Int) (by omega) (by omega) (by rw [hb]; omega) (by omega)
  simpa [hs, Value.cells] using h

set_option maxHeartbeats 1000000 in
theorem eqPieceS_b (A C : Option Addr) (n c d : Nat) (bs : List (Int × Int × Int)) (lo hi lo' hi' : Nat) (w : World) (hn : bs.length = n) (hlen : n ≤ 1048576) (h : Seg w lo hi A (flat3 bs)) (h' : Seg w lo' hi' C (flat3 bs)) (hB : hi ≤ w.heap.size) (hB' : hi' ≤ w.heap.size) :
    Calls Tryd.prog 6 #[.slice A n c, .slice C n d] w fun e w' => e = .returned (.bool true) ∧ Below w.heap.size w w' := by
  have HN := Lib.hid hn
  clear hn
  go_enter Tryd.func6, Tryd.ntmps6
  go_wp2
  go_loopw [5] (fun i wr => ∃ k : Nat, k ≤ n ∧ i = .int .i64 k ∧ Below w.heap.size w wr) (fun i _ => n - (intOf i).toNat)
  case atStart => exact ⟨0, Nat.zero_le _, rfl, Below.refl _ _⟩
  case round =>
    obtain ⟨k, hk, rfl, hb⟩ := hrel
    have h1 := h.below hb hB
    have h1' := h'.below hb hB'
    by_cases hlt : k < n
    · obtain ⟨b, off, x, y, z, rfl, _, _, hx, hc0, hc1, hc2⟩ := h1.tri (k := k) (by rw [HN.out]; exact hlt)
      obtain ⟨b', off', x', y', z', rfl, _, _, hx', hc0', hc1', hc2'⟩ := h1'.tri (k := k) (by rw [HN.out]; exact hlt)
      obtain ⟨rfl, rfl, rfl⟩ : x = x' ∧ y = y' ∧ z = z' := by rw [hx] at hx'; injection hx' with hx'; injection hx' with e1 e2; injection e2 with e2 e3; exact ⟨e1, e2, e3⟩
      clear hx hx'
      go_wp2_with fail
      refine wp_region_held_drew (S := (fun wq => (Below w.heap.size w wq ∧ wq.cell? ⟨b, off + k * 3, none⟩ = some (.int .i64 x) ∧ wq.cell? ⟨b, off + k * 3 + 1, none⟩ = some (.int .i64 y) ∧ wq.cell? ⟨b, off + k * 3 + 2, none⟩ = some (.int .i64 z) ∧ wq.cell? ⟨b', off' + k * 3, none⟩ = some (.int .i64 x) ∧ wq.cell? ⟨b', off' + k * 3 + 1, none⟩ = some (.int .i64 y) ∧ wq.cell? ⟨b', off' + k * 3 + 2, none⟩ = some (.int .i64 z)))) (by kernel_rfl) ⟨below_drewN hb 1, hc0, hc1, hc2, hc0', hc1', hc2'⟩ (fun hH0 => ?_)
      refine wpAnyH_take (i := 0) (v := ?_) (ops_at rfl) (by kernel_rfl) (by kernel_rfl) (by kernel_rfl) (fun _ _ _ h => h) (Or.inl ⟨by rfl, ?yr0⟩) (by assumption) ?nr0
      case yr0 => (intro wS hSw; (try dsimp only at hSw); go_simp; try rfl)
      try simp only [Act.put, List.setIfInBounds_toArray, List.set_cons_zero, List.set_cons_succ]
      refine wpAnyH_take (i := 1) (v := ?_) (ops_at rfl) (by kernel_rfl) (by kernel_rfl) (by kernel_rfl) (fun _ _ _ h => h) (Or.inl ⟨by rfl, ?yr1⟩) (by assumption) ?nr1
      case yr1 => (intro wS hSw; (try dsimp only at hSw); go_simp; try rfl)
      try simp only [Act.put, List.setIfInBounds_toArray, List.set_cons_zero, List.set_cons_succ]
      refine wpAnyH_take (i := 2) (v := ?_) (ops_at rfl) (by kernel_rfl) (by kernel_rfl) (by kernel_rfl) (fun _ _ _ h => h) (Or.inl ⟨by rfl, ?yr2⟩) (by assumption) ?nr2
      case yr2 => (intro wS hSw; (try dsimp only at hSw); go_simp; try rfl)
      try simp only [Act.put, List.setIfInBounds_toArray, List.set_cons_zero, List.set_cons_succ]
      refine wpAnyH_take (i := 3) (v := ?_) (ops_at rfl) (by kernel_rfl) (by kernel_rfl) (by kernel_rfl) (fun _ _ _ h => h) (Or.inl ⟨by rfl, ?yr3⟩) (by assumption) ?nr3
      case yr3 => (intro wS hSw; (try dsimp only at hSw); go_simp; try rfl)
      try simp only [Act.put, List.setIfInBounds_toArray, List.set_cons_zero, List.set_cons_succ]
      refine wpAnyH_take (i := 4) (v := ?_) (ops_at rfl) (by kernel_rfl) (by kernel_rfl) (by kernel_rfl) (fun _ _ _ h => h) (Or.inl ⟨by rfl, ?yr4⟩) (by assumption) ?nr4
      case yr4 => (intro wS hSw; (try dsimp only at hSw); go_simp; try rfl)
      try simp only [Act.put, List.setIfInBounds_toArray, List.set_cons_zero, List.set_cons_succ]
      refine wpAnyH_take (i := 5) (v := ?_) (ops_at rfl) (by kernel_rfl) (by kernel_rfl) (by kernel_rfl) (fun _ _ _ h => h) (Or.inl ⟨by rfl, ?yr5⟩) (by assumption) ?nr5
      case yr5 => (intro wS hSw; (try dsimp only at hSw); go_simp; try rfl)
      try simp only [Act.put, List.setIfInBounds_toArray, List.set_cons_zero, List.set_cons_succ]
      refine wpAnyH_take (i := 6) (v := ?_) (ops_at rfl) (by kernel_rfl) (by kernel_rfl) (by kernel_rfl) (fun _ _ _ h => h) (Or.inl ⟨by rfl, ?yr6⟩) (by assumption) ?nr6
      case yr6 => (intro wS hSw; (try dsimp only at hSw); go_simp; try rfl)
      try simp only [Act.put, List.setIfInBounds_toArray, List.set_cons_zero, List.set_cons_succ]
      refine wpAnyH_take (i := 7) (v := ?_) (ops_at rfl) (by kernel_rfl) (by kernel_rfl) (by kernel_rfl) (fun _ _ _ h => h) (Or.inl ⟨by rfl, ?yr7⟩) (by assumption) ?nr7
      case yr7 => (intro wS hSw; (try dsimp only at hSw); go_simp; try rfl)
      try simp only [Act.put, List.setIfInBounds_toArray, List.set_cons_zero, List.set_cons_succ]
      refine wpAnyH_ready (rs := [8]) (by kernel_rfl) (by simp) ?_
      refine AllReadyH.cons (ops_at rfl) (fun K hK => ?_) AllReadyH.nil
      go_simp
      refine (eqPiece_any _ _ _ _).mono ?_
      rintro e w2 ⟨rfl, hb2⟩
      refine hK.out _ _ ⟨(hH0.1).trans (hb2.mono (hH0.1).size), (hb2.cell (by have := cell_lt hH0.2.1; exact this)).trans hH0.2.1, (hb2.cell (by have := cell_lt hH0.2.2.1; exact this)).trans hH0.2.2.1, (hb2.cell (by have := cell_lt hH0.2.2.2.1; exact this)).trans hH0.2.2.2.1, (hb2.cell (by have := cell_lt hH0.2.2.2.2.1; exact this)).trans hH0.2.2.2.2.1, (hb2.cell (by have := cell_lt hH0.2.2.2.2.2.1; exact this)).trans hH0.2.2.2.2.2.1, (hb2.cell (by have := cell_lt hH0.2.2.2.2.2.2; exact this)).trans hH0.2.2.2.2.2.2⟩ (fun hHr8 => ?_)
      clear hK K
      refine wpAnyH_take (i := 9) (v := ?_) (ops_at rfl) (by kernel_rfl) (by kernel_rfl) (by kernel_rfl) (fun _ _ _ h => h) (Or.inl ⟨by rfl, ?yr9⟩) (by assumption) ?nr9
      case yr9 => (intro wS hSw; (try dsimp only at hSw); go_simp; try rfl)
      try simp only [Act.put, List.setIfInBounds_toArray, List.set_cons_zero, List.set_cons_succ]
      refine wpAnyH_done (by kernel_rfl) ?_ _
      go_wp2
      go_roundw
      case rel => exact ⟨k + 1, by omega, by go_num, hHr8.1⟩
      case measure => simp [intOf]; omega
    · go_wp2
      go_ret
      exact ⟨rfl, hb⟩

theorem Part.mark3 {w : World} {g T n k N : Nat} {k0 : Int} (h : Part w g T N (k * 3) (marks k0 (n * 3))) (hk : k < n) (hN : n * 3 ≤ N) :
    Part (((w.setCell ⟨g, k * 3, none⟩ (.int .i64 (k0 + ((k * 3 : Nat) : Int)))).setCell ⟨g, k * 3 + 1, none⟩ (.int .i64 (k0 + ((k * 3 : Nat) : Int) + 1))).setCell ⟨g, k * 3 + 2, none⟩ (.int .i64 (k0 + ((k * 3 : Nat) : Int) + 1 + 1))) g T N ((k + 1) * 3) (marks k0 (n * 3)) := by
  have := ((h.mark (by omega) (by omega)).mark (by omega) (by omega)).mark (by omega) (by omega)
  rw [show (k + 1) * 3 = k * 3 + 1 + 1 + 1 by omega]
  have e : k0 + ((k * 3 : Nat) : Int) + 1 = k0 + ((k * 3 + 1 : Nat) : Int) := by omega
  have e2 : k0 + ((k * 3 : Nat) : Int) + 1 + 1 = k0 + ((k * 3 + 1 + 1 : Nat) : Int) := by omega
  rw [e2, e]
  exact this

set_option maxHeartbeats 400000 in
theorem markPieceS_any (A : Option Addr) (n c : Nat) (k0 : Int) (bs : List (Int × Int × Int)) (lo hi : Nat) (w : World) (hn : bs.length = n) (hlen : n ≤ 1048576) (h0 : 0 ≤ k0) (h1 : k0 ≤ 4611686018427387904) (h : Own w lo hi A (flat3 bs)) :
    Calls Tryd.prog 7 #[.slice A n c, .int .i64 k0] w fun e w' => e = .returned (.int .i64 (k0 + ((n * 3 : Nat) : Int))) ∧ Own w' lo hi A (marks k0 (n * 3)) ∧
      ∃ row, w.grownBy w' row ∧ ∀ g, row = some g → lo ≤ g ∧ g < hi := by
  by_cases hz : n = 0
  · subst hz
    go_enter Tryd.func7, Tryd.ntmps7
    go_wp2
    go_loopw [1, 5] (fun k i wr => k = .int .i64 k0 ∧ i = .int .i64 0 ∧ wr = w) (fun _ _ _ => 0)
    case atStart => exact ⟨rfl, rfl, rfl⟩
    case round =>
      obtain ⟨rfl, rfl, rfl⟩ := hrel
      go_wp2
      go_ret
      exact ⟨by simp, .inl rfl, none, World.grownBy.refl _ _, by simp⟩
  · obtain ⟨g, cs, T, rfl, hlo, hhi, hb, hc⟩ : ∃ b cs T, A = some ⟨b, 0, none⟩ ∧ lo ≤ b ∧ b < hi ∧ w.heap[b]? = some (.cells cs T (0, 0)) ∧ ∀ k, k < (flat3 bs).length → cs[k]? = some (.int .i64 ((flat3 bs).getD k 0)) := by
      rcases h with h | h
      · have h2 := flat3_nil h; subst h2; exact absurd hn.symm hz
      · exact h
    have hfl := flat3_length bs
    have hsz : n * 3 ≤ cs.size := by
      have := hc (n * 3 - 1) (by omega)
      have := (Array.getElem?_eq_some_iff.1 this).1
      omega
    obtain ⟨N, hN⟩ : ∃ N, N = cs.size := ⟨_, rfl⟩
    have hp0 : Part w g T N 0 (marks k0 (n * 3)) := ⟨cs, hb, hN.symm, fun j hj => by omega⟩
    have hNn : n * 3 ≤ N := by omega
    clear hb hc hn hsz hN hfl
    go_enter Tryd.func7, Tryd.ntmps7
    go_wp2
    go_loopw [1, 5] (fun q i wr => ∃ k : Nat, k ≤ n ∧ q = .int .i64 (k0 + ((k * 3 : Nat) : Int)) ∧ i = .int .i64 k ∧ w.grownBy wr (some g) ∧ Part wr g T N (k * 3) (marks k0 (n * 3))) (fun _ i _ => n - (intOf i).toNat)
    case atStart => exact ⟨0, Nat.zero_le _, by simp, rfl, World.grownBy.refl _ _, hp0⟩
    case round =>
      obtain ⟨k, hk, rfl, rfl, hgr, hp⟩ := hrel
      by_cases hlt : k < n
      · obtain ⟨v0, hv0⟩ := hp.cell (k * 3) (by omega)
        obtain ⟨v1, hv1⟩ := hp.cell (k * 3 + 1) (by omega)
        obtain ⟨v2, hv2⟩ := hp.cell (k * 3 + 2) (by omega)
        have hf0 := hp.frozen (k * 3)
        have hf1 := hp.frozen (k * 3 + 1)
        have hf2 := hp.frozen (k * 3 + 2)
        go_wp2
        go_roundw
        case rel => exact ⟨k + 1, by omega, by go_num, by go_num, grown_set (grown_set (grown_set hgr rfl _) rfl _) rfl _, hp.mark3 hlt (by omega)⟩
        case measure => simp [intOf]; omega
      · obtain rfl : k = n := by omega
        go_wp2
        go_ret
        refine ⟨rfl, ?_, some g, hgr, by rintro g' ⟨⟩; exact ⟨hlo, hhi⟩⟩
        have hp' : Part wr g T N (marks k0 (k * 3)).length (marks k0 (k * 3)) := by rw [marks_length]; exact hp
        exact hp'.own hlo hhi

end Go.Proofs.YtjpejhpilfjheacDoor

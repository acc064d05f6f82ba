/-
  The law's own copies, comparisons and marks of a slice of books.
  Conditions: the slices have at most 1048576 books.
-/
import Derived.Test.YtbaofgbkcolmmabDoorBookM
import Derived.Test.YtbaofgbkcolmmabDoorMem
import Derived.Deep.OwnRows
import Derived.Deep.SlicePairs
import Derived.ChangeArms
import Derived.Deep.RegionHeld3
namespace Go.Proofs.YtbaofgbkcolmmabDoor
set_option linter.unusedVariables false
open Go.RowKit

theorem book_info : (Tryd.prog.info? 83).map (fun i => (i.zero, i.size, i.bytes)) = some (some (.agg #[.int .i64 0, .int .i64 0]), 2, 16) := by kernel_rfl

def ival : Value → Int
  | .int _ n => n
  | _ => 0

/-- 'n' books, those below 'k' written already. -/
theorem Part.book {w : World} {g T n k : Nat} {bs : List (Int × Int)} {t u : Int} (h : Part w g T (n * 2) (k * 2) (flat bs)) (hk : k < n) (hu : bs[k]? = some (t, u)) :
    Part ((w.setCell ⟨g, k * 2, none⟩ (.int .i64 t)).setCell ⟨g, k * 2 + 1, none⟩ (.int .i64 u)) g T (n * 2) ((k + 1) * 2) (flat bs) := by
  obtain ⟨h1, h2⟩ := flat_at hu
  have := (h.step (by omega) h1).step (by omega) h2
  rwa [show k * 2 + 1 + 1 = (k + 1) * 2 by omega] at this

theorem eqBook_any (t u : Int) (w : World) :
    Calls Tryd.prog 64 #[.agg #[.int .i64 t, .int .i64 u], .agg #[.int .i64 t, .int .i64 u]] w fun e w' => e = .returned (.bool true) ∧ Below w.heap.size w w' := by
  go_enter Tryd.func64, Tryd.ntmps64
  go_wp2
  go_ret
  exact ⟨rfl, ((Below.refl _ _).alloc (Nat.le_refl _) _).alloc (by simp) _⟩

theorem book_part_new (w : World) (T n : Nat) (z z' : Value) (xs : List Int) : Part (w.alloc (.cells (madeCells #[z, z'] (n * 2)) T)) w.heap.size T (n * 2) 0 xs :=
  ⟨madeCells #[z, z'] (n * 2), heap_alloc_new w _, by simp [madeCells], fun j hj => by omega⟩

theorem make_books (n : Nat) (hn : n ≤ 1048576) (W : World) : (Instr.makeSlice 39 (.int .i64 (n : Int)) (.int .i64 (n : Int))).run Tryd.prog W =
    .ok (.slice (some ⟨W.heap.size, 0, none⟩) n n) (W.alloc (.cells (madeCells #[.int .i64 0, .int .i64 0] (n * 2)) 83)) := by
  obtain ⟨i, hi, hz, hs, hb⟩ := info_parts book_info
  have h := run_make (P := Tryd.prog) W 39 83 i _ Tryd.underlying39 hi hz .i64 .i64 (n : Int) (n : Int) (by omega) (by omega) (by rw [hb]; omega) (by omega)
  simpa [hs, Value.cells] using h

set_option maxHeartbeats 1000000 in
theorem eqBookS_b (A C : Option Addr) (n c d : Nat) (bs : List (Int × Int)) (lo hi lo' hi' : Nat) (w : World) (hn : bs.length = n) (hlen : n ≤ 1048576) (h : Seg w lo hi A (flat bs)) (h' : Seg w lo' hi' C (flat bs)) (hB : hi ≤ w.heap.size) (hB' : hi' ≤ w.heap.size) :
    Calls Tryd.prog 25 #[.slice A n c, .slice C n d] w fun e w' => e = .returned (.bool true) ∧ Below w.heap.size w w' := by
  have HN := Lib.hid hn
  clear hn
  go_enter Tryd.func25, Tryd.ntmps25
  go_wp2
  go_loopw [5] (fun i wr => ∃ k : Nat, k ≤ n ∧ i = .int .i64 k ∧ Below w.heap.size w wr) (fun i _ => n - (intOf i).toNat)
  case atStart => exact ⟨0, Nat.zero_le _, rfl, Below.refl _ _⟩
  case round =>
    obtain ⟨k, hk, rfl, hb⟩ := hrel
    have h1 := h.below hb hB
    have h1' := h'.below hb hB'
    by_cases hlt : k < n
    · obtain ⟨b, off, t, u, rfl, _, _, hx, hc0, hc1⟩ := h1.book (k := k) (by rw [HN.out]; exact hlt)
      obtain ⟨b', off', t', u', rfl, _, _, hx', hc0', hc1'⟩ := h1'.book (k := k) (by rw [HN.out]; exact hlt)
      obtain ⟨rfl, rfl⟩ : t = t' ∧ u = u' := by rw [hx] at hx'; injection hx' with hx'; injection hx' with e1 e2; exact ⟨e1, e2⟩
      clear hx hx'
      go_wp2_with fail
      refine wp_region_held_drew (S := (fun wq => (Below w.heap.size w wq ∧ wq.cell? ⟨b, off + k * 2, none⟩ = some (.int .i64 t) ∧ wq.cell? ⟨b, off + k * 2 + 1, none⟩ = some (.int .i64 u) ∧ wq.cell? ⟨b', off' + k * 2, none⟩ = some (.int .i64 t) ∧ wq.cell? ⟨b', off' + k * 2 + 1, none⟩ = some (.int .i64 u)))) (by kernel_rfl) ⟨below_drewN hb 1, hc0, hc1, hc0', hc1'⟩ (fun hH0 => ?_)
      refine wpAnyH_take (i := 0) (v := ?_) (ops_at rfl) (by kernel_rfl) (by kernel_rfl) (by kernel_rfl) (fun _ _ _ h => h) (Or.inl ⟨by rfl, ?yr0⟩) (by assumption) ?nr0
      case yr0 => (intro wS hSw; (try dsimp only at hSw); go_simp; try rfl)
      try simp only [Act.put, List.setIfInBounds_toArray, List.set_cons_zero, List.set_cons_succ]
      refine wpAnyH_take (i := 1) (v := ?_) (ops_at rfl) (by kernel_rfl) (by kernel_rfl) (by kernel_rfl) (fun _ _ _ h => h) (Or.inl ⟨by rfl, ?yr1⟩) (by assumption) ?nr1
      case yr1 => (intro wS hSw; (try dsimp only at hSw); go_simp; try rfl)
      try simp only [Act.put, List.setIfInBounds_toArray, List.set_cons_zero, List.set_cons_succ]
      refine wpAnyH_take (i := 2) (v := ?_) (ops_at rfl) (by kernel_rfl) (by kernel_rfl) (by kernel_rfl) (fun _ _ _ h => h) (Or.inl ⟨by rfl, ?yr2⟩) (by assumption) ?nr2
      case yr2 => (intro wS hSw; (try dsimp only at hSw); go_simp; try rfl)
      try simp only [Act.put, List.setIfInBounds_toArray, List.set_cons_zero, List.set_cons_succ]
      refine wpAnyH_take (i := 3) (v := ?_) (ops_at rfl) (by kernel_rfl) (by kernel_rfl) (by kernel_rfl) (fun _ _ _ h => h) (Or.inl ⟨by rfl, ?yr3⟩) (by assumption) ?nr3
      case yr3 => (intro wS hSw; (try dsimp only at hSw); go_simp; try rfl)
      try simp only [Act.put, List.setIfInBounds_toArray, List.set_cons_zero, List.set_cons_succ]
      refine wpAnyH_take (i := 4) (v := ?_) (ops_at rfl) (by kernel_rfl) (by kernel_rfl) (by kernel_rfl) (fun _ _ _ h => h) (Or.inl ⟨by rfl, ?yr4⟩) (by assumption) ?nr4
      case yr4 => (intro wS hSw; (try dsimp only at hSw); go_simp; try rfl)
      try simp only [Act.put, List.setIfInBounds_toArray, List.set_cons_zero, List.set_cons_succ]
      refine wpAnyH_take (i := 5) (v := ?_) (ops_at rfl) (by kernel_rfl) (by kernel_rfl) (by kernel_rfl) (fun _ _ _ h => h) (Or.inl ⟨by rfl, ?yr5⟩) (by assumption) ?nr5
      case yr5 => (intro wS hSw; (try dsimp only at hSw); go_simp; try rfl)
      try simp only [Act.put, List.setIfInBounds_toArray, List.set_cons_zero, List.set_cons_succ]
      refine wpAnyH_take (i := 6) (v := ?_) (ops_at rfl) (by kernel_rfl) (by kernel_rfl) (by kernel_rfl) (fun _ _ _ h => h) (Or.inl ⟨by rfl, ?yr6⟩) (by assumption) ?nr6
      case yr6 => (intro wS hSw; (try dsimp only at hSw); go_simp; try rfl)
      try simp only [Act.put, List.setIfInBounds_toArray, List.set_cons_zero, List.set_cons_succ]
      refine wpAnyH_take (i := 7) (v := ?_) (ops_at rfl) (by kernel_rfl) (by kernel_rfl) (by kernel_rfl) (fun _ _ _ h => h) (Or.inl ⟨by rfl, ?yr7⟩) (by assumption) ?nr7
      case yr7 => (intro wS hSw; (try dsimp only at hSw); go_simp; try rfl)
      try simp only [Act.put, List.setIfInBounds_toArray, List.set_cons_zero, List.set_cons_succ]
      refine wpAnyH_ready (rs := [8]) (by kernel_rfl) (by simp) ?_
      refine AllReadyH.cons (ops_at rfl) (fun K hK => ?_) AllReadyH.nil
      go_simp
      refine (eqBook_any _ _ _).mono ?_
      rintro e w2 ⟨rfl, hb2⟩
      refine hK.out _ _ ⟨(hH0.1).trans (hb2.mono (hH0.1).size), (hb2.cell (by have := cell_lt hH0.2.1; exact this)).trans hH0.2.1, (hb2.cell (by have := cell_lt hH0.2.2.1; exact this)).trans hH0.2.2.1, (hb2.cell (by have := cell_lt hH0.2.2.2.1; exact this)).trans hH0.2.2.2.1, (hb2.cell (by have := cell_lt hH0.2.2.2.2; exact this)).trans hH0.2.2.2.2⟩ (fun hHr8 => ?_)
      clear hK K
      refine wpAnyH_take (i := 9) (v := ?_) (ops_at rfl) (by kernel_rfl) (by kernel_rfl) (by kernel_rfl) (fun _ _ _ h => h) (Or.inl ⟨by rfl, ?yr9⟩) (by assumption) ?nr9
      case yr9 => (intro wS hSw; (try dsimp only at hSw); go_simp; try rfl)
      try simp only [Act.put, List.setIfInBounds_toArray, List.set_cons_zero, List.set_cons_succ]
      refine wpAnyH_done (by kernel_rfl) ?_ _
      go_wp2
      go_roundw
      case rel => exact ⟨k + 1, by omega, by go_num, hHr8.1⟩
      case measure => simp [intOf]; omega
    · go_wp2
      go_ret
      exact ⟨rfl, hb⟩

theorem Part.mark2 {w : World} {g T n k N : Nat} {k0 : Int} (h : Part w g T N (k * 2) (marks k0 (n * 2))) (hk : k < n) (hN : n * 2 ≤ N) :
    Part ((w.setCell ⟨g, k * 2, none⟩ (.int .i64 (k0 + ((k * 2 : Nat) : Int)))).setCell ⟨g, k * 2 + 1, none⟩ (.int .i64 (k0 + ((k * 2 : Nat) : Int) + 1))) g T N ((k + 1) * 2) (marks k0 (n * 2)) := by
  have := (h.mark (by omega) (by omega)).mark (by omega) (by omega)
  rw [show (k + 1) * 2 = k * 2 + 1 + 1 by omega]
  have e : k0 + ((k * 2 : Nat) : Int) + 1 = k0 + ((k * 2 + 1 : Nat) : Int) := by omega
  rw [e]
  exact this

set_option maxHeartbeats 400000 in
theorem markBookS_any (A : Option Addr) (n c : Nat) (k0 : Int) (bs : List (Int × Int)) (lo hi : Nat) (w : World) (hn : bs.length = n) (hlen : n ≤ 1048576) (h0 : 0 ≤ k0) (h1 : k0 ≤ 4611686018427387904) (h : Own w lo hi A (flat bs)) :
    Calls Tryd.prog 26 #[.slice A n c, .int .i64 k0] w fun e w' => e = .returned (.int .i64 (k0 + ((n * 2 : Nat) : Int))) ∧ Own w' lo hi A (marks k0 (n * 2)) ∧
      ∃ row, w.grownBy w' row ∧ ∀ g, row = some g → lo ≤ g ∧ g < hi := by
  by_cases hz : n = 0
  · subst hz
    go_enter Tryd.func26, Tryd.ntmps26
    go_wp2
    go_loopw [1, 5] (fun k i wr => k = .int .i64 k0 ∧ i = .int .i64 0 ∧ wr = w) (fun _ _ _ => 0)
    case atStart => exact ⟨rfl, rfl, rfl⟩
    case round =>
      obtain ⟨rfl, rfl, rfl⟩ := hrel
      go_wp2
      go_ret
      exact ⟨by simp, .inl rfl, none, World.grownBy.refl _ _, by simp⟩
  · obtain ⟨g, cs, T, rfl, hlo, hhi, hb, hc⟩ : ∃ b cs T, A = some ⟨b, 0, none⟩ ∧ lo ≤ b ∧ b < hi ∧ w.heap[b]? = some (.cells cs T (0, 0)) ∧ ∀ k, k < (flat bs).length → cs[k]? = some (.int .i64 ((flat bs).getD k 0)) := by
      rcases h with h | h
      · have h2 := flat_nil h; subst h2; exact absurd hn.symm hz
      · exact h
    have hfl := flat_length bs
    have hsz : n * 2 ≤ cs.size := by
      have := hc (n * 2 - 1) (by omega)
      have := (Array.getElem?_eq_some_iff.1 this).1
      omega
    obtain ⟨N, hN⟩ : ∃ N, N = cs.size := ⟨_, rfl⟩
    have hp0 : Part w g T N 0 (marks k0 (n * 2)) := ⟨cs, hb, hN.symm, fun j hj => by omega⟩
    have hNn : n * 2 ≤ N := by omega
    clear hb hc hn hsz hN hfl
    go_enter Tryd.func26, Tryd.ntmps26
    go_wp2
    go_loopw [1, 5] (fun q i wr => ∃ k : Nat, k ≤ n ∧ q = .int .i64 (k0 + ((k * 2 : Nat) : Int)) ∧ i = .int .i64 k ∧ w.grownBy wr (some g) ∧ Part wr g T N (k * 2) (marks k0 (n * 2))) (fun _ i _ => n - (intOf i).toNat)
    case atStart => exact ⟨0, Nat.zero_le _, by simp, rfl, World.grownBy.refl _ _, hp0⟩
    case round =>
      obtain ⟨k, hk, rfl, rfl, hgr, hp⟩ := hrel
      by_cases hlt : k < n
      · obtain ⟨v0, hv0⟩ := hp.cell (k * 2) (by omega)
        obtain ⟨v1, hv1⟩ := hp.cell (k * 2 + 1) (by omega)
        have hf0 := hp.frozen (k * 2)
        have hf1 := hp.frozen (k * 2 + 1)
        go_wp2
        go_roundw
        case rel => exact ⟨k + 1, by omega, by go_num, by go_num, grown_set (grown_set hgr rfl _) rfl _, hp.mark2 hlt (by omega)⟩
        case measure => simp [intOf]; omega
      · obtain rfl : k = n := by omega
        go_wp2
        go_ret
        refine ⟨rfl, ?_, some g, hgr, by rintro g' ⟨⟩; exact ⟨hlo, hhi⟩⟩
        have hp' : Part wr g T N (marks k0 (k * 2)).length (marks k0 (k * 2)) := by rw [marks_length]; exact hp
        exact hp'.own hlo hhi

theorem heldBookS_any (A : Option Addr) (n c : Nat) (k0 : Int) (lo hi : Nat) (w : World) (hlen : n ≤ 1048576) (h0 : 0 ≤ k0) (h1 : k0 ≤ 4611686018427387904) (h : Seg w lo hi A (marks k0 (n * 2))) :
    Calls Tryd.prog 27 #[.slice A n c, .int .i64 k0] w fun e w' => e = .returned (.int .i64 (k0 + ((n * 2 : Nat) : Int))) ∧ w = w' := by
  go_enter Tryd.func27, Tryd.ntmps27
  go_wp2
  go_loop [1, 5] (fun q i => ∃ k : Nat, k ≤ n ∧ q = .int .i64 (k0 + ((k * 2 : Nat) : Int)) ∧ i = .int .i64 k) (fun _ i => n - (intOf i).toNat)
  case atStart => exact ⟨0, Nat.zero_le _, by simp, rfl⟩
  case round =>
    obtain ⟨k, hk, rfl, rfl⟩ := hrel
    by_cases hlt : k < n
    · obtain ⟨b, off, u, rfl, _, _, hx, hc⟩ := h.at_ (k := k * 2) (by rw [marks_length]; omega)
      obtain ⟨b', off', u', hA, _, _, hx', hc'⟩ := h.at_ (k := k * 2 + 1) (by rw [marks_length]; omega)
      obtain ⟨rfl, rfl⟩ : b = b' ∧ off = off' := by injection hA with hA; injection hA with h1 h2; exact ⟨h1, h2⟩
      obtain rfl : k0 + ((k * 2 : Nat) : Int) = u := by rw [marks_at k0 (n * 2) (k * 2) (by omega)] at hx; injection hx
      obtain rfl : k0 + ((k * 2 + 1 : Nat) : Int) = u' := by rw [marks_at k0 (n * 2) (k * 2 + 1) (by omega)] at hx'; injection hx'
      have hc2 : w.cell? ⟨b, off + k * 2 + 1, none⟩ = some (.int .i64 (k0 + (k : Int) * 2 + 1)) := by rw [Nat.add_assoc, hc']; congr 2; omega
      clear hx hx' hA hc'
      go_wp2
      go_round
      case rel => exact ⟨k + 1, by omega, by go_num, by go_num⟩
      case measure => simp [intOf]; omega
    · obtain rfl : k = n := by omega
      go_wp2
      go_ret
      exact ⟨rfl, rfl⟩
end Go.Proofs.YtbaofgbkcolmmabDoor

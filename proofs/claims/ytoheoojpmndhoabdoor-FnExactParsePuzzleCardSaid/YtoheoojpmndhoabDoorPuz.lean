/-
  The law's own copies, comparisons and marks of a puzzle.
  Conditions: the puzzle has at most 1048576 clues.
-/
import Derived.Test.YtoheoojpmndhoabDoorClusHeld
namespace Go.Proofs.YtoheoojpmndhoabDoor
set_option linter.unusedVariables false
open Go.RowKit


theorem szPuzzle_any (t : Int) (A : Option Addr) (n c : Nat) (w : World) (hlen : n ≤ 1048576) :
    Calls Tryd.prog 5 #[pzV t A n c, .int .i64 1048576] w fun e w' => e = .returned (.int .i64 (1048576 - (n : Int))) ∧ Below w.heap.size w w' := by
  go_enter Tryd.func5, Tryd.ntmps5
  go_wp2_with (go_at_call 14; refine (szClueS_any _ _ _ _ hlen).mono ?_; rintro e w' ⟨rfl, rfl⟩)
  go_ret
  exact ⟨rfl, (Below.refl _ _).alloc (Nat.le_refl _) _⟩

theorem szPuzzle_big (t : Int) (A : Option Addr) (n c : Nat) (w : World) (hlen : 1048576 < n) (hm : n ≤ 9223372036854775807) :
    Calls Tryd.prog 5 #[pzV t A n c, .int .i64 1048576] w fun e w' => e = .returned (.int .i64 (-1)) ∧ Below w.heap.size w w' := by
  go_enter Tryd.func5, Tryd.ntmps5
  go_wp2_with (go_at_call 14; refine (szClueS_big _ _ _ _ hlen hm).mono ?_; rintro e w' ⟨rfl, rfl⟩)
  go_ret
  exact ⟨rfl, (Below.refl _ _).alloc (Nat.le_refl _) _⟩

def RetPz (t : Int) (n : Nat) (cs : List Clu) (w : World) (e : Ending) (w' : World) : Prop :=
  ∃ X, e = .returned (pzV t X n n) ∧ Own w' w.heap.size w'.heap.size X (flat4 cs) ∧ Below w.heap.size w w'

set_option maxHeartbeats 400000 in
theorem toPuzzle_any (t : Int) (A : Option Addr) (n c : Nat) (cs : List Clu) (B : Nat) (w : World) (hn : cs.length = n) (hlen : n ≤ 1048576) (h : Seg w 0 B A (flat4 cs)) (hB : B ≤ w.heap.size) :
    Calls Tryd.prog 7 #[pzV t A n c] w (RetPz t n cs w) := by
  have hb3 : Below w.heap.size w (((w.alloc (.cells #[.int .i64 t, .slice A n c] 24)).alloc (.cells #[.int .i64 0, .slice none 0 0] 30)).alloc (.cells #[.int .i64 t, .slice none 0 0] 30)) :=
    (((Below.refl _ _).alloc (Nat.le_refl _) _).alloc (by simp) _).alloc (by simp; omega) _
  have hs3 := h.below hb3 hB
  go_enter Tryd.func7, Tryd.ntmps7
  go_wp2_with fail
  refine (toClueS_any _ _ _ cs B _ hn hlen hs3 (by simp; omega)).mono ?_
  rintro e w3 ⟨rfl, ho, hb⟩
  have hz := hb.size
  simp only [World.size_alloc] at hz ho hb
  have hc0 : w3.cell? ⟨w.heap.size + 1 + 1, 0, none⟩ = some (.int .i64 t) := (hb.cell (by simp)).trans (by simp [go_sem])
  have hc1 : w3.cell? ⟨w.heap.size + 1 + 1, 1, none⟩ = some (.slice none 0 0) := (hb.cell (by simp)).trans (by simp [go_sem])
  have hd0 : w3.cell? ⟨w.heap.size + 1, 0, none⟩ = some (.int .i64 0) := (hb.cell (by simp)).trans (by simp [go_sem])
  have hd1 : w3.cell? ⟨w.heap.size + 1, 1, none⟩ = some (.slice none 0 0) := (hb.cell (by simp)).trans (by simp [go_sem])
  have hf0 : w3.frozen? ⟨w.heap.size + 1 + 1, 0, none⟩ = false := (hb.frozen (by simp)).trans (by simp [go_sem])
  have hf1 : w3.frozen? ⟨w.heap.size + 1 + 1, 1, none⟩ = false := (hb.frozen (by simp)).trans (by simp [go_sem])
  have hg0 : w3.frozen? ⟨w.heap.size + 1, 0, none⟩ = false := (hb.frozen (by simp)).trans (by simp [go_sem])
  have hg1 : w3.frozen? ⟨w.heap.size + 1, 1, none⟩ = false := (hb.frozen (by simp)).trans (by simp [go_sem])
  have HZ := Lib.hid hz
  have HB := Lib.hid hb
  have HO := Lib.hid ho
  clear hz hb ho
  go_wp2_with fail
  refine bodyPost_ret (v := pzV t (some ⟨w.heap.size + 1 + 1 + 1, 0, none⟩) n n) (by simp [results, Tryd.results7, go_sem, hd0, hd1]) rfl ⟨_, rfl, ?_, ?_⟩
  · simp only [World.size_setCell]
    exact (HO.out.keep fun b hb1 hb2 => (set_far _ (by simp; omega) _).trans ((set_far _ (by simp; omega) _).trans (set_far _ (by simp; omega) _))).more (by omega) (Nat.le_refl _)
  · exact (((hb3.trans (HB.out.mono (by omega))).setCell (by simp; omega) _).setCell (by simp) _).setCell (by simp) _

theorem eqPuzzle_any (t : Int) (A C : Option Addr) (n c d : Nat) (cs : List Clu) (lo hi lo' hi' : Nat) (w : World) (hn : cs.length = n) (hlen : n ≤ 1048576) (h : Seg w lo hi A (flat4 cs)) (h' : Seg w lo' hi' C (flat4 cs)) (hB : hi ≤ w.heap.size) (hB' : hi' ≤ w.heap.size) :
    Calls Tryd.prog 9 #[pzV t A n c, pzV t C n d] w fun e w' => e = .returned (.bool true) ∧ Below w.heap.size w w' := by
  have hb2 : Below w.heap.size w ((w.alloc (.cells #[.int .i64 t, .slice A n c] 30)).alloc (.cells #[.int .i64 t, .slice C n d] 30)) :=
    ((Below.refl _ _).alloc (Nat.le_refl _) _).alloc (by simp) _
  have hs := h.below hb2 hB
  have hs' := h'.below hb2 hB'
  go_enter Tryd.func9, Tryd.ntmps9
  go_wp2_with fail
  refine (eqClueS_b _ _ _ _ _ _ _ _ _ _ _ hn hlen hs hs' (by simp; omega) (by simp; omega)).mono ?_
  rintro e w3 ⟨rfl, hb⟩
  go_wp2
  go_ret
  exact ⟨rfl, hb2.trans (hb.mono (by simp; omega))⟩

theorem markPuzzle_any (t : Int) (A : Option Addr) (n c : Nat) (k0 : Int) (cs : List Clu) (lo hi : Nat) (w : World) (hn : cs.length = n) (hlen : n ≤ 1048576) (h0 : 0 ≤ k0) (h1 : k0 ≤ 4611686018427387904) (h : Own w lo hi A (flat4 cs)) (hB : hi ≤ w.heap.size) :
    Calls Tryd.prog 12 #[pzV t A n c, .int .i64 k0] w fun e w' => e = .returned (.int .i64 (k0 + ((n * 4 : Nat) : Int))) ∧ Own w' lo hi A (marks k0 (n * 4)) ∧ Only (fun b => lo ≤ b ∧ b < hi) w w' := by
  have hb2 : Below w.heap.size w (w.alloc (.cells #[.int .i64 t, .slice A n c] 30)) := (Below.refl _ _).alloc (Nat.le_refl _) _
  have hs := h.below hb2 hB
  go_enter Tryd.func12, Tryd.ntmps12
  go_wp2_with fail
  refine (markClueS_any _ _ _ k0 cs lo hi _ hn hlen h0 h1 hs).mono ?_
  rintro e w3 ⟨rfl, ho, row, hg, hr⟩
  go_wp2
  go_ret
  refine ⟨rfl, ho, (Only.of_below hb2 (Nat.le_refl _)).trans ⟨hg.os, hg.tape, hg.output, hg.size, fun k hk hS => hg.block k hk fun e => hS (hr k e.symm)⟩⟩

theorem heldPuzzle_any (t : Int) (A : Option Addr) (n c : Nat) (k0 : Int) (lo hi : Nat) (w : World) (hlen : n ≤ 1048576) (h0 : 0 ≤ k0) (h1 : k0 ≤ 4611686018427387904) (h : Seg w lo hi A (marks k0 (n * 4))) (hB : hi ≤ w.heap.size) :
    Calls Tryd.prog 13 #[pzV t A n c, .int .i64 k0] w fun e w' => e = .returned (.int .i64 (k0 + ((n * 4 : Nat) : Int))) ∧ Below w.heap.size w w' := by
  have hb2 : Below w.heap.size w (w.alloc (.cells #[.int .i64 t, .slice A n c] 30)) := (Below.refl _ _).alloc (Nat.le_refl _) _
  have hs := h.below hb2 hB
  go_enter Tryd.func13, Tryd.ntmps13
  go_wp2_with fail
  refine (heldClueS_any _ _ _ k0 lo hi _ hlen h0 h1 hs).mono ?_
  rintro e w3 ⟨rfl, rfl⟩
  go_wp2
  go_ret
  exact ⟨rfl, hb2⟩
end Go.Proofs.YtoheoojpmndhoabDoor

/-
  The written program's stack as it lies in memory: looks at it, a thing put on it, its top taken; a list of numbers that is made one.
  Conditions: the lists have at most 1048576 things and numbers.
-/
import Derived.Test.YtbgcacgcfldjnaaStkS
import Derived.Test.YtbgcacgcfldjnaaIdx
import Derived.Test.YtbgcacgcfldjnaaAppendB
namespace Go.Proofs.Ytbgcacgcfldjnaa
set_option linter.unusedVariables false
open Go.RowKit

theorem pile_cells {w : World} {P T : Nat} {a b : Value} (h : w.heap[P]? = some (.cells #[a, b] T (0, 0))) : w.cell? ⟨P, 0, none⟩ = some a ∧ w.cell? ⟨P, 1, none⟩ = some b ∧ w.frozen? ⟨P, 0, none⟩ = false ∧ w.frozen? ⟨P, 1, none⟩ = false :=
  ⟨cell_of h 0, cell_of h 1, frozen_of h 0, frozen_of h 1⟩

set_option maxHeartbeats 1000000 in
theorem canTake_any (P T : Nat) (A B : Option Addr) (n c m d : Nat) (ks : List Int) (k : Int) (lo hi : Nat) (w : World) (hp : w.heap[P]? = some (.cells #[.slice A n c, .slice B m d] T (0, 0))) (hm : ks.length = m) (hlen : m ≤ 1048576) (hs : Seg w lo hi B ks) (q : Bool) (hq : canT n ks k = q) :
    Calls Try.prog 29 #[.pointer (some ⟨P, 0, none⟩), .int .i64 k] w fun e w' => e = .returned (.bool q) ∧ w = w' := by
  obtain ⟨c0, c1, f0, f1⟩ := pile_cells hp
  have HM := Lib.hid hm
  have hd : (q = false ∧ decide (0 ≤ k) = false) ∨ (q = false ∧ decide (0 ≤ k) = true ∧ decide (k < (n : Int)) = false) ∨ (decide (0 ≤ k) = true ∧ decide (k < (n : Int)) = true ∧ decide (k ∈ ks) = !q) := by
    rw [← hq]; unfold canT
    cases decide (0 ≤ k) <;> cases decide (k < (n : Int)) <;> cases decide (k ∈ ks) <;> simp
  clear hq hm hp
  rcases hd with ⟨rfl, d1⟩ | ⟨rfl, d1, d2⟩ | ⟨d1, d2, d3⟩
  · go_enter Try.func29, Try.ntmps29
    go_wp2
    go_ret
    exact ⟨rfl, rfl⟩
  · go_enter Try.func29, Try.ntmps29
    go_wp2
    go_ret
    exact ⟨rfl, rfl⟩
  · have HD := Lib.hid d3
    clear d3
    go_enter Try.func29, Try.ntmps29
    go_wp2_with fail
    refine (slicesContains_any B m d ks k lo hi _ HM.out hlen hs).mono ?_
    rw [HD.out]
    rintro e w' ⟨rfl, rfl⟩
    go_wp2
    go_ret
    exact ⟨rfl, rfl⟩

/-- A thing has been put on. -/
def RetPut (P T base : Nat) (a v : Value) (m : Nat) (ks : List Int) (w : World) (e : Ending) (w' : World) : Prop :=
  e = .returned (.tuple #[]) ∧ ∃ v', w'.heap[P]? = some (.cells #[a, v'] T (0, 0)) ∧ w'.ownsRow base 3 1 v' m (ks.map (Value.int .i64)) ∧ v'.ownBlock ≠ some P ∧
    Only (fun b => b = P ∨ v.ownBlock = some b) w w' ∧ (v'.ownBlock = v.ownBlock ∨ v'.ownBlock = some (w.heap.size + 1))

theorem only_grown {S : Nat → Prop} {a w w' : World} {row : Option Nat} (h : Only S a w) (hg : w.grownBy w' row) (hr : ∀ b, row = some b → S b) : Only S a w' :=
  h.trans ⟨hg.os, hg.tape, hg.output, hg.size, fun k hk hs => hg.block k hk (fun e => hs (hr k e.symm))⟩

set_option maxHeartbeats 1000000 in
theorem put_any (P T base : Nat) (a v : Value) (m : Nat) (ks : List Int) (k : Int) (w : World) (hp : w.heap[P]? = some (.cells #[a, v] T (0, 0))) (hown : w.ownsRow base 3 1 v m (ks.map (Value.int .i64))) (hne : v.ownBlock ≠ some P) (hm : m ≤ 1048576) (hbase : base ≤ w.heap.size) :
    Calls Try.prog 30 #[.pointer (some ⟨P, 0, none⟩), .int .i64 k] w (RetPut P T base a v (m + 1) (ks ++ [k]) w) := by
  obtain ⟨i0, hi0, hz0, hz1, hz2⟩ := info_parts int_info
  obtain ⟨A0, d0, rfl⟩ := ownsRow_form hown
  obtain ⟨c0, c1, f0, f1⟩ := pile_cells hp
  have hP := heap_lt hp
  have HP1 := Lib.hid ((alloc_old w hP (.cells #[.int .i64 k] 3)).trans hp)
  have HOW := Lib.hid (hown.alloc (.cells #[.int .i64 k] 3))
  have HLT := Lib.hid hown.lt
  have HNE := Lib.hid hne
  clear hp hown hne
  go_enter Try.func30, Try.ntmps30
  go_wp2_with (at_builtin; refine wpList_append_ownB _ rfl _ _ 23 rfl base 3 i0 Try.underlying23 hi0 hz0 hz1 hz2 _ m _ rfl HOW.out w.heap.size 1 (.int .i64 k) rfl (by rw [cell_of (heap_alloc_new w _)]; rfl) rfl hm (by simp; omega) ?_; intro v3 w3 hown3 hgr3 hloc3; obtain ⟨A3, c3, rfl⟩ := ownsRow_form hown3; have hp3 : w3.heap[P]? = some (.cells #[a, .slice A0 m d0] T (0, 0)) := (hgr3.block P (by simp; omega) (fun e => HNE.out e.symm)).trans HP1.out; obtain ⟨q0, q1, g0, g1⟩ := pile_cells hp3; have HP3 := Lib.hid hp3; have HO3 := Lib.hid hown3; have HG3 := Lib.hid hgr3; have HL3 := Lib.hid hloc3; clear hp3 hown3 hgr3 hloc3)
  go_end0
  have hl3 := HL3.out
  simp only [World.size_alloc] at hl3
  have hne3 : (Value.slice A3 (m + 1) c3).ownBlock ≠ some P := by
    rcases hl3 with h | h
    · rw [h]; exact HNE.out
    · rw [h]; intro e; injection e with e; omega
  have hg4 : w3.grownBy (w3.setCell ⟨P, 1, none⟩ (.slice A3 (m + 1) c3)) (some P) := grown_set (World.grownBy.refl w3 _) rfl _
  refine ⟨rfl, .slice A3 (m + 1) c3, ?_, ?_, hne3, ?_, hl3⟩
  · rw [set_self HP3.out 1 _]; rfl
  · have h := HO3.out.kept hg4 (by by_cases h : (Value.slice A3 (m + 1) c3).ownBlock = none <;> simp [h, hne3])
    rw [List.map_append]
    exact h
  · exact (only_grown ((Only.refl _ w).alloc _) HG3.out (fun b hb => .inr hb)).setCell (p := ⟨P, 1, none⟩) (.inl rfl) _

set_option maxHeartbeats 1000000 in
theorem takeTop_any (P T base g m d : Nat) (a : Value) (ks : List Int) (k : Int) (w : World) (hp : w.heap[P]? = some (.cells #[a, .slice (some ⟨g, 0, none⟩) (m + 1) d] T (0, 0))) (hown : w.ownsRow base 3 1 (.slice (some ⟨g, 0, none⟩) (m + 1) d) (m + 1) ((ks ++ [k]).map (Value.int .i64))) (hne : g ≠ P) (hm : m ≤ 1048576) :
    Calls Try.prog 44 #[.pointer (some ⟨P, 0, none⟩)] w fun e w' => e = .returned (.int .i64 k) ∧ w'.heap[P]? = some (.cells #[a, .slice (some ⟨g, 0, none⟩) m d] T (0, 0)) ∧
      w'.ownsRow base 3 1 (.slice (some ⟨g, 0, none⟩) m d) m (ks.map (Value.int .i64)) ∧ Only (fun b => b = P) w w' := by
  obtain ⟨c0, c1, f0, f1⟩ := pile_cells hp
  have hl : ks.length = m := by have := hown.1; simpa using this
  have hc : w.cell? ⟨g, m, none⟩ = some (.int .i64 k) := by
    have := hown.cellAt m (by omega)
    rw [this, List.getElem?_map, List.getElem?_append_right (by omega), hl]
    simp
  have hmd : m + 1 ≤ d := by
    obtain ⟨_, h0 | ⟨g', cap, cur, hv, _, _, hnc, _⟩⟩ := hown
    · omega
    · injection hv with h1 h2 h3; omega
  have HP := Lib.hid hp
  have HOW := Lib.hid hown
  clear hp hown hl
  go_enter Try.func44, Try.ntmps44
  go_wp2
  go_ret
  have hg4 : w.grownBy (w.setCell ⟨P, 1, none⟩ (.slice (some ⟨g, 0, none⟩) m d)) (some P) := grown_set (World.grownBy.refl w _) rfl _
  refine ⟨rfl, ?_, ?_, (Only.refl (fun b => b = P) w).setCell (p := ⟨P, 1, none⟩) (by rfl) _⟩
  · rw [set_self HP.out 1 _]; rfl
  · have h := HOW.out.kept hg4 (.inr (by intro e; injection e with e; exact hne e))
    obtain ⟨h1, h0 | ⟨g', cap, cur, hv, hbg, hb, hnc, hcm, hcs, htk⟩⟩ := h
    · omega
    · injection hv with e1 e2 e3
      injection e1 with e1
      injection e1 with e1
      subst e1 e3
      refine ⟨by simp at h1 ⊢; omega, .inr ⟨g, d, cur, rfl, hbg, hb, by omega, hcm, hcs, ?_⟩⟩
      have : cur.toList.take (m * 1) = (cur.toList.take ((m + 1) * 1)).take (m * 1) := by rw [List.take_take, Nat.min_eq_left (by omega)]
      rw [this, htk, List.map_append, List.take_append_of_le_length (by simp at h1 ⊢; omega), List.take_of_length_le (by simp at h1 ⊢; omega)]

/-- A list of numbers becomes a stack, or doesn't. -/
def RetPile (q : Bool) (A : Option Addr) (n c m : Nat) (ks : List Int) (w : World) (e : Ending) (w' : World) : Prop :=
  ∃ A' n' c' B m' d, e = .returned (.tuple #[.agg #[.slice A' n' c', .slice B m' d], .bool q]) ∧ (q = true → A' = A ∧ n' = n ∧ c' = c ∧ m' = m ∧ w'.ownsRow w.heap.size 3 1 (.slice B m d) m (ks.map (Value.int .i64))) ∧ Below w.heap.size w w'
end Go.Proofs.Ytbgcacgcfldjnaa

/-
  The given program's copy of a list; a block of one number.
  Conditions: none.
-/
import Derived.Test.YtoheoojpmndhoabAppend
import Derived.Test.YtoheoojpmndhoabMem
namespace Go.Proofs.Ytoheoojpmndhoab
set_option linter.unusedVariables false
open Go.RowKit

set_option maxHeartbeats 400000 in
theorem l1Own_any (A : Option Addr) (n c : Nat) (xs : List Int) (lo hi : Nat) (w : World) (hn : xs.length = n) (hlen : n ≤ 1048576) (hs : Seg w lo hi A xs) (hB : hi ≤ w.heap.size) :
    Calls Try.prog 50 #[.slice A n c] w fun e w' => ∃ A' c', e = .returned (.slice A' n c') ∧ w'.ownsRow w.heap.size 3 1 (.slice A' n c') n (xs.map (Value.int .i64)) ∧ Below w.heap.size w w' := by
  obtain ⟨i0, hi0, hz0, hz1, hz2⟩ := info_parts int_info
  have HN := Lib.hid hn
  have hlit := World.ownsRow_lit (base := w.heap.size) (e := 3) (size := 1) w #[] 0 (Nat.le_refl _) (Nat.zero_le _) rfl
  have hs1 := hs.below ((Below.refl w.heap.size w).alloc (Nat.le_refl _) (.cells #[] 3)) hB
  have HLIT := Lib.hid hlit
  have HSEG := Lib.hid hs1
  clear hn hlit hs1
  go_enter Try.func50, Try.ntmps50
  go_wp2_with (at_builtin; refine wpList_append_seg _ rfl _ _ 22 rfl w.heap.size 3 i0 Try.underlying22 hi0 hz0 hz1 hz2 _ 0 _ rfl HLIT.out A n c xs lo hi rfl HN.out HSEG.out (by omega) (by simp) ?_; intro v' w2 hown2 hgrow2; have hown3 : w2.ownsRow w.heap.size 3 1 v' n (xs.map (Value.int .i64)) := (by simpa using hown2); clear hown2; obtain ⟨A2, c2, rfl⟩ := ownsRow_form hown3)
  go_ret
  exact ⟨A2, c2, rfl, hown3, ((Below.refl w.heap.size w).alloc (Nat.le_refl _) _).grown hgrow2 (by simp) (fun g hg => (HLIT.out.lt g hg).1)⟩

theorem seg_one (w : World) (u : Int) (T : Nat) : Seg (w.alloc (.cells #[.int .i64 u] T)) w.heap.size (w.alloc (.cells #[.int .i64 u] T)).heap.size (some ⟨w.heap.size, 0, none⟩) [u] := by
  refine .inr ⟨w.heap.size, 0, rfl, Nat.le_refl _, by simp, fun k hk => ?_⟩
  have hk0 : k = 0 := by simpa using hk
  subst hk0
  rw [cell_of (heap_alloc_new w _)]
  rfl

theorem own_mono {w : World} {base base' T n : Nat} {v : Value} {xs : List Value} (h : w.ownsRow base T 1 v n xs) (hb : base' ≤ base) : w.ownsRow base' T 1 v n xs := by
  obtain ⟨h1, h2⟩ := h
  refine ⟨h1, ?_⟩
  rcases h2 with h2 | ⟨g, cap, cur, e, hg, h3⟩
  · exact .inl h2
  · exact .inr ⟨g, cap, cur, e, Nat.le_trans hb hg, h3⟩
end Go.Proofs.Ytoheoojpmndhoab

/-
  Whether hidden things fit all clues of a puzzle, by the written program.
  Conditions: hidden things, and clues of so many.
-/
import Derived.Test.YtoheoojpmndhoaaPzT
import Derived.Test.YtoheoojpmndhoaaQuadM
namespace Go.Proofs.Ytoheoojpmndhoaa
set_option linter.unusedVariables false
set_option linter.unusedSimpArgs false
open Go.RowKit

theorem fitB_of {v : Clu → List Int → Int} {cs : List Clu} {xs : List Int} (h : ∀ (j : Nat) (c : Clu), cs[j]? = some c → decide (v c xs = c.2.2.2) = true) : fitB v cs xs = true := by
  rw [fitB, List.all_eq_true]
  intro c hc
  obtain ⟨j, hj⟩ := List.getElem?_of_mem hc
  exact h j c hj
theorem fitB_not {v : Clu → List Int → Int} {cs : List Clu} {xs : List Int} {k : Nat} {c : Clu} (hk : cs[k]? = some c) (h : decide (v c xs = c.2.2.2) = false) : fitB v cs xs = false := by
  rw [fitB]
  simp only [List.all_eq_false]
  exact ⟨c, List.mem_of_getElem? hk, by rw [h]; simp⟩

set_option maxHeartbeats 1000000 in
set_option maxRecDepth 100000 in
theorem isFitBy_any (t : Int) (A : Option Addr) (n c : Nat) (cs : List Clu) (lo hi : Nat) (A' : Option Addr) (n' c' : Nat) (xs : List Int) (lo' hi' : Nat) (w : World) (hn : cs.length = n) (hlen : n ≤ 1048576) (hs : Seg w lo hi A (flat4 cs)) (hB : hi ≤ w.heap.size)
    (hn' : xs.length = n') (hh : hidB xs = true) (hcl : ∀ c ∈ cs, clueB (n' : Int) c = true) (hs' : Seg w lo' hi' A' xs) (hB' : hi' ≤ w.heap.size) :
    Calls Try.prog 105 #[pzV t A n c, .slice A' n' c'] w fun e w' => e = .returned (.bool (fitB toldV cs xs)) ∧ Below w.heap.size w w' := by
  have hb0 : Below w.heap.size w (w.alloc (.cells #[.int .i64 t, .slice A n c] 35)) := (Below.refl _ _).alloc (Nat.le_refl _) _
  have hm0 : (w.alloc (.cells #[.int .i64 t, .slice A n c] 35)).heap[w.heap.size]? = some (.cells #[.int .i64 t, .slice A n c] 35 (0, 0)) := new_at _ _ rfl
  have HN := Lib.hid hn
  have HN' := Lib.hid hn'
  have HH := Lib.hid hh
  have HCL := Lib.hid hcl
  clear hn hn' hh hcl
  go_enter Try.func105, Try.ntmps105
  go_wp2
  go_loopw [6, 10] (fun _ i wr => ∃ k : Nat, k ≤ n ∧ i = .int .i64 k ∧ Below w.heap.size w wr ∧ wr.heap[w.heap.size]? = some (.cells #[.int .i64 t, .slice A n c] 35 (0, 0)) ∧ ∀ j c, j < k → cs[j]? = some c → decide (toldV c xs = c.2.2.2) = true) (fun _ i _ => n - (intOf i).toNat)
  case atStart => exact ⟨0, Nat.zero_le _, rfl, hb0, hm0, fun j u hj => by omega⟩
  case round =>
    obtain ⟨k, hk, rfl, hbx, hm, hall⟩ := hrel
    have HA := Lib.hid hall
    clear hall hb0 hm0
    by_cases hlt : k < n
    · obtain ⟨b, off, x, y, z, u, rfl, _, hbB, hx, hc0, hc1, hc2, hc3⟩ := (hs.below hbx hB).quad (k := k) (by rw [HN.out]; exact hlt)
      have HX := Lib.hid hx
      clear hx
      have hbr : b < wr.heap.size := by have := hbx.size; omega
      have hmr := heap_lt hm
      go_wp2_with fail
      obtain ⟨v1, hv1⟩ : ∃ v, wr.alloc (.cells #[.int .i64 x, .int .i64 y, .int .i64 z, .int .i64 u] 25) = v := ⟨_, rfl⟩
      have hb1 : Below wr.heap.size wr v1 := by rw [← hv1]; exact (Below.refl _ _).alloc (Nat.le_refl _) _
      rw [hv1]
      clear hv1
      have hz1 := hb1.size
      have hbx1 := hbx.trans (hb1.mono hbx.size)
      have hvo : ValOk (n' : Int) x y z := ValOk.of_clue (c := (x, y, z, u)) (HCL.out _ (List.mem_of_getElem? HX.out))
      obtain ⟨q, hq⟩ : ∃ q, decide (toldK x y z xs = u) = q := ⟨_, rfl⟩
      have HQ := Lib.hid hq
      refine (clueFits_any A' n' c' x y z u xs lo' hi' _ HN'.out HH.out hvo (hs'.below hbx1 hB') (by have := hbx1.size; omega) q hq).mono ?_
      rintro e w2 ⟨rfl, hb2⟩
      clear hq
      have hbx2 := hbx1.trans (hb2.mono hbx1.size)
      have hm2 := (hb2.block _ (by omega)).trans ((hb1.block _ hmr).trans hm)
      cases q
      · go_wp2
        go_ret
        exact ⟨by rw [fitB_not HX.out HQ.out]; rfl, hbx2⟩
      · go_wp2
        go_roundw
        case rel =>
          refine ⟨k + 1, by omega, by go_num, hbx2, hm2, fun j v hj hv => ?_⟩
          by_cases e : j = k
          · subst e; rw [HX.out] at hv; injection hv with hv; subst hv; exact HQ.out
          · exact HA.out j v (by omega) hv
        case measure => simp [intOf]; omega
    · obtain rfl : k = n := by omega
      go_wp2
      go_ret
      exact ⟨by rw [fitB_of fun j c hj => HA.out j c (by rw [← HN.out]; exact (List.getElem?_eq_some_iff.1 hj).1) hj]; rfl, hbx⟩
end Go.Proofs.Ytoheoojpmndhoaa

/-
  Hidden things, and whether they fit a clue, by both programs.
  Conditions: none.
-/
import Derived.Test.YtoheoojpmndhoaaPzT
import Derived.Test.YtoheoojpmndhoaaAllB
namespace Go.Proofs.Ytoheoojpmndhoaa
set_option linter.unusedVariables false
set_option linter.unusedSimpArgs false
open Go.RowKit

theorem pzHidden_any (A : Option Addr) (n c : Nat) (xs : List Int) (lo hi : Nat) (w : World) (hn : xs.length = n) (hlen : n ≤ 1048576) (hs : Seg w lo hi A xs) (q : Bool) (hq : hidB xs = q) :
    Calls Try.prog 69 #[.slice A n c] w fun e w' => e = .returned (.bool q) ∧ w = w' := by
  obtain ⟨u, hu⟩ : ∃ u, inB (n : Int) 2 4 = u := ⟨_, rfl⟩
  obtain ⟨v, hv⟩ : ∃ v, allB xs 1 6 = v := ⟨_, rfl⟩
  have hqq : q = (u && v) := by rw [← hq, hidB, hn, hu, hv]
  have HN := Lib.hid hn
  have HU := Lib.hid hu
  have HV := Lib.hid hv
  clear hn hu hv hq
  subst hqq
  cases u
  · go_enter Try.func69, Try.ntmps69
    go_wp2_with (go_at_call 61; refine (pzThings_any _ _ HU.out _).mono ?_; rintro e w' ⟨rfl, rfl⟩)
    go_ret
    exact ⟨rfl, rfl⟩
  · go_enter Try.func69, Try.ntmps69
    go_wp2_with (first
      | (go_at_call 61; refine (pzThings_any _ _ HU.out _).mono ?_; rintro e w' ⟨rfl, rfl⟩)
      | (go_at_call 97; refine (l1All_any _ _ _ xs 1 6 lo hi _ HN.out hlen hs v HV.out).mono ?_; rintro e w' ⟨rfl, rfl⟩))
    go_ret
    exact ⟨by simp, rfl⟩

/-- The test for a size that is none. -/
theorem notSize_any (g : Nat) (x : Int) (w : World) (hg : w.heap[g]? = some (.cells #[.int .i64 1, .int .i64 6] 94 (0, 0))) (b : Bool) (hb : inB x 1 6 = b) :
    Calls Try.prog 100 #[.int .i64 x, .pointer (some ⟨g, 0, none⟩)] w fun e w' => e = .returned (.bool (!b)) ∧ Below w.heap.size w w' := by
  have q0 := cell_of hg 0
  have q1 := cell_of hg 1
  simp only [List.getElem?_toArray, List.getElem?_cons_zero, List.getElem?_cons_succ] at q0 q1
  go_enter Try.func100, Try.ntmps100
  go_wp2_with (go_at_call 95; refine (has_any _ _ _ b hb _).mono ?_; rintro e w1 ⟨rfl, hb1⟩)
  go_ret
  exact ⟨rfl, hb1⟩

def RetF6 (xs : List Int) (w : World) (e : Ending) (w' : World) : Prop := (∃ i : Int, e = .returned (.int .i64 i) ∧ (decide (0 ≤ i) = !allB xs 1 6)) ∧ Below w.heap.size w w'

set_option maxHeartbeats 1000000 in
theorem indexNot_any (A : Option Addr) (n c g : Nat) (xs : List Int) (lo hi : Nat) (w : World) (hn : xs.length = n) (hlen : n ≤ 1048576) (hs : Seg w lo hi A xs) (hB : hi ≤ w.heap.size) (hg : w.heap[g]? = some (.cells #[.int .i64 1, .int .i64 6] 94 (0, 0))) :
    Calls Try.prog 118 #[.slice A n c, .func (.func 100) #[] #[.pointer (some ⟨g, 0, none⟩)]] w (RetF6 xs w) := by
  have HN := Lib.hid hn
  clear hn
  have hgl := heap_lt hg
  go_enter Try.func118, Try.ntmps118
  go_wp2
  go_loopw [5, 8] (fun _ i wr => ∃ k : Nat, k ≤ n ∧ i = .int .i64 (k : Int) ∧ Below w.heap.size w wr ∧ ∀ j u, j < k → xs[j]? = some u → inB u 1 6 = true) (fun _ i _ => n - (intOf i).toNat)
  case atStart => exact ⟨0, Nat.zero_le _, rfl, Below.refl _ _, fun j u hj => by omega⟩
  case round =>
    obtain ⟨k, hk, rfl, hbx, hall⟩ := hrel
    have HA := Lib.hid hall
    clear hall
    by_cases hlt : k < n
    · obtain ⟨b, off, u, rfl, _, _, hx, hc⟩ := (hs.below hbx hB).at_ (k := k) (by rw [HN.out]; exact hlt)
      have HX := Lib.hid hx
      clear hx
      have hgr := (hbx.block _ hgl).trans hg
      obtain ⟨v, hv⟩ : ∃ v, inB u 1 6 = v := ⟨_, rfl⟩
      have HV := Lib.hid hv
      clear hv
      go_wp2_with fail
      refine (notSize_any g u _ hgr v HV.out).mono ?_
      rintro e w2 ⟨rfl, hb2⟩
      have hb3 := hbx.trans (hb2.mono hbx.size)
      cases v
      · go_wp2
        go_ret
        refine ⟨⟨_, rfl, ?_⟩, hb3⟩
        rw [allB_not HX.out HV.out]
        simp
      · go_wp2
        go_roundw
        case rel =>
          refine ⟨k + 1, by omega, by go_num, hb3, fun j y hj hy => ?_⟩
          by_cases e : j = k
          · subst e; rw [HX.out] at hy; injection hy with hy; subst hy; exact HV.out
          · exact HA.out j y (by omega) hy
        case measure => simp [intOf]; omega
    · obtain rfl : k = n := by omega
      go_wp2
      go_ret
      refine ⟨⟨_, rfl, ?_⟩, hbx⟩
      rw [allB_of fun j u hj => HA.out j u (by rw [← HN.out]; exact (List.getElem?_eq_some_iff.1 hj).1) hj]
      decide

theorem containsNot_any (A : Option Addr) (n c g : Nat) (xs : List Int) (lo hi : Nat) (w : World) (hn : xs.length = n) (hlen : n ≤ 1048576) (hs : Seg w lo hi A xs) (hB : hi ≤ w.heap.size) (hg : w.heap[g]? = some (.cells #[.int .i64 1, .int .i64 6] 94 (0, 0))) (v : Bool) (hv : allB xs 1 6 = v) :
    Calls Try.prog 99 #[.slice A n c, .func (.func 100) #[] #[.pointer (some ⟨g, 0, none⟩)]] w fun e w' => e = .returned (.bool (!v)) ∧ Below w.heap.size w w' := by
  go_enter Try.func99, Try.ntmps99
  go_wp2_with (go_at_call 118; refine (indexNot_any A n c g xs lo hi _ hn hlen hs hB hg).mono ?_; rintro e w1 ⟨⟨i, rfl, hi1⟩, hb1⟩; rw [hv] at hi1)
  go_ret
  exact ⟨rfl, hb1⟩

set_option maxHeartbeats 1000000 in
theorem areHidden_any (A : Option Addr) (n c : Nat) (xs : List Int) (lo hi : Nat) (w : World) (hn : xs.length = n) (hlen : n ≤ 1048576) (hs : Seg w lo hi A xs) (hB : hi ≤ w.heap.size) (q : Bool) (hq : hidB xs = q) :
    Calls Try.prog 71 #[.slice A n c] w fun e w' => e = .returned (.bool q) ∧ Below w.heap.size w w' := by
  have hmf : ∀ (fn : Fn) (first cap : Array Value) (w : World), (Instr.makeFunc fn first cap).run Try.prog w = .ok (.func fn first cap) w := fun _ _ _ _ => rfl
  obtain ⟨u, hu⟩ : ∃ u, inB (n : Int) 2 4 = u := ⟨_, rfl⟩
  obtain ⟨v, hv⟩ : ∃ v, allB xs 1 6 = v := ⟨_, rfl⟩
  have hqq : q = (u && v) := by rw [← hq, hidB, hn, hu, hv]
  have HN := Lib.hid hn
  have HU := Lib.hid hu
  have HV := Lib.hid hv
  clear hn hu hv hq
  subst hqq
  obtain ⟨W, hW⟩ : ∃ W, w.alloc (.cells #[.int .i64 1, .int .i64 6] 94) = W := ⟨_, rfl⟩
  have z0 : Below w.heap.size w W := by rw [← hW]; exact (Below.refl _ _).alloc (Nat.le_refl _) _
  have p0 : W.heap[w.heap.size]? = some (.cells #[.int .i64 1, .int .i64 6] 94 (0, 0)) := by rw [← hW]; exact new_at _ _ rfl
  have hsz := heap_lt p0
  have HW := Lib.hid hW
  clear hW
  cases u
  · go_enter Try.func71, Try.ntmps71
    go_wp2_with fail
    rw [HW.out]
    refine (canBeHidden_any _ _ HU.out _).mono ?_
    rintro e w1 ⟨rfl, hb1⟩
    go_wp2
    go_ret
    exact ⟨rfl, z0.trans (hb1.mono z0.size)⟩
  · go_enter Try.func71, Try.ntmps71
    go_wp2_with fail
    rw [HW.out]
    refine (canBeHidden_any _ _ HU.out _).mono ?_
    rintro e w1 ⟨rfl, hb1⟩
    have y1 := z0.trans (hb1.mono z0.size)
    have hz1 := hb1.size
    have p1 := (hb1.block _ hsz).trans p0
    go_wp2_with fail
    refine (containsNot_any A n c w.heap.size xs lo hi _ HN.out hlen (hs.below y1 hB) (by omega) p1 v HV.out).mono ?_
    rintro e w2 ⟨rfl, hb2⟩
    cases v
    · go_wp2
      go_ret
      exact ⟨rfl, y1.trans (hb2.mono y1.size)⟩
    · go_wp2
      go_ret
      exact ⟨rfl, y1.trans (hb2.mono y1.size)⟩
end Go.Proofs.Ytoheoojpmndhoaa

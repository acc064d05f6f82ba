/-
  WorstFit: what the given and the written program answer: the plan of the rule, or that there is none.
  Conditions: the list has at most 1048576 numbers.
-/
import Derived.Test.YtjnfaikcimlkdaaByRule
import Derived.Test.YtjnfaikcimlkdaaRule
namespace Go.Proofs.Ytjnfaikcimlkdaa
set_option linter.unusedVariables false
open Go.RowKit

set_option maxHeartbeats 400000 in
theorem spec_WorstFit_no (A : Option Addr) (n c : Nat) (xs : List Int) (room : Int) (lo hi : Nat) (w : World) (hn : xs.length = n) (hlen : n ≤ 1048576) (hs : Seg w lo hi A xs) (ha : askedB xs room = false) :
    Calls Try.prog 27 #[.slice A n c, .int .i64 room] w fun e w' => e = .returned (.tuple #[.slice none 0 0, .bool false]) ∧ w = w' := by
  have HN := Lib.hid hn
  have HA := Lib.hid ha
  clear hn ha
  go_enter Try.func27, Try.ntmps27
  go_wp2_with (go_at_call 47; refine (bxAsked_any _ _ _ xs room lo hi _ HN.out hlen hs _ HA.out).mono ?_; rintro e w' ⟨rfl, rfl⟩)
  go_ret2
  exact ⟨rfl, rfl⟩

set_option maxHeartbeats 400000 in
theorem spec_WorstFit_yes (A : Option Addr) (n c : Nat) (xs : List Int) (room : Int) (lo hi : Nat) (w : World) (hn : xs.length = n) (hs : Seg w lo hi A xs) (hB : hi ≤ w.heap.size) (ha : askedB xs room = true) :
    Calls Try.prog 27 #[.slice A n c, .int .i64 room] w fun e w' => ∃ A' c', e = .returned (.tuple #[.slice A' n c', .bool true]) ∧ Own w' w.heap.size w'.heap.size A' (run 119 room xs ([], [])).2 ∧ Below w.heap.size w w' := by
  obtain ⟨h1, h9, hx, hr1, hr2⟩ := askedB_at ha
  rw [hn] at h1 h9
  have HN := Lib.hid hn
  have HA := Lib.hid ha
  have HX := Lib.hid hx
  clear hn ha hx
  go_enter Try.func27, Try.ntmps27
  go_wp2_with (go_at_call 47; refine (bxAsked_any _ _ _ xs room lo hi _ HN.out (by omega) hs _ HA.out).mono ?_; rintro e w' ⟨rfl, rfl⟩)
  refine (bxOrder_any _ _ _ _ (by omega)).mono ?_
  rintro e w1 ⟨O, d, rfl, ho, hb1⟩
  go_wp2_with fail
  have hz1 := hb1.size
  have hs1 := hs.below hb1 hB
  refine (bxRule_any _ _ _ _ _ _ room 119 xs (List.range n) lo hi w.heap.size w1.heap.size _ HN.out (by simp) hs1 ho.seg (by omega) (Nat.le_refl _) h9 h9 HX.out ⟨hr1, hr2⟩ (by rw [HN.out]; intro i hi; simpa using hi)).mono ?_
  rintro e w2 ⟨rfl, ho2, hb2⟩
  go_wp2
  go_ret2
  have e : (runOrd 119 room xs (List.range n) ([], List.replicate n 0)).2 = (run 119 room xs ([], [])).2 := by rw [← HN.out, runOrd_id]
  rw [e] at ho2
  exact ⟨_, _, rfl, ho2.more hz1 (Nat.le_refl _), hb1.trans (hb2.mono hz1)⟩

set_option maxHeartbeats 400000 in
theorem plan_WorstFit_no (A : Option Addr) (n c : Nat) (xs : List Int) (room : Int) (lo hi : Nat) (w : World) (hn : xs.length = n) (hlen : n ≤ 1048576) (hs : Seg w lo hi A xs) (ha : askedB xs room = false) :
    Calls Try.prog 50 #[.slice A n c, .int .i64 room, .func (.func 54) #[] #[]] w fun e w' => e = .returned (.tuple #[.slice none 0 0, .bool false]) ∧ w = w' := by
  have HN := Lib.hid hn
  have HA := Lib.hid ha
  clear hn ha
  go_enter Try.func50, Try.ntmps50
  go_wp2_with (go_at_call 57; refine (canBePacked_any _ _ _ xs room lo hi _ HN.out hlen hs _ HA.out).mono ?_; rintro e w' ⟨rfl, rfl⟩)
  go_ret2
  exact ⟨rfl, rfl⟩

set_option maxHeartbeats 400000 in
theorem plan_WorstFit_yes (A : Option Addr) (n c : Nat) (xs : List Int) (room : Int) (lo hi : Nat) (w : World) (hn : xs.length = n) (hs : Seg w lo hi A xs) (hB : hi ≤ w.heap.size) (ha : askedB xs room = true) :
    Calls Try.prog 50 #[.slice A n c, .int .i64 room, .func (.func 54) #[] #[]] w fun e w' => ∃ A' c', e = .returned (.tuple #[.slice A' n c', .bool true]) ∧ Own w' w.heap.size w'.heap.size A' (run 119 room xs ([], [])).2 ∧ Below w.heap.size w w' := by
  have HN := Lib.hid hn
  have HA := Lib.hid ha
  have h9 : n ≤ 9 := by have := (askedB_at ha).2.1; omega
  have HL := Lib.hid (show (run 119 room xs ([], [])).2.length = n by rw [run_len]; simp [hn])
  have hfd := field_plan
  clear hn ha
  go_enter Try.func50, Try.ntmps50
  go_wp2_with (go_at_call 57; refine (canBePacked_any _ _ _ xs room lo hi _ HN.out (by omega) hs _ HA.out).mono ?_; rintro e w' ⟨rfl, rfl⟩)
  refine (packByRule_emptiest _ _ _ xs room lo hi _ HN.out hs hB HA.out).mono ?_
  rintro e w1 ⟨Bo, Bp, rfl, hbo, hbp, hne, hl1, hl2, hb1⟩
  go_wp2
  go_ret2
  exact ⟨_, _, by rw [HL.out]; rfl, plan_own hbp hl2 hbp.lt, hb1⟩

set_option maxHeartbeats 400000 in
theorem impl_WorstFit_no (A : Option Addr) (n c : Nat) (xs : List Int) (room : Int) (lo hi : Nat) (w : World) (hn : xs.length = n) (hlen : n ≤ 1048576) (hs : Seg w lo hi A xs) (ha : askedB xs room = false) :
    Calls Try.prog 28 #[.slice A n c, .int .i64 room] w fun e w' => e = .returned (.tuple #[.slice none 0 0, .bool false]) ∧ w = w' := by
  have HN := Lib.hid hn
  have HA := Lib.hid ha
  clear hn ha
  go_enter Try.func28, Try.ntmps28
  go_wp2_with (go_at_call 50; refine (plan_WorstFit_no _ _ _ xs room lo hi _ HN.out hlen hs HA.out).mono ?_; rintro e w' ⟨rfl, rfl⟩)
  go_ret2
  exact ⟨rfl, rfl⟩

set_option maxHeartbeats 400000 in
theorem impl_WorstFit_yes (A : Option Addr) (n c : Nat) (xs : List Int) (room : Int) (lo hi : Nat) (w : World) (hn : xs.length = n) (hs : Seg w lo hi A xs) (hB : hi ≤ w.heap.size) (ha : askedB xs room = true) :
    Calls Try.prog 28 #[.slice A n c, .int .i64 room] w fun e w' => ∃ A' c', e = .returned (.tuple #[.slice A' n c', .bool true]) ∧ Own w' w.heap.size w'.heap.size A' (run 119 room xs ([], [])).2 ∧ Below w.heap.size w w' := by
  have HN := Lib.hid hn
  have HA := Lib.hid ha
  clear hn ha
  go_enter Try.func28, Try.ntmps28
  go_wp2_with (go_at_call 50; refine (plan_WorstFit_yes _ _ _ xs room lo hi _ HN.out hs hB HA.out).mono ?_; rintro e w1 ⟨A', c', rfl, ho, hb⟩)
  go_ret2
  exact ⟨_, _, rfl, ho, hb⟩

theorem spec_WorstFit (A : Option Addr) (n c : Nat) (xs : List Int) (room : Int) (lo hi : Nat) (w : World) (hn : xs.length = n) (hlen : n ≤ 1048576) (hs : Seg w lo hi A xs) (hB : hi ≤ w.heap.size) (b : Bool) (ha : askedB xs room = b) :
    Calls Try.prog 27 #[.slice A n c, .int .i64 room] w (RetL b (planM 119 xs room) w) := by
  cases b
  · exact (spec_WorstFit_no A n c xs room lo hi w hn hlen hs ha).mono fun _ _ ⟨he, hw⟩ => ⟨none, 0, 0, he, by rw [planM_no ha]; rfl, by rw [planM_no ha]; exact Own.nil_, by rw [← hw]; exact Below.refl _ _⟩
  · exact (spec_WorstFit_yes A n c xs room lo hi w hn hs hB ha).mono fun _ _ ⟨A', c', he, ho, hb⟩ => ⟨A', n, c', he, by rw [planM_yes ha, run_len, hn]; simp, by rw [planM_yes ha]; exact ho, hb⟩

theorem impl_WorstFit (A : Option Addr) (n c : Nat) (xs : List Int) (room : Int) (lo hi : Nat) (w : World) (hn : xs.length = n) (hlen : n ≤ 1048576) (hs : Seg w lo hi A xs) (hB : hi ≤ w.heap.size) (b : Bool) (ha : askedB xs room = b) :
    Calls Try.prog 28 #[.slice A n c, .int .i64 room] w (RetL b (planM 119 xs room) w) := by
  cases b
  · exact (impl_WorstFit_no A n c xs room lo hi w hn hlen hs ha).mono fun _ _ ⟨he, hw⟩ => ⟨none, 0, 0, he, by rw [planM_no ha]; rfl, by rw [planM_no ha]; exact Own.nil_, by rw [← hw]; exact Below.refl _ _⟩
  · exact (impl_WorstFit_yes A n c xs room lo hi w hn hs hB ha).mono fun _ _ ⟨A', c', he, ho, hb⟩ => ⟨A', n, c', he, by rw [planM_yes ha, run_len, hn]; simp, by rw [planM_yes ha]; exact ho, hb⟩
end Go.Proofs.Ytjnfaikcimlkdaa

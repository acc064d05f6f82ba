/-
  The given program's loads of a plan, as it answers them.
  Conditions: lists of at most 1048576 numbers.
-/
import Derived.Test.YtplohhmggfifkabByPlan
import Derived.Test.YtplohhmggfifkabLoads
namespace Go.Proofs.Ytplohhmggfifkab
set_option linter.unusedVariables false
open Go.RowKit

theorem packM_getD_len (room : Int) (xs plan : List Int) : ((packM room xs plan).getD []).length ≤ 9 := by
  rcases h : packM room xs plan with _ | ls
  · simp
  · exact packM_len h

section
variable (A D : Option Addr) (n c m d : Nat) (room : Int) (xs plan : List Int) (lo hi lo' hi' : Nat) (w : World)

set_option maxHeartbeats 400000 in
theorem spec_LoadsOf (hn : xs.length = n) (hm : plan.length = m) (hn2 : n ≤ 1048576) (hm2 : m ≤ 1048576) (hs : Seg w lo hi A xs) (ho : Seg w lo' hi' D plan) (hB : hi ≤ w.heap.size) (hB' : hi' ≤ w.heap.size)
    (p : Bool) (hp : (packM room xs plan).isSome = p) :
    Calls Try.prog 59 #[.slice A n c, .int .i64 room, .slice D m d] w (RetL p ((packM room xs plan).getD []) w) := by
  have HN := Lib.hid hn
  have HM := Lib.hid hm
  have HP := Lib.hid hp
  clear hn hm hp
  obtain ⟨q, ha⟩ : ∃ q, askedB xs room = q := ⟨_, rfl⟩
  have HA := Lib.hid ha
  clear ha
  cases q
  · obtain rfl : p = false := by rw [← HP.out, packM_no HA.out]; rfl
    go_enter Try.func59, Try.ntmps59
    go_wp2_with (go_at_call 50; refine (bxAsked_any _ _ _ xs room lo hi _ HN.out hn2 hs _ HA.out).mono ?_; rintro e w' ⟨rfl, rfl⟩)
    go_ret2
    exact ⟨none, 0, 0, rfl, by rw [packM_no HA.out]; rfl, by rw [packM_no HA.out]; exact Own.nil_, Below.refl _ _⟩
  · obtain ⟨h1, h9, hx, hr1, hr2⟩ := askedB_at HA.out
    have HX := Lib.hid hx
    have h9' : n ≤ 9 := by rw [← HN.out]; exact h9
    clear h1 h9 hx
    have hc := fun W : World => bxLoads_any A D n c m d room xs plan lo hi lo' hi' W HN.out HM.out hm2
    have HC := Lib.hid hc
    clear hc
    go_enter Try.func59, Try.ntmps59
    go_wp2_with (go_at_call 50; refine (bxAsked_any _ _ _ xs room lo hi _ HN.out hn2 hs _ HA.out).mono ?_; rintro e w' ⟨rfl, rfl⟩)
    refine (HC.out _ hs ho hB hB' h9' HX.out ⟨hr1, hr2⟩).mono ?_
    rintro e w1 (⟨hr, rfl, hb⟩ | ⟨ls, A', c', hr, rfl, hown, hb⟩)
    · have HR := Lib.hid ((packM_yes HA.out).trans hr)
      obtain rfl : p = false := by rw [← HP.out, HR.out]; rfl
      clear hr
      go_wp2
      go_ret2
      exact ⟨none, 0, 0, rfl, by rw [HR.out]; rfl, by rw [HR.out]; exact Own.nil_, hb⟩
    · have HR := Lib.hid ((packM_yes HA.out).trans hr)
      obtain rfl : p = true := by rw [← HP.out, HR.out]; rfl
      clear hr
      go_wp2
      go_ret2
      exact ⟨A', _, c', rfl, by rw [HR.out]; rfl, by rw [HR.out]; exact hown, hb⟩

end
end Go.Proofs.Ytplohhmggfifkab

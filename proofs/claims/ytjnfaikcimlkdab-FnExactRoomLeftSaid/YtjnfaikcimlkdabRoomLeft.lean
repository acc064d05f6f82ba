/-
  What both programs answer of the room that is left in the boxes of a plan.
  Conditions: lists of at most 1048576 numbers.
-/
import Derived.Test.YtjnfaikcimlkdabSpecLoads
import Derived.Test.YtjnfaikcimlkdabSum
namespace Go.Proofs.Ytjnfaikcimlkdab
set_option linter.unusedVariables false
open Go.RowKit

theorem packM_asked {room : Int} {xs plan ls : List Int} (h : packM room xs plan = some ls) : askedB xs room = true := by
  unfold packM at h
  split at h
  · assumption
  · cases h

theorem mul_bd {room : Int} {n : Nat} (h1 : 1 ≤ room) (h2 : room ≤ 1000) (hn : n ≤ 9) : 0 ≤ room * (n : Int) ∧ room * (n : Int) ≤ 9000 := by
  have h3 : 0 ≤ room * (n : Int) := Int.mul_nonneg (by omega) (by omega)
  have h4 : room * (n : Int) ≤ 1000 * 9 := Int.mul_le_mul h2 (by omega) (by omega) (by omega)
  omega

/-- The room that is left. -/
def leftM (room : Int) (xs plan : List Int) : Int := match packM room xs plan with | some ls => room * (ls.length : Int) - xs.sum | none => 0
theorem leftM_no {room : Int} {xs plan : List Int} (h : packM room xs plan = none) : leftM room xs plan = 0 := by unfold leftM; rw [h]
theorem leftM_yes {room : Int} {xs plan ls : List Int} (h : packM room xs plan = some ls) : leftM room xs plan = room * (ls.length : Int) - xs.sum := by unfold leftM; rw [h]

section
variable (A D : Option Addr) (n c m d : Nat) (room : Int) (xs plan : List Int) (lo hi lo' hi' : Nat) (w : World)

set_option maxHeartbeats 400000 in
theorem spec_RoomLeft (hn : xs.length = n) (hm : plan.length = m) (hn2 : n ≤ 1048576) (hm2 : m ≤ 1048576) (hs : Seg w lo hi A xs) (ho : Seg w lo' hi' D plan) (hB : hi ≤ w.heap.size) (hB' : hi' ≤ w.heap.size)
    (p : Bool) (hp : (packM room xs plan).isSome = p) :
    Calls Try.prog 13 #[.slice A n c, .int .i64 room, .slice D m d] w (RetI (leftM room xs plan) p w) := by
  have hsl := spec_LoadsOf A D n c m d room xs plan lo hi lo' hi' w hn hm hn2 hm2 hs ho hB hB' p hp
  have HC := Lib.hid hsl
  have HN := Lib.hid hn
  clear hsl hn hm
  rcases h : packM room xs plan with _ | ls
  · obtain rfl : p = false := by rw [← hp, h]; rfl
    have HL := Lib.hid (leftM_no h)
    clear h hp
    go_enter Try.func13, Try.ntmps13
    go_wp2_with (go_at_call 29; refine HC.out.mono ?_; rintro e w1 ⟨A', n', c', rfl, hl, ho', hb⟩)
    go_ret2
    exact ⟨by rw [HL.out]; rfl, hb⟩
  · obtain rfl : p = true := by rw [← hp, h]; rfl
    have ha := packM_asked h
    obtain ⟨_, _, _, hr1, hr2⟩ := askedB_at ha
    have hg := (askedB_true.1 ha).1
    have HG := Lib.hid hg
    have hsb := sum_bd hg
    have hl9 := packM_len h
    have HL := Lib.hid (leftM_yes h)
    have hmb := mul_bd hr1 hr2 hl9
    have HLE := Lib.hid (show ((packM room xs plan).getD []).length = ls.length by rw [h]; rfl)
    clear h hp ha hg
    go_enter Try.func13, Try.ntmps13
    go_wp2_with (first
      | (go_at_call 29; refine HC.out.mono ?_; rintro e w1 ⟨A', n', c', rfl, hl, ho', hb⟩; obtain rfl : n' = ls.length := hl.symm.trans HLE.out; clear hl; have hs1 := hs.below hb hB)
      | (go_at_call 26; refine (bxSum_any _ _ _ xs lo hi _ HN.out hs1 HG.out).mono ?_; rintro e w' ⟨rfl, rfl⟩))
    go_ret2
    exact ⟨by rw [HL.out]; rfl, hb⟩

set_option maxHeartbeats 400000 in
theorem impl_RoomLeft (hn : xs.length = n) (hm : plan.length = m) (hn2 : n ≤ 1048576) (hm2 : m ≤ 1048576) (hs : Seg w lo hi A xs) (ho : Seg w lo' hi' D plan) (hB : hi ≤ w.heap.size) (hB' : hi' ≤ w.heap.size)
    (p : Bool) (hp : (packM room xs plan).isSome = p) :
    Calls Try.prog 14 #[.slice A n c, .int .i64 room, .slice D m d] w (RetI (leftM room xs plan) p w) := by
  have HN := Lib.hid hn
  have HM := Lib.hid hm
  have HP := Lib.hid hp
  clear hn hm hp
  go_enter Try.func14, Try.ntmps14
  go_wp2_with fail
  refine (packByPlan_any A D n c m d room xs plan lo hi lo' hi' _ HN.out HM.out hn2 hm2 hs ho hB hB').mono ?_
  rintro e w1 (⟨hr, rfl, hb⟩ | ⟨ls, Bo, Bp, hr, rfl, hbo, hbp, hne, hl1, hl2, hb⟩)
  · obtain rfl : p = false := by rw [← HP.out, hr]; rfl
    have hz := hb.size
    have HL := Lib.hid (leftM_no hr)
    clear hr
    go_wp2
    go_ret2
    exact ⟨by rw [HL.out]; rfl, hb.alloc hz _⟩
  · obtain rfl : p = true := by rw [← HP.out, hr]; rfl
    have hz := hb.size
    have HL := Lib.hid (leftM_yes hr)
    have ha := packM_asked hr
    obtain ⟨_, _, _, hr1, hr2⟩ := askedB_at ha
    have hg := (askedB_true.1 ha).1
    have HG := Lib.hid hg
    have hsb := sum_bd hg
    have hmb := mul_bd hr1 hr2 (packM_len hr)
    rw [Int.mul_comm] at hmb
    have hwr : IntKind.i64.wrap ((ls.length : Int) * room) = (ls.length : Int) * room := IntWalk.i64_in _ (by omega)
    have hs1 := hs.below hb hB
    clear hr ha hg
    have hs2 := hs1.below ((Below.refl w1.heap.size w1).alloc (Nat.le_refl _) (.cells #[.int .i64 (ls.length : Int), .int .i64 0, .int .i64 room, .slice (some ⟨Bo, 0, none⟩) ls.length n, .slice (some ⟨Bp, 0, none⟩) n n] 41)) (by omega)
    have hso := fun k : Nat => (sumOf_any A n c xs lo hi ((w1.alloc (.cells #[.int .i64 (ls.length : Int), .int .i64 0, .int .i64 room, .slice (some ⟨Bo, 0, none⟩) ls.length n, .slice (some ⟨Bp, 0, none⟩) n n] 41)).drewN k) HN.out (hs2.keep fun _ _ _ => rfl) HG.out).mono (R' := fun e w' => e = .returned (.int .i64 xs.sum) ∧ w' = (w1.alloc (.cells #[.int .i64 (ls.length : Int), .int .i64 0, .int .i64 room, .slice (some ⟨Bo, 0, none⟩) ls.length n, .slice (some ⟨Bp, 0, none⟩) n n] 41)).drewN k) fun _ _ h => ⟨h.1, h.2.symm⟩
    have HSO := Lib.hid hso
    clear hso
    go_wp2
    go_quiet ((go_at_call 28; exact Calls.quiet_of_same (HSO.out _)))
    go_wp2
    go_ret2
    exact ⟨by rw [HL.out, Int.mul_comm]; rfl, below_drewN (hb.alloc hz _) _⟩
end
end Go.Proofs.Ytjnfaikcimlkdab

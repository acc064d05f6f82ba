/-
  What both programs answer of a plan: whether it is one, and the loads of its boxes.
  Conditions: lists of at most 1048576 numbers.
-/
import Derived.Test.YtjnfaikcimlkdaaByPlan
import Derived.Test.YtjnfaikcimlkdaaByRule
import Derived.Test.YtjnfaikcimlkdaaLoads
namespace Go.Proofs.Ytjnfaikcimlkdaa
set_option linter.unusedVariables false
open Go.RowKit

/-- Two bools are answered. -/
def RetBB (p q : Bool) (w : World) (e : Ending) (w' : World) : Prop := e = .returned (.tuple #[.bool p, .bool q]) ∧ Below w.heap.size w w'

theorem packM_getD_len (room : Int) (xs plan : List Int) : ((packM room xs plan).getD []).length ≤ 9 := by
  rcases h : packM room xs plan with _ | ls
  · simp
  · exact packM_len h

section
variable (A D : Option Addr) (n c m d : Nat) (room : Int) (xs plan : List Int) (lo hi lo' hi' : Nat) (w : World)

set_option maxHeartbeats 400000 in
theorem spec_IsPacking (hn : xs.length = n) (hm : plan.length = m) (hn2 : n ≤ 1048576) (hm2 : m ≤ 1048576) (hs : Seg w lo hi A xs) (ho : Seg w lo' hi' D plan) (hB : hi ≤ w.heap.size) (hB' : hi' ≤ w.heap.size)
    (q : Bool) (ha : askedB xs room = q) (p : Bool) (hp : (packM room xs plan).isSome = p) :
    Calls Try.prog 31 #[.slice A n c, .int .i64 room, .slice D m d] w (RetBB p q w) := by
  have HN := Lib.hid hn
  have HM := Lib.hid hm
  have HA := Lib.hid ha
  have HP := Lib.hid hp
  clear hn hm ha hp
  cases q
  · obtain rfl : p = false := by rw [← HP.out, packM_no HA.out]; rfl
    go_enter Try.func31, Try.ntmps31
    go_wp2_with (go_at_call 47; refine (bxAsked_any _ _ _ xs room lo hi _ HN.out hn2 hs _ HA.out).mono ?_; rintro e w' ⟨rfl, rfl⟩)
    go_ret2
    exact ⟨rfl, Below.refl _ _⟩
  · obtain ⟨h1, h9, hx, hr1, hr2⟩ := askedB_at HA.out
    have HX := Lib.hid hx
    have h9' : n ≤ 9 := by rw [← HN.out]; exact h9
    clear h1 h9 hx
    have hc := fun W : World => bxLoads_any A D n c m d room xs plan lo hi lo' hi' W HN.out HM.out hm2
    have HC := Lib.hid hc
    clear hc
    go_enter Try.func31, Try.ntmps31
    go_wp2_with (go_at_call 47; refine (bxAsked_any _ _ _ xs room lo hi _ HN.out hn2 hs _ HA.out).mono ?_; rintro e w' ⟨rfl, rfl⟩)
    refine (HC.out _ hs ho hB hB' h9' HX.out ⟨hr1, hr2⟩).mono ?_
    rintro e w1 (⟨hr, rfl, hb⟩ | ⟨ls, A', c', hr, rfl, hown, hb⟩)
    · obtain rfl : p = false := by rw [← HP.out, packM_yes HA.out, hr]; rfl
      clear hr
      go_wp2
      go_ret2
      exact ⟨rfl, hb⟩
    · obtain rfl : p = true := by rw [← HP.out, packM_yes HA.out, hr]; rfl
      clear hr
      go_wp2
      go_ret2
      exact ⟨rfl, hb⟩

set_option maxHeartbeats 400000 in
theorem spec_LoadsOf (hn : xs.length = n) (hm : plan.length = m) (hn2 : n ≤ 1048576) (hm2 : m ≤ 1048576) (hs : Seg w lo hi A xs) (ho : Seg w lo' hi' D plan) (hB : hi ≤ w.heap.size) (hB' : hi' ≤ w.heap.size)
    (p : Bool) (hp : (packM room xs plan).isSome = p) :
    Calls Try.prog 33 #[.slice A n c, .int .i64 room, .slice D m d] w (RetL p ((packM room xs plan).getD []) w) := by
  have HN := Lib.hid hn
  have HM := Lib.hid hm
  have HP := Lib.hid hp
  clear hn hm hp
  obtain ⟨q, ha⟩ : ∃ q, askedB xs room = q := ⟨_, rfl⟩
  have HA := Lib.hid ha
  clear ha
  cases q
  · obtain rfl : p = false := by rw [← HP.out, packM_no HA.out]; rfl
    go_enter Try.func33, Try.ntmps33
    go_wp2_with (go_at_call 47; refine (bxAsked_any _ _ _ xs room lo hi _ HN.out hn2 hs _ HA.out).mono ?_; rintro e w' ⟨rfl, rfl⟩)
    go_ret2
    exact ⟨none, 0, 0, rfl, by rw [packM_no HA.out]; rfl, by rw [packM_no HA.out]; exact Own.nil_, Below.refl _ _⟩
  · obtain ⟨h1, h9, hx, hr1, hr2⟩ := askedB_at HA.out
    have HX := Lib.hid hx
    have h9' : n ≤ 9 := by rw [← HN.out]; exact h9
    clear h1 h9 hx
    have hc := fun W : World => bxLoads_any A D n c m d room xs plan lo hi lo' hi' W HN.out HM.out hm2
    have HC := Lib.hid hc
    clear hc
    go_enter Try.func33, Try.ntmps33
    go_wp2_with (go_at_call 47; refine (bxAsked_any _ _ _ xs room lo hi _ HN.out hn2 hs _ HA.out).mono ?_; rintro e w' ⟨rfl, rfl⟩)
    refine (HC.out _ hs ho hB hB' h9' HX.out ⟨hr1, hr2⟩).mono ?_
    rintro e w1 (⟨hr, rfl, hb⟩ | ⟨ls, A', c', hr, rfl, hown, hb⟩)
    · have HR := Lib.hid ((packM_yes HA.out).trans hr)
      obtain rfl : p = false := by rw [← HP.out, HR.out]; rfl
      clear hr
      go_wp2
      go_ret2
      exact ⟨none, 0, 0, rfl, by rw [HR.out]; rfl, by rw [HR.out]; exact Own.nil_, hb⟩
    · have HR := Lib.hid ((packM_yes HA.out).trans hr)
      obtain rfl : p = true := by rw [← HP.out, HR.out]; rfl
      clear hr
      go_wp2
      go_ret2
      exact ⟨A', _, c', rfl, by rw [HR.out]; rfl, by rw [HR.out]; exact hown, hb⟩

set_option maxHeartbeats 400000 in
theorem impl_IsPacking (hn : xs.length = n) (hm : plan.length = m) (hn2 : n ≤ 1048576) (hm2 : m ≤ 1048576) (hs : Seg w lo hi A xs) (ho : Seg w lo' hi' D plan) (hB : hi ≤ w.heap.size) (hB' : hi' ≤ w.heap.size)
    (q : Bool) (ha : askedB xs room = q) (p : Bool) (hp : (packM room xs plan).isSome = p) :
    Calls Try.prog 32 #[.slice A n c, .int .i64 room, .slice D m d] w (RetBB p q w) := by
  have HN := Lib.hid hn
  have HM := Lib.hid hm
  have HA := Lib.hid ha
  have HP := Lib.hid hp
  clear hn hm ha hp
  cases q
  · obtain rfl : p = false := by rw [← HP.out, packM_no HA.out]; rfl
    go_enter Try.func32, Try.ntmps32
    go_wp2_with (go_at_call 57; refine (canBePacked_any _ _ _ xs room lo hi _ HN.out hn2 hs _ HA.out).mono ?_; rintro e w' ⟨rfl, rfl⟩)
    go_ret2
    exact ⟨rfl, Below.refl _ _⟩
  · go_enter Try.func32, Try.ntmps32
    go_wp2_with (go_at_call 57; refine (canBePacked_any _ _ _ xs room lo hi _ HN.out hn2 hs _ HA.out).mono ?_; rintro e w' ⟨rfl, rfl⟩)
    refine (packByPlan_any A D n c m d room xs plan lo hi lo' hi' _ HN.out HM.out hn2 hm2 hs ho hB hB').mono ?_
    rintro e w1 (⟨hr, rfl, hb⟩ | ⟨ls, Bo, Bp, hr, rfl, hbo, hbp, hne, hl1, hl2, hb⟩)
    · obtain rfl : p = false := by rw [← HP.out, hr]; rfl
      have hz := hb.size
      clear hr
      go_wp2
      go_ret2
      exact ⟨rfl, hb.alloc hz _⟩
    · obtain rfl : p = true := by rw [← HP.out, hr]; rfl
      have hz := hb.size
      clear hr
      go_wp2
      go_ret2
      exact ⟨rfl, hb.alloc hz _⟩

set_option maxHeartbeats 1000000 in
theorem impl_LoadsOf (hn : xs.length = n) (hm : plan.length = m) (hn2 : n ≤ 1048576) (hm2 : m ≤ 1048576) (hs : Seg w lo hi A xs) (ho : Seg w lo' hi' D plan) (hB : hi ≤ w.heap.size) (hB' : hi' ≤ w.heap.size)
    (p : Bool) (hp : (packM room xs plan).isSome = p) :
    Calls Try.prog 34 #[.slice A n c, .int .i64 room, .slice D m d] w (RetL p ((packM room xs plan).getD []) w) := by
  have HN := Lib.hid hn
  have HM := Lib.hid hm
  have HP := Lib.hid hp
  clear hn hm hp
  go_enter Try.func34, Try.ntmps34
  go_wp2_with fail
  refine (packByPlan_any A D n c m d room xs plan lo hi lo' hi' _ HN.out HM.out hn2 hm2 hs ho hB hB').mono ?_
  rintro e w1 (⟨hr, rfl, hb⟩ | ⟨ls, Bo, Bp, hr, rfl, hbo, hbp, hne, hl1, hl2, hb⟩)
  · obtain rfl : p = false := by rw [← HP.out, hr]; rfl
    have hz := hb.size
    have HR := Lib.hid hr
    clear hr
    go_wp2
    go_ret2
    exact ⟨none, 0, 0, rfl, by rw [HR.out]; rfl, by rw [HR.out]; exact Own.nil_, hb.alloc hz _⟩
  · obtain rfl : p = true := by rw [← HP.out, hr]; rfl
    have hz := hb.size
    have HR := Lib.hid hr
    have hl9 : ls.length ≤ 9 := packM_len hr
    clear hr
    have hmk := fun W : World => run_make_row' 22 3 (.int .i64 0) 8 Try.underlying22 int_info rfl .i64 .i64 ls.length (by omega) (by omega) W
    have hbo1 := hbo.keep (w' := w1.alloc (.cells #[.int .i64 (ls.length : Int), .int .i64 0, .int .i64 room, .slice (some ⟨Bo, 0, none⟩) ls.length n, .slice (some ⟨Bp, 0, none⟩) n n] 50)) (alloc_old _ hbo.lt _)
    have HBO := Lib.hid hbo1
    have hbl := hbo.lt
    go_wp2
    clear hmk
    go_loopw [11, 29] (fun _ i wr => ∃ k : Nat, k ≤ ls.length ∧ i = .int .i64 k ∧ Below w.heap.size w wr ∧ Boxes wr Bo n ls ∧ Part wr (w1.heap.size + 1) 3 ls.length k ls) (fun _ i _ => ls.length - (intOf i).toNat)
    case atStart =>
      refine ⟨0, Nat.zero_le _, rfl, (hb.alloc hz _).alloc (by simp; omega) _, HBO.out.keep (alloc_old _ (by simp; omega) _), ?_⟩
      have h := part_new (w1.alloc (.cells #[.int .i64 (ls.length : Int), .int .i64 0, .int .i64 room, .slice (some ⟨Bo, 0, none⟩) ls.length n, .slice (some ⟨Bp, 0, none⟩) n n] 50)) 3 ls.length (.int .i64 0) ls
      simpa using h
    case round =>
      obtain ⟨k, hk, rfl, hbw, hbx, hpart⟩ := hrel
      have hpl := hpart.lt
      by_cases hlt : k < ls.length
      · obtain ⟨l, hle⟩ : ∃ l, l = ls[k] := ⟨_, rfl⟩
        have hlk : ls[k]? = some l := by rw [hle]; exact List.getElem?_eq_getElem hlt
        clear hle
        obtain ⟨g1, g2⟩ := hbx.at2 hlk
        have hbxl := hbx.lt
        obtain ⟨v0, hv0⟩ := hpart.cell k hlt
        have hfz := hpart.frozen k
        have hneq : ¬ w1.heap.size + 1 = Bo := by omega
        have HLK := Lib.hid hlk
        clear hlk
        go_wp2
        go_roundw
        case rel =>
          refine ⟨k + 1, by omega, by go_num, (hbw.setCell (p := ⟨w1.heap.size + 1, k, none⟩) (by show _ ≤ w1.heap.size + 1; omega) _).alloc (by simp; have := hbw.size; omega) _, (hbx.keep (set_far _ (by exact Ne.symm hneq) _)).keep (alloc_old _ (by simpa using hbxl) _), ?_⟩
          exact (hpart.step hlt HLK.out).keep (alloc_old _ (by simpa using hpl) _)
        case measure => simp [intOf]; omega
      · obtain rfl : k = ls.length := by omega
        have hbz := hbw.size
        go_wp2
        go_ret2
        refine ⟨_, _, _, rfl, by rw [HR.out]; rfl, by rw [HR.out]; exact hpart.own (by omega) hpl, hbw⟩
end
end Go.Proofs.Ytjnfaikcimlkdaa

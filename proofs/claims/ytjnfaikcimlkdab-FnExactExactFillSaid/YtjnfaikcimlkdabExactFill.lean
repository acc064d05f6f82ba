/-
  What both programs answer of things that are just a room together.
  Conditions: the list has at most 1048576 numbers.
-/
import Derived.Test.YtjnfaikcimlkdabFillSpec
import Derived.Test.YtjnfaikcimlkdabNew
namespace Go.Proofs.Ytjnfaikcimlkdab
set_option linter.unusedVariables false
open Go.RowKit

/-- The list that is asked for. -/
def fillR (xs : List Int) (room : Int) : Option (List Int) := if goodB xs = true ∧ inB room 1 1000 = true then fillM xs xs.length 0 room else none
theorem fillR_no1 {xs : List Int} {room : Int} (h : goodB xs = false) : fillR xs room = none := by unfold fillR; rw [if_neg (by rw [h]; rintro ⟨h, _⟩; cases h)]
theorem fillR_no2 {xs : List Int} {room : Int} (h : inB room 1 1000 = false) : fillR xs room = none := by unfold fillR; rw [if_neg (by rw [h]; rintro ⟨_, h⟩; cases h)]
theorem fillR_yes {xs : List Int} {room : Int} (h : goodB xs = true) (h2 : inB room 1 1000 = true) : fillR xs room = fillM xs xs.length 0 room := by unfold fillR; rw [if_pos ⟨h, h2⟩]
theorem fillR_len (xs : List Int) (room : Int) : ((fillR xs room).getD []).length ≤ 9 := by
  rcases h : fillR xs room with _ | ys
  · simp
  · unfold fillR at h
    split at h
    · next hc => have h1 := fillM_len h; have h2 := (goodB_at hc.1).2.1; simp; omega
    · cases h

set_option maxHeartbeats 400000 in
theorem spec_ExactFill (A : Option Addr) (n c : Nat) (xs : List Int) (room : Int) (lo hi : Nat) (w : World) (hn : xs.length = n) (hlen : n ≤ 1048576) (hs : Seg w lo hi A xs) (hB : hi ≤ w.heap.size) (p : Bool) (hp : (fillR xs room).isSome = p) :
    Calls Try.prog 23 #[.slice A n c, .int .i64 room] w (RetL p ((fillR xs room).getD []) w) := by
  have HN := Lib.hid hn
  have HP := Lib.hid hp
  clear hn hp
  obtain ⟨g, hg⟩ : ∃ g, goodB xs = g := ⟨_, rfl⟩
  obtain ⟨q, hq⟩ : ∃ q, inB room 1 1000 = q := ⟨_, rfl⟩
  have HG := Lib.hid hg
  have HQ := Lib.hid hq
  clear hg hq
  cases g
  · have HR := Lib.hid (fillR_no1 (room := room) HG.out)
    obtain rfl : p = false := by rw [← HP.out, HR.out]; rfl
    go_enter Try.func23, Try.ntmps23
    go_wp2_with (go_at_call 31; refine (bxGood_any _ _ _ xs lo hi _ HN.out hlen hs _ HG.out).mono ?_; rintro e w' ⟨rfl, rfl⟩)
    go_ret2
    exact ⟨none, 0, 0, rfl, by rw [HR.out]; rfl, by rw [HR.out]; exact Own.nil_, Below.refl _ _⟩
  · cases q
    · have HR := Lib.hid (fillR_no2 (xs := xs) HQ.out)
      obtain rfl : p = false := by rw [← HP.out, HR.out]; rfl
      go_enter Try.func23, Try.ntmps23
      go_wp2_with (first
        | (go_at_call 31; refine (bxGood_any _ _ _ xs lo hi _ HN.out hlen hs _ HG.out).mono ?_; rintro e w' ⟨rfl, rfl⟩)
        | (go_at_call 32; refine (l1In_any _ _ _ _ HQ.out _).mono ?_; rintro e w' ⟨rfl, rfl⟩))
      go_ret2
      exact ⟨none, 0, 0, rfl, by rw [HR.out]; rfl, by rw [HR.out]; exact Own.nil_, Below.refl _ _⟩
    · have hr := inB_true.1 HQ.out
      have HY := Lib.hid (fillR_yes HG.out HQ.out)
      have hc := (show Calls Try.prog 45 #[.slice A n c, .slice none 0 0, .int .i64 room] w (FillRet (fillM xs xs.length 0 room) w) by
        have h := bxFill_any A n c xs lo hi HN.out HG.out n 0 room none 0 0 [] 0 0 w (by omega) (by omega) hs hB Seg.nil_ (Nat.zero_le _) rfl (Nat.le_refl _) (.inl ⟨rfl, rfl⟩)
        have e : (fillM xs n 0 room).map (([] : List Int) ++ ·) = fillM xs n 0 room := by simp
        rw [e] at h
        rw [HN.out]
        exact h)
      have HC := Lib.hid hc
      clear hc hr
      go_enter Try.func23, Try.ntmps23
      go_wp2_with (first
        | (go_at_call 31; refine (bxGood_any _ _ _ xs lo hi _ HN.out hlen hs _ HG.out).mono ?_; rintro e w' ⟨rfl, rfl⟩)
        | (go_at_call 32; refine (l1In_any _ _ _ _ HQ.out _).mono ?_; rintro e w' ⟨rfl, rfl⟩))
      refine HC.out.mono ?_
      rintro e w1 (⟨hf, rfl, hb⟩ | ⟨ys, A', c', hf, rfl, hown, hb⟩)
      · have HR := Lib.hid (HY.out.trans hf)
        obtain rfl : p = false := by rw [← HP.out, HR.out]; rfl
        clear hf
        go_wp2
        go_ret2
        exact ⟨none, 0, 0, rfl, by rw [HR.out]; rfl, by rw [HR.out]; exact Own.nil_, hb⟩
      · have HR := Lib.hid (HY.out.trans hf)
        obtain rfl : p = true := by rw [← HP.out, HR.out]; rfl
        clear hf
        go_wp2
        go_ret2
        exact ⟨A', _, c', rfl, by rw [HR.out]; rfl, by rw [HR.out]; exact hown, hb⟩

set_option maxHeartbeats 400000 in
theorem impl_ExactFill (A : Option Addr) (n c : Nat) (xs : List Int) (room : Int) (lo hi : Nat) (w : World) (hn : xs.length = n) (hlen : n ≤ 1048576) (hs : Seg w lo hi A xs) (hB : hi ≤ w.heap.size) (p : Bool) (hp : (fillR xs room).isSome = p) :
    Calls Try.prog 24 #[.slice A n c, .int .i64 room] w (RetL p ((fillR xs room).getD []) w) := by
  have HN := Lib.hid hn
  have HP := Lib.hid hp
  clear hn hp
  obtain ⟨g, hg⟩ : ∃ g, goodB xs = g := ⟨_, rfl⟩
  obtain ⟨q, hq⟩ : ∃ q, inB room 1 1000 = q := ⟨_, rfl⟩
  have HG := Lib.hid hg
  have HQ := Lib.hid hq
  clear hg hq
  cases g
  · have HR := Lib.hid (fillR_no1 (room := room) HG.out)
    obtain rfl : p = false := by rw [← HP.out, HR.out]; rfl
    go_enter Try.func24, Try.ntmps24
    go_wp2_with (go_at_call 36; refine (implAreThings_any _ _ _ xs lo hi _ HN.out hlen hs _ HG.out).mono ?_; rintro e w' ⟨rfl, rfl⟩)
    go_ret2
    exact ⟨none, 0, 0, rfl, by rw [HR.out]; rfl, by rw [HR.out]; exact Own.nil_, Below.refl _ _⟩
  · cases q
    · have HR := Lib.hid (fillR_no2 (xs := xs) HQ.out)
      obtain rfl : p = false := by rw [← HP.out, HR.out]; rfl
      go_enter Try.func24, Try.ntmps24
      go_wp2_with (first
        | (go_at_call 36; refine (implAreThings_any _ _ _ xs lo hi _ HN.out hlen hs _ HG.out).mono ?_; rintro e w' ⟨rfl, rfl⟩)
        | (go_at_call 46; refine (isRoom_any _ _ HQ.out _).mono ?_; rintro e w' ⟨rfl, rfl⟩))
      go_ret2
      exact ⟨none, 0, 0, rfl, by rw [HR.out]; rfl, by rw [HR.out]; exact Own.nil_, Below.refl _ _⟩
    · have hr := inB_true.1 HQ.out
      have HY := Lib.hid (fillR_yes HG.out HQ.out)
      have hc := (show Calls Try.prog 47 #[.slice A n c, .int .i64 0, .int .i64 room] w (FillRet (fillM xs xs.length 0 room) w) by
        rw [HN.out]
        exact fillFrom_any A n c xs lo hi HN.out HG.out n 0 room w (by omega) (by omega) hs hB)
      have HC := Lib.hid hc
      clear hc hr
      go_enter Try.func24, Try.ntmps24
      go_wp2_with (first
        | (go_at_call 36; refine (implAreThings_any _ _ _ xs lo hi _ HN.out hlen hs _ HG.out).mono ?_; rintro e w' ⟨rfl, rfl⟩)
        | (go_at_call 46; refine (isRoom_any _ _ HQ.out _).mono ?_; rintro e w' ⟨rfl, rfl⟩))
      refine HC.out.mono ?_
      rintro e w1 (⟨hf, rfl, hb⟩ | ⟨ys, A', c', hf, rfl, hown, hb⟩)
      · have HR := Lib.hid (HY.out.trans hf)
        obtain rfl : p = false := by rw [← HP.out, HR.out]; rfl
        clear hf
        go_wp2
        go_ret2
        exact ⟨none, 0, 0, rfl, by rw [HR.out]; rfl, by rw [HR.out]; exact Own.nil_, hb⟩
      · have HR := Lib.hid (HY.out.trans hf)
        obtain rfl : p = true := by rw [← HP.out, HR.out]; rfl
        clear hf
        go_wp2
        go_ret2
        exact ⟨A', _, c', rfl, by rw [HR.out]; rfl, by rw [HR.out]; exact hown, hb⟩
end Go.Proofs.Ytjnfaikcimlkdab

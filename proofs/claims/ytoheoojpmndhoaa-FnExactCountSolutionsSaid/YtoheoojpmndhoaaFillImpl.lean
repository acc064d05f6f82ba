/-
  The written program's search for things that are just a room together.
  Conditions: one to nine things, each from 1 to 100; a room of 0 to 1000.
-/
import Derived.Test.YtoheoojpmndhoaaFillM
import Derived.Test.YtoheoojpmndhoaaAppend
import Derived.Test.YtoheoojpmndhoaaAsked
namespace Go.Proofs.Ytoheoojpmndhoaa
set_option linter.unusedVariables false
open Go.RowKit

/-- A list, or that there is none. -/
def FillRet (r : Option (List Int)) (w : World) (e : Ending) (w' : World) : Prop :=
  (r = none ∧ e = .returned (.tuple #[.slice none 0 0, .bool false]) ∧ Below w.heap.size w w') ∨
  ∃ ys A c, r = some ys ∧ e = .returned (.tuple #[.slice A ys.length c, .bool true]) ∧ Own w' w.heap.size w'.heap.size A ys ∧ Below w.heap.size w w'

set_option maxHeartbeats 1000000 in
theorem fillFrom_any (A : Option Addr) (n c : Nat) (xs : List Int) (lo hi : Nat) (hn : xs.length = n) (hg : goodB xs = true) (m : Nat) :
    ∀ (k : Nat) (room : Int) (w : World), k + m = n → 0 ≤ room ∧ room ≤ 1000 → Seg w lo hi A xs → hi ≤ w.heap.size →
      Calls Try.prog 111 #[.slice A n c, .int .i64 (k : Int), .int .i64 room] w (FillRet (fillM xs m k room) w) := by
  obtain ⟨i0, hi0, hz0, hz1, hz2⟩ := info_parts int_info
  have HN := Lib.hid hn
  obtain ⟨g1, g2, g3⟩ := goodB_at hg
  have hn9 : n ≤ 9 := by omega
  have HG := Lib.hid g3
  clear hg g1 g2 g3 hn
  induction m using Nat.strongRecOn with
  | ind m ih =>
    intro k0 room w hkm hroom hs hB
    have IH := Lib.hid ih
    clear ih
    by_cases hz : room = 0
    · subst hz
      have HZ := Lib.hid (fillM_zero xs m k0)
      go_enter Try.func111, Try.ntmps111
      go_wp2
      go_ret2
      exact Or.inr ⟨[], none, 0, HZ.out, rfl, Own.nil_, Below.refl _ _⟩
    · have hz' : (room == 0) = false := by simpa using hz
      go_enter Try.func111, Try.ntmps111
      go_wp2
      go_loopw [8] (fun i wr => ∃ k : Nat, k0 ≤ k ∧ k ≤ n ∧ i = .int .i64 k ∧ Below w.heap.size w wr ∧ fillM xs m k0 room = fillM xs (n - k) k room) (fun i _ => n - (intOf i).toNat)
      case atStart => exact ⟨k0, Nat.le_refl _, by omega, rfl, Below.refl _ _, by rw [show n - k0 = m by omega]⟩
      case round =>
        obtain ⟨k, hk0, hk, rfl, hb, hf⟩ := hrel
        have HF := Lib.hid hf
        have hsz := hb.size
        have hsw := hs.below hb hB
        clear hf
        by_cases hlt : k < n
        · obtain ⟨bt, ot, x, rfl, _, hbt, hx, hct⟩ := hsw.at_ (k := k) (by rw [HN.out]; exact hlt)
          have hxb := HG.out x (List.mem_of_getElem? hx)
          have HX := Lib.hid hx
          clear hx
          obtain ⟨d, hd⟩ : ∃ d, n - k = d + 1 := ⟨n - k - 1, by omega⟩
          have hd2 : n - (k + 1) = d := by omega
          have HD := Lib.hid hd
          have HD2 := Lib.hid hd2
          by_cases hov : room < x
          · have HS := Lib.hid (show fillM xs m k0 room = fillM xs (n - (k + 1)) (k + 1) room by rw [HD2.out, HF.out, HD.out]; exact fillM_over hz HX.out hov)
            clear hd hd2
            go_wp2
            go_roundw
            case rel => exact ⟨k + 1, by omega, by omega, by go_num, hb, HS.out⟩
            case measure => simp [intOf]; omega
          · have hov' : decide (room < x) = false := decide_eq_false hov
            have hih := IH.out d (by omega) (k + 1) (room - x) wr (by omega) (by omega) hsw (by omega)
            have hcast : ((k + 1 : Nat) : Int) = (k : Int) + 1 := by omega
            rw [hcast] at hih
            have HI := Lib.hid hih
            clear hd hd2 hih hcast
            go_wp2_with fail
            refine HI.out.mono ?_
            rintro e w1 (⟨hr, rfl, hb1⟩ | ⟨ys, A', c', hr, rfl, hown, hb1⟩)
            · have HS := Lib.hid (show fillM xs m k0 room = fillM xs (n - (k + 1)) (k + 1) room by rw [HD2.out, HF.out, HD.out]; exact fillM_no hz HX.out hr)
              clear hr
              have hb2 := hb.trans (hb1.mono hsz)
              go_wp2
              go_roundw
              case rel => exact ⟨k + 1, by omega, by omega, by go_num, hb2, HS.out⟩
              case measure => simp [intOf]; omega
            · have HS := Lib.hid (show fillM xs m k0 room = some ((k : Int) :: ys) by rw [HF.out, HD.out]; exact fillM_yes hz HX.out (by omega) hr)
              have hyl : ys.length ≤ 9 := by have h1 := fillM_len hr; have h2 := HD.out; omega
              clear hr
              have hb2 := hb.trans (hb1.mono hsz)
              have hz1' := hb1.size
              have hlit := World.ownsRow_lit (base := w.heap.size) (e := 3) (size := 1) w1 #[.int .i64 (k : Int)] 1 (by omega) (by unfold maxLen; omega) rfl
              have hseg := (hown.below ((Below.refl _ _).alloc (Nat.le_refl _) (.cells #[.int .i64 (k : Int)] 3)) (Nat.le_refl _)).seg
              have HLIT := Lib.hid hlit
              have HSEG := Lib.hid hseg
              clear hlit hseg
              go_wp2_with (at_builtin; (refine wpList_append_seg _ rfl _ _ 39 rfl w.heap.size 3 i0 Try.underlying39 hi0 hz0 hz1 hz2 _ 1 _ rfl HLIT.out A' _ c' ys _ _ rfl rfl HSEG.out (by omega) (by simp; omega) ?_; intro v' w2 hown2 hgrow2; have hown3 : w2.ownsRow w.heap.size 3 1 v' ((k : Int) :: ys).length (((k : Int) :: ys).map (Value.int .i64)) := (by simpa [Nat.add_comm] using hown2); clear hown2; obtain ⟨A2, c2, rfl⟩ := ownsRow_form hown3))
              go_ret2
              have hb3 : Below w.heap.size w w2 := (hb2.alloc (by omega) _).grown hgrow2 (by simp; omega) (fun g hg => (HLIT.out.lt g hg).1)
              exact Or.inr ⟨_, A2, c2, HS.out, rfl, (ownsRow_own hown3).2, hb3⟩
        · obtain rfl : k = n := by omega
          have HS := Lib.hid (HF.out.trans (by rw [Nat.sub_self, fillM_end xs k hz]))
          go_wp2
          go_ret2
          exact Or.inl ⟨HS.out, rfl, hb⟩
end Go.Proofs.Ytoheoojpmndhoaa

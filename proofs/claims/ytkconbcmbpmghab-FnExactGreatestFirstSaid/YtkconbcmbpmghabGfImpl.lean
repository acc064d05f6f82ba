/-
  GreatestFirst of the written program: its law's contract.
  Conditions: the list has at most 1048576 numbers.
-/
import Derived.Test.YtkconbcmbpmghabGfOrd
import Derived.Test.YtkconbcmbpmghabByRuleF
import Derived.Test.YtkconbcmbpmghabRenumber
namespace Go.Proofs.Ytkconbcmbpmghab
set_option linter.unusedVariables false
open Go.RowKit

theorem plan_segZ {w : World} {Bp n lo hi : Nat} {pl : List Int} (h : Plan w Bp n pl) (h1 : lo ≤ Bp) (h2 : Bp < hi) : Seg w lo hi (some ⟨Bp, 0, none⟩) pl := by
  obtain ⟨cs, hb, hs, hc⟩ := h
  have ho : Own w lo hi (some ⟨Bp, 0, none⟩) pl := .inr ⟨Bp, cs, _, rfl, h1, h2, hb, fun k hk => hc k _ (by simp [List.getD, hk])⟩
  exact ho.seg

set_option maxRecDepth 100000 in
set_option maxHeartbeats 4000000 in
theorem impl_GreatestFirst_yes (A : Option Addr) (n c : Nat) (xs : List Int) (room : Int) (lo hi : Nat) (w : World) (hn : xs.length = n) (hs : Seg w lo hi A xs) (hB : hi ≤ w.heap.size) (ha : askedB xs room = true) :
    Calls Try.prog 32 #[.slice A n c, .int .i64 room] w fun e w' => ∃ A' c', e = .returned (.tuple #[.slice A' n c', .bool true]) ∧ Own w' w.heap.size w'.heap.size A' (gfM xs room) ∧ Below w.heap.size w w' := by
  obtain ⟨h1, h9, hx, hr1, hr2⟩ := askedB_at ha
  rw [hn] at h1 h9
  have hmk := fun W : World => run_make_row' 30 3 (.int .i64 0) 8 Try.underlying30 int_info rfl .i64 .i64 n (by omega) (by omega) W
  have HN := Lib.hid hn
  have HA := Lib.hid ha
  have HX := Lib.hid (fun x (h : x ∈ xs) => (⟨(hx x h).1, (hx x h).2.1⟩ : 1 ≤ x ∧ x ≤ 100))
  have HSA := Lib.hid (sizes_asked ha)
  have HSL := Lib.hid ((sizes_length xs).trans hn)
  have HOL := Lib.hid ((ordI_length xs).trans hn)
  have HON := Lib.hid ((ordN_length xs).trans hn)
  clear hn ha hx
  go_enter Try.func32, Try.ntmps32
  go_wp2_with (go_at_call 66; refine (canBePacked_any _ _ _ xs room lo hi _ HN.out (by omega) hs _ HA.out).mono ?_; rintro e w' ⟨rfl, rfl⟩)
  refine (greatestFirst_any A n c xs lo hi _ HN.out hs hB h1 h9 HX.out).mono ?_
  rintro e w1 ⟨O, d, rfl, ho, hb1⟩
  have hz1 := hb1.size
  have HO := Lib.hid ho.seg
  have HB1 := Lib.hid hb1
  have HS1 := Lib.hid (hs.below hb1 hB)
  obtain ⟨ss, hss⟩ : ∃ ss, sizesL xs (ordN xs) = ss := ⟨_, rfl⟩
  have HSS := Lib.hid hss
  rw [hss] at HSA HSL
  clear ho hb1 hss
  go_wp2
  go_loopw [8, 9, 25] (fun _ _ i wr => ∃ k : Nat, k ≤ n ∧ i = .int .i64 (k : Int) ∧ Below w1.heap.size w1 wr ∧ Arr wr w1.heap.size 3 (ss.take k ++ List.replicate (n - k) 0)) (fun _ _ i _ => n - (intOf i).toNat)
  case atStart => exact ⟨0, Nat.zero_le _, rfl, (Below.refl _ _).alloc (Nat.le_refl _) _, arr_new _ _ _⟩
  case round =>
    obtain ⟨k, hk, rfl, hb, harr⟩ := hrel
    have hsz := hb.size
    by_cases hlt : k < n
    · obtain ⟨bo, oo, x, rfl, _, hbo, hxv, hco⟩ := HO.out.at_ (k := k) (by rw [HOL.out]; exact hlt)
      have hcow : wr.cell? ⟨bo, oo + k, none⟩ = some (.int .i64 x) := (hb.cell (by exact hbo)).trans hco
      obtain ⟨i, rfl, hi, hil⟩ := ordN_at hxv
      rw [HN.out] at hil
      obtain ⟨b, off, u, rfl, _, hbh, hu, hc⟩ := HS1.out.at_ (k := i) (by rw [HN.out]; exact hil)
      have hcw : wr.cell? ⟨b, off + i, none⟩ = some (.int .i64 u) := (hb.cell (by exact Nat.lt_of_lt_of_le hbh (Nat.le_trans hB hz1))).trans hc
      have hsv := sizes_at hi hu
      rw [HSS.out] at hsv
      have HFS := Lib.hid (fill_step hsv HSL.out)
      have hplen : (ss.take k ++ List.replicate (n - k) 0).length = n := by
        rw [List.length_append, List.length_take, List.length_replicate, HSL.out]
        omega
      obtain ⟨pv, hpv, hcp⟩ := harr.at_ (k := k) (by rw [hplen]; exact hlt)
      have hfp := harr.frozen k
      have hin : (i : Int) < (n : Int) := by omega
      have HARR := Lib.hid harr
      clear harr hxv hco hi hu hc hplen hpv hsv
      go_wp2
      go_roundw
      case rel => exact ⟨k + 1, by omega, by go_num, hb.setCell (Nat.le_refl _) _, by rw [← HFS.out]; exact HARR.out.set k _⟩
      case measure => simp [intOf]; omega
    · obtain rfl : n = k := by omega
      rw [List.take_of_length_le (by rw [HSL.out]; exact Nat.le_refl _), Nat.sub_self, List.replicate_zero, List.append_nil] at harr
      obtain ⟨WO, hWO⟩ : ∃ WO, WO = wr := ⟨_, rfl⟩
      subst hWO
      have HBR := Lib.hid hb
      have HB2 := Lib.hid (HB1.out.trans (hb.mono hz1))
      have HAR := Lib.hid harr
      have hlw := harr.lt
      clear harr hb
      go_wp2_with fail
      refine (packByRule_first (some ⟨w1.heap.size, 0, none⟩) n n ss room w1.heap.size WO.heap.size _ HSL.out (HAR.out.own (Nat.le_refl _) HAR.out.lt).seg (Nat.le_refl _) HSA.out).mono ?_
      rintro e w2 ⟨Bo, Bp, rfl, hbo, hbp, hne, hl1, hl2, hb2⟩
      have hpln : (run 102 room ss ([], [])).2.length = n := by rw [run_len, HSL.out]; simp
      have HGF := Lib.hid (show namedL (putL (ordN xs) (run 102 room ss ([], [])).2 (List.replicate n 0)) = gfM xs room by rw [gfM, HSS.out, HN.out])
      obtain ⟨ls, hls⟩ : ∃ ls, (run 102 room ss ([], [])).1 = ls := ⟨_, rfl⟩
      obtain ⟨pl, hpl⟩ : ∃ pl, (run 102 room ss ([], [])).2 = pl := ⟨_, rfl⟩
      rw [hpl] at hpln hbp HGF
      rw [hls] at hbo
      simp only [hls, hpl]
      have HPL := Lib.hid hpln
      have HPS := Lib.hid (plan_segZ (lo := WO.heap.size) hbp hl2 hbp.lt)
      have HB3 := Lib.hid hb2
      have hz2 := hb2.size
      clear hls hpl hpln hbp hbo hb2
      go_wp2
      go_loopw [12, 13, 46] (fun _ _ i wx => ∃ k : Nat, k ≤ n ∧ i = .int .i64 (k : Int) ∧ Below w2.heap.size w2 wx ∧ wx.cell? ⟨w2.heap.size, 4, none⟩ = some (.slice (some ⟨Bp, 0, none⟩) pl.length n) ∧ Arr wx (w2.heap.size + 1) 3 (putL ((ordN xs).take k) (pl.take k) (List.replicate n 0))) (fun _ _ i _ => n - (intOf i).toNat)
      case atStart => exact ⟨0, Nat.zero_le _, rfl, ((Below.refl _ _).alloc (Nat.le_refl _) _).alloc (by simp) _, (((Below.refl (w2.heap.size + 1) _).alloc (by simp) _).cell (by exact Nat.lt_succ_self _)).trans (cell_of (new_at w2 _ rfl) 4), by have h := fun o => arr_new (w2.alloc o) 3 n; simp only [World.size_alloc] at h; exact h _⟩
      case round =>
        obtain ⟨k, hk, rfl, hbx, hcl, harx⟩ := hrel
        have hszx := hbx.size
        by_cases hlt2 : k < n
        · obtain ⟨bo, oo, x, rfl, _, hbo, hxv, hco⟩ := HO.out.at_ (k := k) (by rw [HOL.out]; exact hlt2)
          have hcow : wr.cell? ⟨bo, oo + k, none⟩ = some (.int .i64 x) := (((HBR.out.trans (HB3.out.mono hsz)).trans (hbx.mono (Nat.le_trans hsz hz2))).cell (by exact hbo)).trans hco
          obtain ⟨i, rfl, hi, hil⟩ := ordN_at hxv
          rw [HN.out] at hil
          obtain ⟨bp, op, v, hP, _, hbh, hv, hc⟩ := HPS.out.at_ (k := k) (by rw [HPL.out]; exact hlt2)
          obtain ⟨rfl, rfl⟩ : Bp = bp ∧ 0 = op := by injection hP with hP; injection hP with h1 h2; exact ⟨h1, h2⟩
          have hcw : wr.cell? ⟨Bp, k, none⟩ = some (.int .i64 v) := by
            have h := (hbx.cell (by exact hbh)).trans hc
            simpa using h
          have HPT := Lib.hid (putL_step (pl := List.replicate n 0) hi hv)
          have hplen : (putL ((ordN xs).take k) (pl.take k) (List.replicate n 0)).length = n := by rw [putL_length]; simp
          obtain ⟨pv, hpv, hcp⟩ := harx.at_ (k := i) (by rw [hplen]; exact hil)
          have hfp := harx.frozen i
          have hin : (i : Int) < (n : Int) := by omega
          have hkp : (k : Int) < (pl.length : Int) := by rw [HPL.out]; omega
          have HARX := Lib.hid harx
          have HCL := Lib.hid hcl
          clear harx hxv hco hi hv hc hplen hpv hP
          go_wp2
          go_roundw
          case rel => exact ⟨k + 1, by omega, by go_num, hbx.setCell (p := ⟨w2.heap.size + 1, i, none⟩) (Nat.le_succ _) _, (World.cell?_setCell_other _ _ _ _ (by intro e; injection e with e1 e2 e3; omega)).trans HCL.out, by rw [HPT.out]; exact HARX.out.set i _⟩
          case measure => simp [intOf]; omega
        · obtain rfl : n = k := by omega
          rw [List.take_of_length_le (by rw [HON.out]; exact Nat.le_refl _), List.take_of_length_le (by rw [HPL.out]; exact Nat.le_refl _)] at harx
          have HB4 := Lib.hid (HB2.out.trans ((HB3.out.mono HB2.out.size).trans (hbx.mono (Nat.le_trans HB2.out.size hz2))))
          have hlen : (putL (ordN xs) pl (List.replicate n 0)).length = n := by rw [putL_length]; simp
          have HLEN := Lib.hid hlen
          have HARX := Lib.hid harx
          clear harx hlen
          go_wp2_with fail
          refine (renumbered_any (some ⟨w2.heap.size + 1, 0, none⟩) n n (putL (ordN xs) pl (List.replicate n 0)) 0 wr.heap.size _ HLEN.out h9 (HARX.out.own (Nat.zero_le _) HARX.out.lt).seg (Nat.le_refl _)).mono ?_
          rintro e w3 ⟨rfl, ho3, hb3⟩
          go_wp2
          go_ret2
          exact ⟨_, _, rfl, by rw [← HGF.out]; exact ho3.more HB4.out.size (Nat.le_refl _), HB4.out.trans (hb3.mono HB4.out.size)⟩

set_option maxHeartbeats 400000 in
theorem impl_GreatestFirst_no (A : Option Addr) (n c : Nat) (xs : List Int) (room : Int) (lo hi : Nat) (w : World) (hn : xs.length = n) (hlen : n ≤ 1048576) (hs : Seg w lo hi A xs) (ha : askedB xs room = false) :
    Calls Try.prog 32 #[.slice A n c, .int .i64 room] w fun e w' => e = .returned (.tuple #[.slice none 0 0, .bool false]) ∧ w = w' := by
  have HN := Lib.hid hn
  have HA := Lib.hid ha
  clear hn ha
  go_enter Try.func32, Try.ntmps32
  go_wp2_with (go_at_call 66; refine (canBePacked_any _ _ _ xs room lo hi _ HN.out hlen hs _ HA.out).mono ?_; rintro e w' ⟨rfl, rfl⟩)
  go_ret2
  exact ⟨rfl, rfl⟩
/-- The answer's list. -/
def gfL (xs : List Int) (room : Int) : List Int := if askedB xs room then gfM xs room else []
theorem gfL_yes {xs : List Int} {room : Int} (h : askedB xs room = true) : gfL xs room = gfM xs room := by unfold gfL; rw [if_pos h]
theorem gfL_no {xs : List Int} {room : Int} (h : askedB xs room = false) : gfL xs room = [] := by unfold gfL; rw [if_neg (by rw [h]; decide)]
theorem impl_GreatestFirst (A : Option Addr) (n c : Nat) (xs : List Int) (room : Int) (lo hi : Nat) (w : World) (hn : xs.length = n) (hlen : n ≤ 1048576) (hs : Seg w lo hi A xs) (hB : hi ≤ w.heap.size) (b : Bool) (ha : askedB xs room = b) :
    Calls Try.prog 32 #[.slice A n c, .int .i64 room] w (RetL b (gfL xs room) w) := by
  cases b
  · exact (impl_GreatestFirst_no A n c xs room lo hi w hn hlen hs ha).mono fun _ _ ⟨he, hw⟩ => ⟨none, 0, 0, he, by rw [gfL_no ha]; rfl, by rw [gfL_no ha]; exact Own.nil_, by rw [← hw]; exact Below.refl _ _⟩
  · exact (impl_GreatestFirst_yes A n c xs room lo hi w hn hs hB ha).mono fun _ _ ⟨A', c', he, ho, hb⟩ => ⟨A', n, c', he, by rw [gfL_yes ha, gfM_length, hn], by rw [gfL_yes ha]; exact ho, hb⟩
end Go.Proofs.Ytkconbcmbpmghab

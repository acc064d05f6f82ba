/-
  The checking program's box with its sides ordered.
  Conditions: none.
-/
import Derived.Test.YtbaofgbkcolmmabNestM
import Derived.Test.YtbaofgbkcolmmabL1Own
namespace Go.Proofs.Ytbaofgbkcolmmab
set_option linter.unusedVariables false
open Go.RowKit

theorem own_cap {w : World} {base T n cap : Nat} {A : Option Addr} {xs : List Value} (h : w.ownsRow base T 1 (.slice A n cap) n xs) : n ≤ cap := by
  obtain ⟨_, ⟨hv, hn⟩ | ⟨g, cap', cur, hv, _, _, hnc, _⟩⟩ := h
  · injection hv with _ h2 h3; omega
  · injection hv with _ h2 h3; omega

theorem Seg.takeI {w : World} {lo hi : Nat} {A : Option Addr} {xs : List Int} (h : Seg w lo hi A xs) (j : Nat) : Seg w lo hi A (xs.take j) := by
  rcases h with rfl | ⟨b, off, e, h1, h2, hc⟩
  · exact .inl (by simp)
  · refine .inr ⟨b, off, e, h1, h2, fun k hk => ?_⟩
    rw [List.length_take] at hk
    rw [hc k (by omega)]
    simp only [List.getD]
    rw [List.getElem?_take_of_lt (by omega)]

theorem Seg.dropI {w : World} {lo hi g off : Nat} {xs : List Int} (h : Seg w lo hi (some ⟨g, off, none⟩) xs) (j : Nat) : Seg w lo hi (some ⟨g, off + j, none⟩) (xs.drop j) := by
  rcases h with rfl | ⟨b, off', e, h1, h2, hc⟩
  · exact .inl (by simp)
  · injection e with e; injection e with e1 e2; subst e1 e2
    refine .inr ⟨g, off + j, rfl, h1, h2, fun k hk => ?_⟩
    rw [List.length_drop] at hk
    rw [Nat.add_assoc, hc (j + k) (by omega)]
    simp only [List.getD]
    rw [List.getElem?_drop]

/-- What is left of a row behind a place; at the end of its room it is told from the row's head. -/
theorem tail_seg {w : World} {lo hi g j cap n : Nat} {xs : List Int} (h : Seg w lo hi (some ⟨g, 0, none⟩) xs) (hn : xs.length = n) (hj : j ≤ n) (hc : n ≤ cap) :
    ∃ ad : Addr, (if cap = j then some (⟨g, 0, none⟩ : Addr) else some ⟨g, j, none⟩) = some ad ∧ Seg w lo hi (some ad) (xs.drop j) := by
  by_cases e : cap = j
  · rw [if_pos e]
    refine ⟨_, rfl, .inl (List.drop_of_length_le (by omega))⟩
  · rw [if_neg e]
    refine ⟨_, rfl, ?_⟩
    have := h.dropI j
    rwa [Nat.zero_add] at this

set_option maxRecDepth 100000 in
set_option maxHeartbeats 2000000 in
theorem neSides_any (x y z : Int) (w : World) :
    Calls Try.prog 133 #[.agg #[.int .i64 x, .int .i64 y, .int .i64 z]] w fun e w' => ∃ A c, e = .returned (.slice A 3 c) ∧ Own w' w.heap.size w'.heap.size A (sidesL (x, y, z)) ∧ Below w.heap.size w w' := by
  obtain ⟨i0, hi0, hz0, hz1, hz2⟩ := info_parts int_info
  obtain ⟨xs, hxs⟩ : ∃ xs, [x, y, z] = xs := ⟨_, rfl⟩
  have hxl : xs.length = 3 := by rw [← hxs]; rfl
  have HXL := Lib.hid hxl
  have HSD := Lib.hid (show sidesL (x, y, z) = sortG upLt xs by rw [← hxs]; rfl)
  have hP := par2 w (.cells #[.int .i64 x, .int .i64 y, .int .i64 z] 61) (.cells #[.int .i64 x, .int .i64 y, .int .i64 z] 3)
  have HSEG0 := Lib.hid ((seg3_of hP.2).more (Nat.le_refl _) (hi' := w.heap.size + 2) (by simp))
  have HB0 := Lib.hid (((Below.refl w.heap.size w).alloc (Nat.le_refl _) (.cells #[.int .i64 x, .int .i64 y, .int .i64 z] 61)).alloc (by simp) (.cells #[.int .i64 x, .int .i64 y, .int .i64 z] 3))
  rw [hxs] at HSEG0
  clear hP hxs hxl
  go_enter Try.func133, Try.ntmps133
  go_wp2
  go_loopw [3, 16] (fun v i wr => ∃ k : Nat, k ≤ 3 ∧ i = .int .i64 k ∧ Below w.heap.size w wr ∧ w.heap.size + 2 ≤ wr.heap.size ∧ (∃ out, sortG upLt (xs.take k) = out ∧ wr.ownsRow (w.heap.size + 2) 3 1 v k (out.map (Value.int .i64))) ∧ (k = 0 → v = .slice none 0 0) ∧ Seg wr (w.heap.size + 1) (w.heap.size + 2) (some ⟨w.heap.size + 1, 0, none⟩) xs) (fun _ i _ => 3 - (intOf i).toNat)
  case atStart => exact ⟨0, Nat.zero_le _, rfl, HB0.out, by simp, ⟨[], rfl, World.ownsRow_nil _ _ _ _⟩, fun _ => rfl, HSEG0.out⟩
  case round =>
    obtain ⟨k, hk, rfl, hb, hsz, ⟨out, hout, hown⟩, hnil, hseg⟩ := hrel
    have hol : out.length = k := by rw [← hout, sortG_length, List.length_take, HXL.out]; omega
    obtain ⟨A, c, rfl⟩ := ownsRow_form hown
    have hcap := own_cap hown
    have hoseg := (ownsRow_own (ys := out) (by rw [hol]; exact hown)).2.seg
    have HOL := Lib.hid hol
    have HOUT := Lib.hid hout
    clear hout hol
    by_cases hlt : k < 3
    · obtain ⟨bq, oq, u, hA, _, hbq, hx, hc⟩ := hseg.at_ (k := k) (by rw [HXL.out]; exact hlt)
      obtain ⟨rfl, rfl⟩ : w.heap.size + 1 = bq ∧ 0 = oq := by injection hA with hA; injection hA with h1 h2; exact ⟨h1, h2⟩
      have hcu : wr.cell? ⟨w.heap.size + 1, k, none⟩ = some (.int .i64 u) := by simpa using hc
      have hnext := sortG_next upLt hx
      rw [HOUT.out] at hnext
      have HNX := Lib.hid hnext
      have HSG := Lib.hid hseg
      clear hA hx hnext hc hseg
      go_wp2
      go_loop [6] (fun kk => ∃ j : Nat, j ≤ k ∧ kk = .int .i64 j ∧ Hid (posG upLt out u j = posG upLt out u k)) (fun kk => (intOf kk).toNat)
      case atStart => exact ⟨k, Nat.le_refl _, rfl, rfl⟩
      case round =>
        obtain ⟨j, hj, rfl, hpos⟩ := hrel
        by_cases hgo : ∃ jj x, j = jj + 1 ∧ out[jj]? = some x ∧ upLt u x = true
        · obtain ⟨jj, x, rfl, hx, hux⟩ := hgo
          have HPOS := Lib.hid (show posG upLt out u jj = posG upLt out u k by rw [← posG_go hx hux]; exact hpos.out)
          obtain ⟨bo, oo, x', rfl, _, _, hx', hcx⟩ := hoseg.at_ (k := jj) (by rw [HOL.out]; omega)
          obtain rfl : x = x' := by rw [hx] at hx'; injection hx'
          have hlt2 : u < x := by simpa [upLt] using hux
          clear hx hux hx' hnil
          go_wp2
          go_round
          case rel => exact ⟨jj, by omega, by first | rfl | go_num, HPOS.out⟩
          case measure => first | (simp [intOf]; done) | (simp [intOf]; omega)
        · have hat : insG upLt out u = atG out u j := by
            rw [insG, HOL.out, ← hpos.out]
            rcases Nat.eq_zero_or_pos j with rfl | hjp
            · rfl
            · obtain ⟨jj, rfl⟩ : ∃ jj, j = jj + 1 := ⟨j - 1, by omega⟩
              obtain ⟨x, hx⟩ : ∃ x, out[jj]? = some x := ⟨_, List.getElem?_eq_getElem (by rw [HOL.out]; omega)⟩
              rw [posG_stop hx (by
                cases h : upLt u x with
                | false => rfl
                | true => exact absurd ⟨jj, x, rfl, hx, h⟩ hgo)]
          have hstop : j = 0 ∨ ∃ jj x, j = jj + 1 ∧ out[jj]? = some x ∧ ¬ u < x := by
            rcases Nat.eq_zero_or_pos j with rfl | hjp
            · exact .inl rfl
            · obtain ⟨jj, rfl⟩ : ∃ jj, j = jj + 1 := ⟨j - 1, by omega⟩
              obtain ⟨x, hx⟩ : ∃ x, out[jj]? = some x := ⟨_, List.getElem?_eq_getElem (by rw [HOL.out]; omega)⟩
              exact .inr ⟨jj, x, rfl, hx, fun h => hgo ⟨jj, x, rfl, hx, by simpa [upLt] using h⟩⟩
          have HAT := Lib.hid hat
          have HTK := Lib.hid (hoseg.takeI j)
          clear hat hgo
          have HSTOP := Lib.hid hstop
          clear hstop
          rcases Nat.eq_zero_or_pos k with hk0 | hkp
          · obtain ⟨rfl, rfl⟩ : A = none ∧ c = 0 := by have := hnil hk0; injection this with a b d; exact ⟨a, d⟩
            subst hk0
            obtain rfl : j = 0 := by omega
            clear hnil hown hcap
            go_wp2_with fail
            refine (l1Own_any none 0 0 (out.take 0) _ _ wr (by rw [List.length_take, HOL.out]; omega) (by omega) HTK.out (Nat.le_refl _)).mono ?_
            rintro e w1 ⟨A2, c2, rfl, hown1, hb1⟩
            have hz1' := hb1.size
            have HOW1 := Lib.hid (hown1.alloc (.cells #[.int .i64 u] 3))
            have HS1 := Lib.hid (seg_one w1 u 3)
            have HLT1 := Lib.hid hown1.lt
            have HB1 := Lib.hid hb1
            clear hown1 hb1
            go_wp2_with (first | (at_builtin; refine wpList_append_seg _ rfl _ _ 30 rfl wr.heap.size 3 i0 Try.underlying30 hi0 hz0 hz1 hz2 _ 0 _ rfl HOW1.out _ 1 1 [u] _ _ rfl rfl HS1.out (by omega) (by simp; omega) ?_; intro v3 w3 hown3 hgr3; have hb3 : Below wr.heap.size wr w3 := (HB1.out.alloc hz1' _).grown hgr3 (by simp; omega) (fun g' hg' => (HLT1.out g' hg').1); have HB3 := Lib.hid hb3; have HOW3 := Lib.hid (show w3.ownsRow wr.heap.size 3 1 v3 (0 + 1) ((out.take 0 ++ [u]).map (Value.int .i64)) by simpa using hown3); have HS3 := Lib.hid (((Seg.nil_ : Seg wr 0 0 none [])).below hb3 (by omega)); have HLT3 := Lib.hid hown3.lt; clear HOW1 hown3 hgr3 hb3; obtain ⟨A3, c3, rfl⟩ := ownsRow_form HOW3.out) | (at_builtin; refine wpList_append_seg _ rfl _ _ 30 rfl wr.heap.size 3 i0 Try.underlying30 hi0 hz0 hz1 hz2 _ (0 + 1) _ rfl HOW3.out none 0 0 [] _ _ rfl rfl HS3.out (by omega) HB3.out.size ?_; intro v5 w5 hown5 hgr5; have HB5 := Lib.hid (HB3.out.grown hgr5 HB3.out.size (fun g' hg' => (HLT3.out g' hg').1)); have HOW5 := Lib.hid (show w5.ownsRow wr.heap.size 3 1 v5 (0 + 1 + 0) ((out.take 0 ++ [u] ++ []).map (Value.int .i64)) by simpa [List.map_append] using hown5); have HSG5 := Lib.hid ((HSG.out.below HB3.out hsz).grown hgr5 (Nat.le_trans hsz HB3.out.size) (fun g' hg' => .inr (Nat.le_trans hsz (HLT3.out g' hg').1))); clear HOW3 hown5 hgr5; obtain ⟨A5, c5, rfl⟩ := ownsRow_form HOW5.out))
            go_roundw
            case rel =>
              have hl : (0 + 1 + 0) = 0 + 1 := by omega
              have he : out.take 0 ++ [u] ++ [] = insG upLt out u := by
                rw [HAT.out, atG]
                have h0 : out = [] := List.eq_nil_of_length_eq_zero HOL.out
                rw [h0]
                rfl
              have h := HOW5.out
              rw [he, hl] at h
              try rw [hl]
              refine ⟨0 + 1, by omega, by first | rfl | go_num, hb.trans (HB5.out.mono hb.size), Nat.le_trans hsz HB5.out.size, ⟨_, HNX.out, own_mono h hsz⟩, fun h0 => by omega, HSG5.out⟩
            case measure => first | (simp [intOf]; done) | (simp [intOf]; omega)
          · obtain ⟨g, cap, hv, hg0, hg1, hcs, _⟩ := ownsRow_head (ys := out) hown hkp
            obtain ⟨rfl, rfl⟩ : A = some ⟨g, 0, none⟩ ∧ c = cap := by injection hv with a b d; exact ⟨a, d⟩
            obtain ⟨ad, hsA, hsT⟩ := tail_seg hoseg HOL.out hj hcap
            have HSTL := Lib.hid hsT
            have HOW0 := Lib.hid hown
            rcases HSTOP.out with rfl | ⟨jj, x, rfl, hx, hnlt⟩
            · clear hv hcs hnil hown hsT hsA
              go_wp2_with fail
              refine (l1Own_any (some ⟨g, 0, none⟩) 0 c (out.take 0) _ _ wr (by rw [List.length_take, HOL.out]; omega) (by omega) HTK.out (Nat.le_refl _)).mono ?_
              rintro e w1 ⟨A2, c2, rfl, hown1, hb1⟩
              have hz1' := hb1.size
              have HOW1 := Lib.hid (hown1.alloc (.cells #[.int .i64 u] 3))
              have HS1 := Lib.hid (seg_one w1 u 3)
              have HLT1 := Lib.hid hown1.lt
              have HB1 := Lib.hid hb1
              clear hown1 hb1
              go_wp2_with (first | (at_builtin; refine wpList_append_seg _ rfl _ _ 30 rfl wr.heap.size 3 i0 Try.underlying30 hi0 hz0 hz1 hz2 _ 0 _ rfl HOW1.out _ 1 1 [u] _ _ rfl rfl HS1.out (by omega) (by simp; omega) ?_; intro v3 w3 hown3 hgr3; have hb3 : Below wr.heap.size wr w3 := (HB1.out.alloc hz1' _).grown hgr3 (by simp; omega) (fun g' hg' => (HLT1.out g' hg').1); have HB3 := Lib.hid hb3; have HOW3 := Lib.hid (show w3.ownsRow wr.heap.size 3 1 v3 (0 + 1) ((out.take 0 ++ [u]).map (Value.int .i64)) by simpa using hown3); have HS3 := Lib.hid (hoseg.below hb3 (by omega)); have HLT3 := Lib.hid hown3.lt; clear HOW1 hown3 hgr3 hb3; obtain ⟨A3, c3, rfl⟩ := ownsRow_form HOW3.out) | (at_builtin; refine wpList_append_seg _ rfl _ _ 30 rfl wr.heap.size 3 i0 Try.underlying30 hi0 hz0 hz1 hz2 _ (0 + 1) _ rfl HOW3.out (some ⟨g, 0, none⟩) k c out _ _ rfl HOL.out HS3.out (by omega) HB3.out.size ?_; intro v5 w5 hown5 hgr5; have HB5 := Lib.hid (HB3.out.grown hgr5 HB3.out.size (fun g' hg' => (HLT3.out g' hg').1)); have HOW5 := Lib.hid (show w5.ownsRow wr.heap.size 3 1 v5 (0 + 1 + k) ((out.take 0 ++ [u] ++ out).map (Value.int .i64)) by simpa [List.map_append] using hown5); have HSG5 := Lib.hid ((HSG.out.below HB3.out hsz).grown hgr5 (Nat.le_trans hsz HB3.out.size) (fun g' hg' => .inr (Nat.le_trans hsz (HLT3.out g' hg').1))); clear HOW3 hown5 hgr5; obtain ⟨A5, c5, rfl⟩ := ownsRow_form HOW5.out))
              go_roundw
              case rel =>
                have hl : (0 + 1 + k) = k + 1 := by omega
                have he : out.take 0 ++ [u] ++ out = insG upLt out u := by
                  rw [HAT.out, atG]
                  simp
                have h := HOW5.out
                rw [he, hl] at h
                try rw [hl]
                refine ⟨k + 1, by omega, by first | rfl | go_num, hb.trans (HB5.out.mono hb.size), Nat.le_trans hsz HB5.out.size, ⟨_, HNX.out, own_mono h hsz⟩, fun h0 => by omega, HSG5.out⟩
              case measure => first | (simp [intOf]; done) | (simp [intOf]; omega)
            · obtain ⟨bo, oo, x', hA, _, _, hx', hcx⟩ := hoseg.at_ (k := jj) (by rw [HOL.out]; omega)
              obtain ⟨rfl, rfl⟩ : g = bo ∧ 0 = oo := by injection hA with hA; injection hA with h1 h2; exact ⟨h1, h2⟩
              obtain rfl : x = x' := by rw [hx] at hx'; injection hx'
              have hcx' : wr.cell? ⟨g, jj, none⟩ = some (.int .i64 x) := by simpa using hcx
              have hge : decide (u < x) = false := by simpa using hnlt
              clear hv hcs hnil hown hsT hA hx hx' hcx hnlt
              go_wp2_with fail
              refine (l1Own_any (some ⟨g, 0, none⟩) (jj + 1) c (out.take (jj + 1)) _ _ wr (by rw [List.length_take, HOL.out]; omega) (by omega) HTK.out (Nat.le_refl _)).mono ?_
              rintro e w1 ⟨A2, c2, rfl, hown1, hb1⟩
              have hz1' := hb1.size
              have HOW1 := Lib.hid (hown1.alloc (.cells #[.int .i64 u] 3))
              have HS1 := Lib.hid (seg_one w1 u 3)
              have HLT1 := Lib.hid hown1.lt
              have HB1 := Lib.hid hb1
              clear hown1 hb1
              go_wp2_with (first | (at_builtin; refine wpList_append_seg _ rfl _ _ 30 rfl wr.heap.size 3 i0 Try.underlying30 hi0 hz0 hz1 hz2 _ (jj + 1) _ rfl HOW1.out _ 1 1 [u] _ _ rfl rfl HS1.out (by omega) (by simp; omega) ?_; intro v3 w3 hown3 hgr3; have hb3 : Below wr.heap.size wr w3 := (HB1.out.alloc hz1' _).grown hgr3 (by simp; omega) (fun g' hg' => (HLT1.out g' hg').1); have HB3 := Lib.hid hb3; have HOW3 := Lib.hid (show w3.ownsRow wr.heap.size 3 1 v3 ((jj + 1) + 1) ((out.take (jj + 1) ++ [u]).map (Value.int .i64)) by simpa using hown3); have HS3 := Lib.hid ((HSTL.out).below hb3 (by omega)); have HLT3 := Lib.hid hown3.lt; clear HOW1 hown3 hgr3 hb3; obtain ⟨A3, c3, rfl⟩ := ownsRow_form HOW3.out) | (at_builtin; refine wpList_append_seg _ rfl _ _ 30 rfl wr.heap.size 3 i0 Try.underlying30 hi0 hz0 hz1 hz2 _ ((jj + 1) + 1) _ rfl HOW3.out _ (k - (jj + 1)) _ (out.drop (jj + 1)) _ _ rfl (by rw [List.length_drop, HOL.out]) HS3.out (by omega) HB3.out.size ?_; intro v5 w5 hown5 hgr5; have HB5 := Lib.hid (HB3.out.grown hgr5 HB3.out.size (fun g' hg' => (HLT3.out g' hg').1)); have HOW5 := Lib.hid (show w5.ownsRow wr.heap.size 3 1 v5 ((jj + 1) + 1 + (k - (jj + 1))) ((out.take (jj + 1) ++ [u] ++ (out.drop (jj + 1))).map (Value.int .i64)) by simpa [List.map_append] using hown5); have HSG5 := Lib.hid ((HSG.out.below HB3.out hsz).grown hgr5 (Nat.le_trans hsz HB3.out.size) (fun g' hg' => .inr (Nat.le_trans hsz (HLT3.out g' hg').1))); clear HOW3 hown5 hgr5; obtain ⟨A5, c5, rfl⟩ := ownsRow_form HOW5.out))
              go_roundw
              case rel =>
                have hl : (jj + 1 + 1 + (k - (jj + 1))) = k + 1 := by omega
                have he : out.take (jj + 1) ++ [u] ++ (out.drop (jj + 1)) = insG upLt out u := by
                  rw [HAT.out, atG]
                  simp
                have h := HOW5.out
                rw [he, hl] at h
                try rw [hl]
                refine ⟨k + 1, by omega, by first | rfl | go_num, hb.trans (HB5.out.mono hb.size), Nat.le_trans hsz HB5.out.size, ⟨_, HNX.out, own_mono h hsz⟩, fun h0 => by omega, HSG5.out⟩
              case measure => first | (simp [intOf]; done) | (simp [intOf]; omega)
    · obtain rfl : k = 3 := by omega
      go_wp2
      go_ret
      refine ⟨A, c, rfl, ?_, hb⟩
      rw [HSD.out]
      have e : sortG upLt xs = out := by rw [← HOUT.out, List.take_of_length_le (by rw [HXL.out]; exact Nat.le_refl _)]
      rw [e]
      exact (ownsRow_own (ys := out) (by rw [HOL.out]; exact hown)).2.more (by omega) (Nat.le_refl _)
end Go.Proofs.Ytbaofgbkcolmmab

/-
  GreatestFirst of the checking program: its law's contract.
  Conditions: the list has at most 1048576 numbers.
-/
import Derived.Test.YtkconbcmbpmghabOrdZ
import Derived.Test.YtkconbcmbpmghabBxNamed
import Derived.Test.YtkconbcmbpmghabL1Own
namespace Go.Proofs.Ytkconbcmbpmghab
set_option linter.unusedVariables false
open Go.RowKit

theorem own_cap {w : World} {base T n cap : Nat} {A : Option Addr} {xs : List Value} (h : w.ownsRow base T 1 (.slice A n cap) n xs) : n ≤ cap := by
  obtain ⟨_, ⟨hv, hn⟩ | ⟨g, cap', cur, hv, _, _, hnc, _⟩⟩ := h
  · injection hv with _ h2 h3; omega
  · injection hv with _ h2 h3; omega

theorem Seg.takeI {w : World} {lo hi : Nat} {A : Option Addr} {xs : List Int} (h : Seg w lo hi A xs) (j : Nat) : Seg w lo hi A (xs.take j) := by
  rcases h with rfl | ⟨b, off, e, h1, h2, hc⟩
  · exact .inl (by simp)
  · refine .inr ⟨b, off, e, h1, h2, fun k hk => ?_⟩
    rw [List.length_take] at hk
    rw [hc k (by omega)]
    simp only [List.getD]
    rw [List.getElem?_take_of_lt (by omega)]

theorem Seg.dropI {w : World} {lo hi g off : Nat} {xs : List Int} (h : Seg w lo hi (some ⟨g, off, none⟩) xs) (j : Nat) : Seg w lo hi (some ⟨g, off + j, none⟩) (xs.drop j) := by
  rcases h with rfl | ⟨b, off', e, h1, h2, hc⟩
  · exact .inl (by simp)
  · injection e with e; injection e with e1 e2; subst e1 e2
    refine .inr ⟨g, off + j, rfl, h1, h2, fun k hk => ?_⟩
    rw [List.length_drop] at hk
    rw [Nat.add_assoc, hc (j + k) (by omega)]
    simp only [List.getD]
    rw [List.getElem?_drop]

/-- What is left of a row behind a place; at the end of its room it is told from the row's head. -/
theorem tail_seg {w : World} {lo hi g j cap n : Nat} {xs : List Int} (h : Seg w lo hi (some ⟨g, 0, none⟩) xs) (hn : xs.length = n) (hj : j ≤ n) (hc : n ≤ cap) :
    ∃ ad : Addr, (if cap = j then some (⟨g, 0, none⟩ : Addr) else some ⟨g, j, none⟩) = some ad ∧ Seg w lo hi (some ad) (xs.drop j) := by
  by_cases e : cap = j
  · rw [if_pos e]
    refine ⟨_, rfl, .inl (List.drop_of_length_le (by omega))⟩
  · rw [if_neg e]
    refine ⟨_, rfl, ?_⟩
    have := h.dropI j
    rwa [Nat.zero_add] at this

set_option maxRecDepth 100000 in
set_option maxHeartbeats 4000000 in
theorem spec_GreatestFirst_yes (A0 : Option Addr) (n c0 : Nat) (xs : List Int) (room : Int) (lo hi : Nat) (w : World) (hn : xs.length = n) (hs : Seg w lo hi A0 xs) (hB : hi ≤ w.heap.size) (ha : askedB xs room = true) :
    Calls Try.prog 30 #[.slice A0 n c0, .int .i64 room] w fun e w' => ∃ A' c', e = .returned (.tuple #[.slice A' n c', .bool true]) ∧ Own w' w.heap.size w'.heap.size A' (gfM xs room) ∧ Below w.heap.size w w' := by
  obtain ⟨i0, hi0, hz0, hz1, hz2⟩ := info_parts int_info
  obtain ⟨h1, h9, hx, hr1, hr2⟩ := askedB_at ha
  rw [hn] at h1 h9
  have HN := Lib.hid hn
  have HA := Lib.hid ha
  have HX := Lib.hid hx
  clear hn ha hx
  go_enter Try.func30, Try.ntmps30
  go_wp2_with (go_at_call 63; refine (bxAsked_any _ _ _ xs room lo hi _ HN.out (by omega) hs _ HA.out).mono ?_; rintro e w' ⟨rfl, rfl⟩)
  go_loopw [6, 7, 8, 9, 10, 17] (fun v _ _ _ _ i wr => ∃ k : Nat, k ≤ n ∧ i = .int .i64 (k : Int) ∧ Below w.heap.size w wr ∧ (∃ out, sortG (upZ xs) ((below n).take k) = out ∧ wr.ownsRow w.heap.size 3 1 v k (out.map (Value.int .i64))) ∧ (k = 0 → v = .slice none 0 0)) (fun _ _ _ _ _ i _ => n - (intOf i).toNat)
  case atStart => exact ⟨0, Nat.zero_le _, rfl, Below.refl _ _, ⟨[], rfl, World.ownsRow_nil _ _ _ _⟩, fun _ => rfl⟩
  case round =>
    obtain ⟨k, hk, rfl, hb, ⟨out, hout, hown⟩, hnil⟩ := hrel
    have hsz := hb.size
    have hol : out.length = k := by rw [← hout, sortG_length, List.length_take, below_length]; omega
    obtain ⟨A, c, rfl⟩ := ownsRow_form hown
    have hcap := own_cap hown
    have hoseg := (ownsRow_own (ys := out) (by rw [hol]; exact hown)).2.seg
    have HOL := Lib.hid hol
    have HOUT := Lib.hid hout
    clear hout hol
    by_cases hlt : k < n
    · obtain ⟨bq, oq, u, rfl, _, hbq, hx, hc⟩ := hs.at_ (k := k) (by rw [HN.out]; exact hlt)
      have hcu : wr.cell? ⟨bq, oq + k, none⟩ = some (.int .i64 u) := (hb.cell (by exact Nat.lt_of_lt_of_le hbq hB)).trans hc
      have HXU := Lib.hid (show xs.getD k 0 = u by simp [List.getD, hx])
      have hnext := sortG_next (upZ xs) (below_at hlt)
      rw [HOUT.out] at hnext
      have HNX := Lib.hid hnext
      have HMEM := Lib.hid (show ∀ x ∈ out, 0 ≤ x ∧ x < (n : Int) from by rw [← HOUT.out]; exact sortG_mem (fun x hx => below_mem (List.mem_of_mem_take hx)))
      clear hx hnext hc
      go_wp2
      go_loop [9] (fun kk => ∃ j : Nat, j ≤ k ∧ kk = .int .i64 j ∧ Hid (posG (upZ xs) out (k : Int) j = posG (upZ xs) out (k : Int) k)) (fun kk => (intOf kk).toNat)
      case atStart => exact ⟨k, Nat.le_refl _, rfl, rfl⟩
      case round =>
        obtain ⟨j, hj, rfl, hpos⟩ := hrel
        by_cases hgo : ∃ jj x, j = jj + 1 ∧ out[jj]? = some x ∧ upZ xs (k : Int) x = true
        · obtain ⟨jj, x, rfl, hx, hux⟩ := hgo
          have HPOS := Lib.hid (show posG (upZ xs) out (k : Int) jj = posG (upZ xs) out (k : Int) k by rw [← posG_go hx hux]; exact hpos.out)
          have hxm := HMEM.out x (List.mem_of_getElem? hx)
          obtain ⟨xn, rfl⟩ : ∃ xn : Nat, x = (xn : Int) := ⟨x.toNat, by omega⟩
          obtain ⟨bo, oo, x', rfl, _, _, hx', hcx⟩ := hoseg.at_ (k := jj) (by rw [HOL.out]; omega)
          obtain rfl : (xn : Int) = x' := by rw [hx] at hx'; injection hx'
          obtain ⟨b2, o2, v, hA2, _, hb2, hv, hcv⟩ := hs.at_ (k := xn) (by rw [HN.out]; omega)
          obtain ⟨rfl, rfl⟩ : bq = b2 ∧ oq = o2 := by injection hA2 with hA; injection hA with h1 h2; exact ⟨h1, h2⟩
          have hcvw : wr.cell? ⟨bq, oq + xn, none⟩ = some (.int .i64 v) := (hb.cell (by exact Nat.lt_of_lt_of_le hb2 hB)).trans hcv
          have hxn : (xn : Int) < (n : Int) := by omega
          have hlt2 : v < u := by
            have h : decide (xs.getD xn 0 < xs.getD k 0) = true := hux
            rw [HXU.out, show xs.getD xn 0 = v by simp [List.getD, hv]] at h
            simpa using h
          clear hx hux hx' hnil hv hcv hA2
          go_wp2
          go_round
          case rel => exact ⟨jj, by omega, by first | rfl | go_num, HPOS.out⟩
          case measure => first | (simp [intOf]; done) | (simp [intOf]; omega)
        · have hat : insG (upZ xs) out (k : Int) = atG out (k : Int) j := by
            rw [insG, HOL.out, ← hpos.out]
            rcases Nat.eq_zero_or_pos j with rfl | hjp
            · rfl
            · obtain ⟨jj, rfl⟩ : ∃ jj, j = jj + 1 := ⟨j - 1, by omega⟩
              obtain ⟨x, hx⟩ : ∃ x, out[jj]? = some x := ⟨_, List.getElem?_eq_getElem (by rw [HOL.out]; omega)⟩
              rw [posG_stop hx (by
                cases h : upZ xs (k : Int) x with
                | false => rfl
                | true => exact absurd ⟨jj, x, rfl, hx, h⟩ hgo)]
          have hstop : j = 0 ∨ ∃ jj x, j = jj + 1 ∧ out[jj]? = some x ∧ upZ xs (k : Int) x = false := by
            rcases Nat.eq_zero_or_pos j with rfl | hjp
            · exact .inl rfl
            · obtain ⟨jj, rfl⟩ : ∃ jj, j = jj + 1 := ⟨j - 1, by omega⟩
              obtain ⟨x, hx⟩ : ∃ x, out[jj]? = some x := ⟨_, List.getElem?_eq_getElem (by rw [HOL.out]; omega)⟩
              exact .inr ⟨jj, x, rfl, hx, by
                cases h : upZ xs (k : Int) x with
                | false => rfl
                | true => exact absurd ⟨jj, x, rfl, hx, h⟩ hgo⟩
          have HAT := Lib.hid hat
          have HTK := Lib.hid (hoseg.takeI j)
          clear hat hgo
          have HSTOP := Lib.hid hstop
          clear hstop
          rcases Nat.eq_zero_or_pos k with hk0 | hkp
          · obtain ⟨rfl, rfl⟩ : A = none ∧ c = 0 := by have := hnil hk0; injection this with a b d; exact ⟨a, d⟩
            subst hk0
            obtain rfl : j = 0 := by omega
            clear hnil hown hcap
            go_wp2_with fail
            refine (l1Own_any none 0 0 (out.take 0) _ _ wr (by rw [List.length_take, HOL.out]; omega) (by omega) HTK.out (Nat.le_refl _)).mono ?_
            rintro e w1 ⟨A2, c2, rfl, hown1, hb1⟩
            have hz1' := hb1.size
            have HOW1 := Lib.hid (hown1.alloc (.cells #[.int .i64 (0 : Int)] 3))
            have HS1 := Lib.hid (seg_one w1 (0 : Int) 3)
            have HLT1 := Lib.hid hown1.lt
            have HB1 := Lib.hid hb1
            clear hown1 hb1
            go_wp2_with (first | (at_builtin; refine wpList_append_seg _ rfl _ _ 30 rfl wr.heap.size 3 i0 Try.underlying30 hi0 hz0 hz1 hz2 _ 0 _ rfl HOW1.out _ 1 1 [(0 : Int)] _ _ rfl rfl HS1.out (by omega) (by simp; omega) ?_; intro v3 w3 hown3 hgr3; have hb3 : Below wr.heap.size wr w3 := (HB1.out.alloc hz1' _).grown hgr3 (by simp; omega) (fun g' hg' => (HLT1.out g' hg').1); have HB3 := Lib.hid hb3; have HOW3 := Lib.hid (show w3.ownsRow wr.heap.size 3 1 v3 (0 + 1) ((out.take 0 ++ [(0 : Int)]).map (Value.int .i64)) by simpa using hown3); have HS3 := Lib.hid (((Seg.nil_ : Seg wr 0 0 none [])).below hb3 (by omega)); have HLT3 := Lib.hid hown3.lt; clear HOW1 hown3 hgr3 hb3; obtain ⟨A3, c3, rfl⟩ := ownsRow_form HOW3.out) | (at_builtin; refine wpList_append_seg _ rfl _ _ 30 rfl wr.heap.size 3 i0 Try.underlying30 hi0 hz0 hz1 hz2 _ (0 + 1) _ rfl HOW3.out none 0 0 [] _ _ rfl rfl HS3.out (by omega) HB3.out.size ?_; intro v5 w5 hown5 hgr5; have HB5 := Lib.hid (HB3.out.grown hgr5 HB3.out.size (fun g' hg' => (HLT3.out g' hg').1)); have HOW5 := Lib.hid (show w5.ownsRow wr.heap.size 3 1 v5 (0 + 1 + 0) ((out.take 0 ++ [(0 : Int)] ++ []).map (Value.int .i64)) by simpa [List.map_append] using hown5); clear HOW3 hown5 hgr5; obtain ⟨A5, c5, rfl⟩ := ownsRow_form HOW5.out))
            go_roundw
            case rel =>
              have hl : (0 + 1 + 0) = 0 + 1 := by omega
              have he : out.take 0 ++ [(0 : Int)] ++ [] = insG (upZ xs) out (0 : Int) := by
                rw [show insG (upZ xs) out (0 : Int) = atG out (0 : Int) 0 from HAT.out, atG]
                have h0 : out = [] := List.eq_nil_of_length_eq_zero HOL.out
                rw [h0]
                rfl
              have h := HOW5.out
              rw [he, hl] at h
              try rw [hl]
              refine ⟨0 + 1, by omega, by first | rfl | go_num, hb.trans (HB5.out.mono hb.size), ⟨_, HNX.out, own_mono h hsz⟩, fun h0 => by omega⟩
            case measure => first | (simp [intOf]; done) | (simp [intOf]; omega)
          · obtain ⟨g, cap, hvv, hg0, hg1, hcs, _⟩ := ownsRow_head (ys := out) hown hkp
            obtain ⟨rfl, rfl⟩ : A = some ⟨g, 0, none⟩ ∧ c = cap := by injection hvv with a b d; exact ⟨a, d⟩
            obtain ⟨ad, hsA, hsT⟩ := tail_seg hoseg HOL.out hj hcap
            have HSTL := Lib.hid hsT
            have HOW0 := Lib.hid hown
            rcases HSTOP.out with rfl | ⟨jj, x, rfl, hx, hnlt⟩
            · clear hvv hcs hnil hown hsT hsA
              go_wp2_with fail
              refine (l1Own_any (some ⟨g, 0, none⟩) 0 c (out.take 0) _ _ wr (by rw [List.length_take, HOL.out]; omega) (by omega) HTK.out (Nat.le_refl _)).mono ?_
              rintro e w1 ⟨A2, c2, rfl, hown1, hb1⟩
              have hz1' := hb1.size
              have HOW1 := Lib.hid (hown1.alloc (.cells #[.int .i64 (k : Int)] 3))
              have HS1 := Lib.hid (seg_one w1 (k : Int) 3)
              have HLT1 := Lib.hid hown1.lt
              have HB1 := Lib.hid hb1
              clear hown1 hb1
              go_wp2_with (first | (at_builtin; refine wpList_append_seg _ rfl _ _ 30 rfl wr.heap.size 3 i0 Try.underlying30 hi0 hz0 hz1 hz2 _ 0 _ rfl HOW1.out _ 1 1 [(k : Int)] _ _ rfl rfl HS1.out (by omega) (by simp; omega) ?_; intro v3 w3 hown3 hgr3; have hb3 : Below wr.heap.size wr w3 := (HB1.out.alloc hz1' _).grown hgr3 (by simp; omega) (fun g' hg' => (HLT1.out g' hg').1); have HB3 := Lib.hid hb3; have HOW3 := Lib.hid (show w3.ownsRow wr.heap.size 3 1 v3 (0 + 1) ((out.take 0 ++ [(k : Int)]).map (Value.int .i64)) by simpa using hown3); have HS3 := Lib.hid (hoseg.below hb3 (by omega)); have HLT3 := Lib.hid hown3.lt; clear HOW1 hown3 hgr3 hb3; obtain ⟨A3, c3, rfl⟩ := ownsRow_form HOW3.out) | (at_builtin; refine wpList_append_seg _ rfl _ _ 30 rfl wr.heap.size 3 i0 Try.underlying30 hi0 hz0 hz1 hz2 _ (0 + 1) _ rfl HOW3.out (some ⟨g, 0, none⟩) k c out _ _ rfl HOL.out HS3.out (by omega) HB3.out.size ?_; intro v5 w5 hown5 hgr5; have HB5 := Lib.hid (HB3.out.grown hgr5 HB3.out.size (fun g' hg' => (HLT3.out g' hg').1)); have HOW5 := Lib.hid (show w5.ownsRow wr.heap.size 3 1 v5 (0 + 1 + k) ((out.take 0 ++ [(k : Int)] ++ out).map (Value.int .i64)) by simpa [List.map_append] using hown5); clear HOW3 hown5 hgr5; obtain ⟨A5, c5, rfl⟩ := ownsRow_form HOW5.out))
              go_roundw
              case rel =>
                have hl : (0 + 1 + k) = k + 1 := by omega
                have he : out.take 0 ++ [(k : Int)] ++ out = insG (upZ xs) out (k : Int) := by
                  rw [HAT.out, atG]
                  simp
                have h := HOW5.out
                rw [he, hl] at h
                try rw [hl]
                refine ⟨k + 1, by omega, by first | rfl | go_num, hb.trans (HB5.out.mono hb.size), ⟨_, HNX.out, own_mono h hsz⟩, fun h0 => by omega⟩
              case measure => first | (simp [intOf]; done) | (simp [intOf]; omega)
            · obtain ⟨bo, oo, x', hA, _, _, hx', hcx⟩ := hoseg.at_ (k := jj) (by rw [HOL.out]; omega)
              obtain ⟨rfl, rfl⟩ : g = bo ∧ 0 = oo := by injection hA with hA; injection hA with h1 h2; exact ⟨h1, h2⟩
              obtain rfl : x = x' := by rw [hx] at hx'; injection hx'
              have hxm := HMEM.out x (List.mem_of_getElem? hx)
              obtain ⟨xn, rfl⟩ : ∃ xn : Nat, x = (xn : Int) := ⟨x.toNat, by omega⟩
              obtain ⟨b2, o2, v, hA2, _, hb2, hv, hcv⟩ := hs.at_ (k := xn) (by rw [HN.out]; omega)
              obtain ⟨rfl, rfl⟩ : bq = b2 ∧ oq = o2 := by injection hA2 with hA; injection hA with h1 h2; exact ⟨h1, h2⟩
              have hcvw : wr.cell? ⟨bq, oq + xn, none⟩ = some (.int .i64 v) := (hb.cell (by exact Nat.lt_of_lt_of_le hb2 hB)).trans hcv
              have hxn : (xn : Int) < (n : Int) := by omega
              have hcx' : wr.cell? ⟨g, jj, none⟩ = some (.int .i64 (xn : Int)) := by simpa using hcx
              have hge : decide (v < u) = false := by
                have h : decide (xs.getD xn 0 < xs.getD k 0) = false := hnlt
                rw [HXU.out, show xs.getD xn 0 = v by simp [List.getD, hv]] at h
                exact h
              clear hvv hcs hnil hown hsT hA hx hx' hcx hnlt hv hcv hA2
              go_wp2_with fail
              refine (l1Own_any (some ⟨g, 0, none⟩) (jj + 1) c (out.take (jj + 1)) _ _ wr (by rw [List.length_take, HOL.out]; omega) (by omega) HTK.out (Nat.le_refl _)).mono ?_
              rintro e w1 ⟨A2, c2, rfl, hown1, hb1⟩
              have hz1' := hb1.size
              have HOW1 := Lib.hid (hown1.alloc (.cells #[.int .i64 (k : Int)] 3))
              have HS1 := Lib.hid (seg_one w1 (k : Int) 3)
              have HLT1 := Lib.hid hown1.lt
              have HB1 := Lib.hid hb1
              clear hown1 hb1
              go_wp2_with (first | (at_builtin; refine wpList_append_seg _ rfl _ _ 30 rfl wr.heap.size 3 i0 Try.underlying30 hi0 hz0 hz1 hz2 _ (jj + 1) _ rfl HOW1.out _ 1 1 [(k : Int)] _ _ rfl rfl HS1.out (by omega) (by simp; omega) ?_; intro v3 w3 hown3 hgr3; have hb3 : Below wr.heap.size wr w3 := (HB1.out.alloc hz1' _).grown hgr3 (by simp; omega) (fun g' hg' => (HLT1.out g' hg').1); have HB3 := Lib.hid hb3; have HOW3 := Lib.hid (show w3.ownsRow wr.heap.size 3 1 v3 ((jj + 1) + 1) ((out.take (jj + 1) ++ [(k : Int)]).map (Value.int .i64)) by simpa using hown3); have HS3 := Lib.hid ((HSTL.out).below hb3 (by omega)); have HLT3 := Lib.hid hown3.lt; clear HOW1 hown3 hgr3 hb3; obtain ⟨A3, c3, rfl⟩ := ownsRow_form HOW3.out) | (at_builtin; refine wpList_append_seg _ rfl _ _ 30 rfl wr.heap.size 3 i0 Try.underlying30 hi0 hz0 hz1 hz2 _ ((jj + 1) + 1) _ rfl HOW3.out _ (k - (jj + 1)) _ (out.drop (jj + 1)) _ _ rfl (by rw [List.length_drop, HOL.out]) HS3.out (by omega) HB3.out.size ?_; intro v5 w5 hown5 hgr5; have HB5 := Lib.hid (HB3.out.grown hgr5 HB3.out.size (fun g' hg' => (HLT3.out g' hg').1)); have HOW5 := Lib.hid (show w5.ownsRow wr.heap.size 3 1 v5 ((jj + 1) + 1 + (k - (jj + 1))) ((out.take (jj + 1) ++ [(k : Int)] ++ (out.drop (jj + 1))).map (Value.int .i64)) by simpa [List.map_append] using hown5); clear HOW3 hown5 hgr5; obtain ⟨A5, c5, rfl⟩ := ownsRow_form HOW5.out))
              go_roundw
              case rel =>
                have hl : (jj + 1 + 1 + (k - (jj + 1))) = k + 1 := by omega
                have he : out.take (jj + 1) ++ [(k : Int)] ++ (out.drop (jj + 1)) = insG (upZ xs) out (k : Int) := by
                  rw [HAT.out, atG]
                  simp
                have h := HOW5.out
                rw [he, hl] at h
                try rw [hl]
                refine ⟨k + 1, by omega, by first | rfl | go_num, hb.trans (HB5.out.mono hb.size), ⟨_, HNX.out, own_mono h hsz⟩, fun h0 => by omega⟩
              case measure => first | (simp [intOf]; done) | (simp [intOf]; omega)
    · obtain rfl : n = k := by omega
      have e : sortG (upZ xs) ((below n).take n) = ordI xs := by rw [List.take_of_length_le (by rw [below_length]; exact Nat.le_refl _), ordI, HN.out]
      obtain rfl : ordI xs = out := e.symm.trans HOUT.out
      rw [← ordN_ints] at hoseg
      have HOS := Lib.hid hoseg
      clear hown hoseg hnil e
      go_wp2_with fail
      refine (bxRule_any _ _ _ _ _ _ room 102 xs (ordN xs) lo hi w.heap.size wr.heap.size _ HN.out ((ordN_length xs).trans HN.out) (hs.below hb hB) (HOS.out) (by omega) (Nat.le_refl _) h9 h9 HX.out ⟨hr1, hr2⟩ (fun i hi => ordN_lt i hi)).mono ?_
      rintro e w2 ⟨rfl, ho2, hb2⟩
      have hz2' := hb2.size
      have hlen2 : (runOrd 102 room xs (ordN xs) ([], List.replicate n 0)).2.length = n := by rw [runOrd_len]; simp
      have HGS := Lib.hid (show namedL (runOrd 102 room xs (ordN xs) ([], List.replicate n 0)).2 = gfM xs room by rw [← gfM_spec, HN.out])
      have HO2 := Lib.hid ho2.seg
      have HL2 := Lib.hid hlen2
      clear ho2 hlen2
      go_wp2_with fail
      refine (bxNamed_any _ n n _ wr.heap.size w2.heap.size _ HL2.out h9 HO2.out (Nat.le_refl _)).mono ?_
      rintro e w3 ⟨A3, c3, rfl, ho3, hb3⟩
      go_wp2
      go_ret2
      exact ⟨A3, c3, rfl, by rw [← HGS.out]; exact ho3.more (Nat.le_trans hsz hz2') (Nat.le_refl _), hb.trans ((hb2.mono hsz).trans (hb3.mono (Nat.le_trans hsz hz2')))⟩

set_option maxHeartbeats 400000 in
theorem spec_GreatestFirst_no (A : Option Addr) (n c : Nat) (xs : List Int) (room : Int) (lo hi : Nat) (w : World) (hn : xs.length = n) (hlen : n ≤ 1048576) (hs : Seg w lo hi A xs) (ha : askedB xs room = false) :
    Calls Try.prog 30 #[.slice A n c, .int .i64 room] w fun e w' => e = .returned (.tuple #[.slice none 0 0, .bool false]) ∧ w = w' := by
  have HN := Lib.hid hn
  have HA := Lib.hid ha
  clear hn ha
  go_enter Try.func30, Try.ntmps30
  go_wp2_with (go_at_call 63; refine (bxAsked_any _ _ _ xs room lo hi _ HN.out hlen hs _ HA.out).mono ?_; rintro e w' ⟨rfl, rfl⟩)
  go_ret2
  exact ⟨rfl, rfl⟩
end Go.Proofs.Ytkconbcmbpmghab

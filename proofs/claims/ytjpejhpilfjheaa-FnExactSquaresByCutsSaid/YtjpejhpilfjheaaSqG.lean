/-
  The given program's squares by the first best cuts, greatest first.
  Conditions: none.
-/
import Derived.Test.YtjpejhpilfjheaaSqC
import Derived.Test.YtjpejhpilfjheaaSqI
import Derived.Test.YtjpejhpilfjheaaSegT
namespace Go.Proofs.Ytjpejhpilfjheaa
set_option linter.unusedVariables false
set_option linter.unusedSimpArgs false
open Go.RowKit

theorem take_nx {xs : List Int} {k : Nat} {x : Int} (h : xs[k]? = some x) : xs.take (k + 1) = xs.take k ++ [x] := by
  obtain ⟨hk, rfl⟩ := List.getElem?_eq_some_iff.1 h
  exact (List.take_append_getElem hk).symm
theorem posD_go {out : List Int} {x y : Int} {k : Nat} (h : out[k]? = some y) (hl : y < x) : posD out x (k + 1) = posD out x k := by
  rw [posD, if_pos]
  simpa [List.getD, h] using hl
theorem posD_stop {out : List Int} {x y : Int} {k : Nat} (h : out[k]? = some y) (hl : ¬ y < x) : posD out x (k + 1) = k + 1 := by
  rw [posD, if_neg]
  simpa [List.getD, h] using hl

set_option maxRecDepth 100000 in
set_option maxHeartbeats 4000000 in
theorem spec_SquaresByCuts (x0 y0 : Int) (w : World) (q : Bool) (hq : bdB x0 y0 = q) :
    Calls Try.prog 24 #[.int .i64 x0, .int .i64 y0] w (RetL q (someN q (sbL x0 y0)) w) := by
  obtain ⟨i0, hi0, hz0, hz1, hz2⟩ := info_parts int_info
  cases q
  · go_enter Try.func24, Try.ntmps24
    go_wp2_with fail
    refine (bdGood_any x0 y0 w false hq).mono ?_
    rintro e w1 ⟨rfl, rfl⟩
    go_wp2
    go_ret2
    exact ⟨none, 0, 0, rfl, rfl, Own.nil_, Below.refl _ _⟩
  · obtain ⟨a, b, rfl, rfl, ⟨a1, a2⟩, b1, b2⟩ := bdB_nat hq
    have HQ := Lib.hid hq
    have hsl := sqL_bd a b a1 a2 b1 b2
    have hsb : sbL (a : Int) (b : Int) = fallD (sqL a b) := by rw [sbL, Int.toNat_natCast, Int.toNat_natCast]
    have HSB := Lib.hid hsb
    clear hq hsb
    go_enter Try.func24, Try.ntmps24
    go_wp2_with fail
    refine (bdGood_any _ _ w true HQ.out).mono ?_
    rintro e w0 ⟨rfl, rfl⟩
    go_wp2_with fail
    refine (bdSquares_any a b _ a1 a2 b1 b2).mono ?_
    rintro e w1 ⟨F, rfl, hT, hb1⟩
    go_wp2_with fail
    refine (bdCutSquares_any a b F _ a2 b2 (a + b) a b (Nat.le_refl _) a1 (Nat.le_refl _) b1 (Nat.le_refl _) w1 hT).mono ?_
    rintro e w2 ⟨A0, c0, n, rfl, hl, hownL, hb2⟩
    obtain ⟨L, hL⟩ : ∃ L, sqL a b = L := ⟨_, rfl⟩
    rw [hL] at hl hownL hsl
    have HLL := Lib.hid hL
    have hn : n ≤ 576 := by omega
    have HLN := Lib.hid hl
    have HSG := Lib.hid (ownsRow_own (ys := L) (by rw [hl]; exact hownL)).2.seg
    have HB2 := Lib.hid (hb1.trans (hb2.mono hb1.size))
    have hzz1 := hb1.size
    have hzz2 := hb2.size
    clear hl hL hownL hb1 hb2 hT hsl
    go_wp2
    go_loopw [6, 8, 9, 10, 22] (fun v _ _ _ i wr => ∃ j : Nat, j ≤ n ∧ i = .int .i64 (j : Int) ∧ Below w2.heap.size w2 wr ∧ (∃ out, fallD (L.take j) = out ∧ wr.ownsRow w2.heap.size 3 1 v j (out.map (Value.int .i64))) ∧ (j = 0 → v = .slice none 0 0)) (fun _ _ _ _ i _ => n - (intOf i).toNat)
    case atStart => exact ⟨0, Nat.zero_le _, rfl, Below.refl _ _, ⟨[], rfl, World.ownsRow_nil _ _ _ _⟩, fun _ => rfl⟩
    case round =>
      obtain ⟨j, hj, rfl, hb, ⟨out, hout, hown⟩, hnil⟩ := hrel
      have hol : out.length = j := by rw [← hout, fallD_len, List.length_take, HLN.out]; omega
      obtain ⟨A, c, rfl⟩ := ownsRow_form hown
      have hcap := own_cap hown
      have hos := (ownsRow_own (ys := out) (by rw [hol]; exact hown)).2
      have HOO := Lib.hid hos
      have HOS := Lib.hid hos.seg
      have HOWN := Lib.hid hown
      have HBW := Lib.hid hb
      have HOL := Lib.hid hol
      have HOUT := Lib.hid hout
      have hzb := hb.size
      clear hout hol hown hb hos
      by_cases hlt : j < n
      · obtain ⟨gL, oL, x, rfl, _, _, hx, hcx⟩ := (HSG.out.below HBW.out (Nat.le_refl _)).at_ (k := j) (by rw [HLN.out]; exact hlt)
        have HNX := Lib.hid (show fallD (L.take (j + 1)) = insD out x by rw [take_nx hx, fallD_snoc, HOUT.out])
        have hlI : (j : Int) < (n : Int) := by omega
        clear hx
        go_wp2
        obtain ⟨wv, rfl⟩ : ∃ wv, wv = wr := ⟨_, rfl⟩
        go_loopw [9] (fun kk wr => ∃ k : Nat, k ≤ j ∧ kk = .int .i64 (k : Int) ∧ Hid (posD out x k = posD out x j) ∧ wr = wv) (fun kk _ => (intOf kk).toNat)
        case atStart => exact ⟨j, Nat.le_refl _, rfl, rfl, rfl⟩
        case round =>
          obtain ⟨k, hk, rfl, hpos, rfl⟩ := hrel
          obtain ⟨wv, rfl⟩ : ∃ wv, wv = wr := ⟨_, rfl⟩
          clear hcx
          rcases Nat.eq_zero_or_pos k with rfl | hkp
          · have HAT := Lib.hid (show insD out x = out.take 0 ++ x :: out.drop 0 by rw [insD, HOL.out, ← hpos.out]; rfl)
            rcases Nat.eq_zero_or_pos j with rfl | hjp
            · obtain ⟨rfl, rfl⟩ : A = none ∧ c = 0 := by have h := hnil rfl; injection h with h1 _ h3; exact ⟨h1, h3⟩
              go_wp2_with fail
              refine (l1Own_any none 0 0 (out.take 0) w2.heap.size wv.heap.size wv (by rw [List.length_take, HOL.out]; omega) (by omega) (HOS.out.takeI 0) (Nat.le_refl _)).mono ?_
              rintro e w3 ⟨A2, c2, rfl, hown3, hb3⟩
              have hz3' := hb3.size
              have HOW1 := Lib.hid (hown3.alloc (.cells #[.int .i64 x] 3))
              have HS1 := Lib.hid (seg_one w3 x 3)
              have HLT1 := Lib.hid hown3.lt
              have HB1 := Lib.hid hb3
              clear hown3 hb3
              go_wp2_with (first | (at_builtin; refine wpList_append_seg _ rfl _ _ 31 rfl wv.heap.size 3 i0 Try.underlying31 hi0 hz0 hz1 hz2 _ 0 _ rfl HOW1.out _ 1 1 [x] _ _ rfl rfl HS1.out (by omega) (by simp; omega) ?_; intro v3 w4 hown4 hgr4; have HB3 := Lib.hid ((HB1.out.alloc hz3' (.cells #[.int .i64 x] 3)).grown hgr4 (by simp; omega) (fun g' hg' => (HLT1.out g' hg').1)); have HOW3 := Lib.hid (show w4.ownsRow wv.heap.size 3 1 v3 (0 + 1) (((out.take 0) ++ [x]).map (Value.int .i64)) by simpa using hown4); have HLT3 := Lib.hid hown4.lt; clear HOW1 hown4 hgr4; obtain ⟨A3, c3, rfl⟩ := ownsRow_form HOW3.out) | (at_builtin; refine wpList_append_seg _ rfl _ _ 31 rfl wv.heap.size 3 i0 Try.underlying31 hi0 hz0 hz1 hz2 _ (0 + 1) _ rfl HOW3.out _ 0 _ [] 0 0 rfl rfl Seg.nil_ (by omega) HB3.out.size ?_; intro v5 w5 hown5 hgr5; have HB5 := Lib.hid (HB3.out.grown hgr5 HB3.out.size (fun g' hg' => (HLT3.out g' hg').1)); have HOW5 := Lib.hid (show w5.ownsRow wv.heap.size 3 1 v5 (0 + 1 + 0) (((out.take 0) ++ [x] ++ []).map (Value.int .i64)) by simpa [List.map_append] using hown5); clear HOW3 hown5 hgr5; obtain ⟨A5, c5, rfl⟩ := ownsRow_form HOW5.out))
              go_roundw
              case rel =>
                have hl : (0 + 1 + 0) = 0 + 1 := by omega
                have he : (out.take 0) ++ [x] ++ [] = insD out x := by rw [HAT.out]; have h0 : out = [] := List.eq_nil_of_length_eq_zero HOL.out; rw [h0]; rfl
                have h := HOW5.out
                rw [he, hl] at h
                try rw [hl]
                exact ⟨0 + 1, by omega, by first | rfl | go_num, HBW.out.trans (HB5.out.mono HBW.out.size), ⟨_, HNX.out, own_mono h HBW.out.size⟩, fun h0 => by omega⟩
              case measure => first | (simp [intOf]; done) | (simp [intOf]; omega)
            · obtain ⟨g, cap, hvv, hg0, hg1, hcs, _⟩ := ownsRow_head (ys := out) HOWN.out hjp
              obtain ⟨rfl, rfl⟩ : A = some ⟨g, 0, none⟩ ∧ c = cap := by injection hvv with a b d; exact ⟨a, d⟩
              have HSTL := HOS
              clear hvv hcs hnil
              go_wp2_with fail
              refine (l1Own_any (some ⟨g, 0, none⟩) 0 c (out.take 0) w2.heap.size wv.heap.size wv (by rw [List.length_take, HOL.out]; omega) (by omega) (HOS.out.takeI 0) (Nat.le_refl _)).mono ?_
              rintro e w3 ⟨A2, c2, rfl, hown3, hb3⟩
              have hz3' := hb3.size
              have HOW1 := Lib.hid (hown3.alloc (.cells #[.int .i64 x] 3))
              have HS1 := Lib.hid (seg_one w3 x 3)
              have HLT1 := Lib.hid hown3.lt
              have HB1 := Lib.hid hb3
              clear hown3 hb3
              go_wp2_with (first | (at_builtin; refine wpList_append_seg _ rfl _ _ 31 rfl wv.heap.size 3 i0 Try.underlying31 hi0 hz0 hz1 hz2 _ 0 _ rfl HOW1.out _ 1 1 [x] _ _ rfl rfl HS1.out (by omega) (by simp; omega) ?_; intro v3 w4 hown4 hgr4; have HB3 := Lib.hid ((HB1.out.alloc hz3' (.cells #[.int .i64 x] 3)).grown hgr4 (by simp; omega) (fun g' hg' => (HLT1.out g' hg').1)); have HOW3 := Lib.hid (show w4.ownsRow wv.heap.size 3 1 v3 (0 + 1) (((out.take 0) ++ [x]).map (Value.int .i64)) by simpa using hown4); have HLT3 := Lib.hid hown4.lt; have HS3 := Lib.hid (HSTL.out.below HB3.out (Nat.le_refl _)); clear HOW1 hown4 hgr4; obtain ⟨A3, c3, rfl⟩ := ownsRow_form HOW3.out) | (at_builtin; refine wpList_append_seg _ rfl _ _ 31 rfl wv.heap.size 3 i0 Try.underlying31 hi0 hz0 hz1 hz2 _ (0 + 1) _ rfl HOW3.out _ j _ out _ _ rfl HOL.out HS3.out (by omega) HB3.out.size ?_; intro v5 w5 hown5 hgr5; have HB5 := Lib.hid (HB3.out.grown hgr5 HB3.out.size (fun g' hg' => (HLT3.out g' hg').1)); have HOW5 := Lib.hid (show w5.ownsRow wv.heap.size 3 1 v5 (0 + 1 + j) (((out.take 0) ++ [x] ++ out).map (Value.int .i64)) by simpa [List.map_append] using hown5); clear HOW3 hown5 hgr5; obtain ⟨A5, c5, rfl⟩ := ownsRow_form HOW5.out))
              go_roundw
              case rel =>
                have hl : (0 + 1 + j) = j + 1 := by omega
                have he : (out.take 0) ++ [x] ++ out = insD out x := by rw [HAT.out]; simp
                have h := HOW5.out
                rw [he, hl] at h
                try rw [hl]
                exact ⟨j + 1, by omega, by first | rfl | go_num, HBW.out.trans (HB5.out.mono HBW.out.size), ⟨_, HNX.out, own_mono h HBW.out.size⟩, fun h0 => by omega⟩
              case measure => first | (simp [intOf]; done) | (simp [intOf]; omega)
          · obtain ⟨kk, rfl⟩ : ∃ kk, k = kk + 1 := ⟨k - 1, by omega⟩
            obtain ⟨y, hy⟩ : ∃ y, out[kk]? = some y := ⟨_, List.getElem?_eq_getElem (by rw [HOL.out]; omega)⟩
            obtain ⟨g, cap, hvv, hg0, hg1, hcs, _⟩ := ownsRow_head (ys := out) HOWN.out (by omega)
            obtain ⟨rfl, rfl⟩ : A = some ⟨g, 0, none⟩ ∧ c = cap := by injection hvv with a b d; exact ⟨a, d⟩
            have hcy := hcs kk y hy
            have hjd : (0 : Int) < (kk : Int) + 1 := by omega
            have hjw : IntKind.i64.wrap (kk : Int) = (kk : Int) := by rw [IntKind.wrap_i64]; omega
            have hj0 : (0 : Int) ≤ (kk : Int) := by omega
            have hjk : (kk : Int) < (j : Int) := by omega
            clear hvv hcs
            by_cases hyx : y < x
            · have HP2 := Lib.hid (show posD out x kk = posD out x j by rw [← posD_go hy hyx]; exact hpos.out)
              have hdy : decide (y < x) = true := decide_eq_true hyx
              clear hyx hy hnil
              go_wp2
              go_roundw
              case rel => exact ⟨kk, by omega, by first | rfl | go_num, HP2.out, by first | rfl | trivial⟩
              case measure => first | (simp [intOf]; done) | (simp [intOf]; omega)
            · have HAT := Lib.hid (show insD out x = out.take (kk + 1) ++ x :: out.drop (kk + 1) by rw [insD, HOL.out, ← hpos.out, posD_stop hy hyx])
              have hdy : decide (y < x) = false := decide_eq_false hyx
              obtain ⟨ad, hsA, hsT⟩ := tail_seg HOS.out HOL.out hk hcap
              have HSTL := Lib.hid hsT
              clear hyx hy hnil hsT
              go_wp2_with fail
              refine (l1Own_any (some ⟨g, 0, none⟩) (kk + 1) c (out.take (kk + 1)) w2.heap.size wv.heap.size wv (by rw [List.length_take, HOL.out]; omega) (by omega) (HOS.out.takeI (kk + 1)) (Nat.le_refl _)).mono ?_
              rintro e w3 ⟨A2, c2, rfl, hown3, hb3⟩
              have hz3' := hb3.size
              have HOW1 := Lib.hid (hown3.alloc (.cells #[.int .i64 x] 3))
              have HS1 := Lib.hid (seg_one w3 x 3)
              have HLT1 := Lib.hid hown3.lt
              have HB1 := Lib.hid hb3
              clear hown3 hb3
              go_wp2_with (first | (at_builtin; refine wpList_append_seg _ rfl _ _ 31 rfl wv.heap.size 3 i0 Try.underlying31 hi0 hz0 hz1 hz2 _ (kk + 1) _ rfl HOW1.out _ 1 1 [x] _ _ rfl rfl HS1.out (by omega) (by simp; omega) ?_; intro v3 w4 hown4 hgr4; have HB3 := Lib.hid ((HB1.out.alloc hz3' (.cells #[.int .i64 x] 3)).grown hgr4 (by simp; omega) (fun g' hg' => (HLT1.out g' hg').1)); have HOW3 := Lib.hid (show w4.ownsRow wv.heap.size 3 1 v3 ((kk + 1) + 1) (((out.take (kk + 1)) ++ [x]).map (Value.int .i64)) by simpa using hown4); have HLT3 := Lib.hid hown4.lt; have HS3 := Lib.hid (HSTL.out.below HB3.out (Nat.le_refl _)); clear HOW1 hown4 hgr4; obtain ⟨A3, c3, rfl⟩ := ownsRow_form HOW3.out) | (at_builtin; refine wpList_append_seg _ rfl _ _ 31 rfl wv.heap.size 3 i0 Try.underlying31 hi0 hz0 hz1 hz2 _ ((kk + 1) + 1) _ rfl HOW3.out _ (j - (kk + 1)) _ (out.drop (kk + 1)) _ _ rfl (by rw [List.length_drop, HOL.out]) HS3.out (by omega) HB3.out.size ?_; intro v5 w5 hown5 hgr5; have HB5 := Lib.hid (HB3.out.grown hgr5 HB3.out.size (fun g' hg' => (HLT3.out g' hg').1)); have HOW5 := Lib.hid (show w5.ownsRow wv.heap.size 3 1 v5 ((kk + 1) + 1 + (j - (kk + 1))) (((out.take (kk + 1)) ++ [x] ++ (out.drop (kk + 1))).map (Value.int .i64)) by simpa [List.map_append] using hown5); clear HOW3 hown5 hgr5; obtain ⟨A5, c5, rfl⟩ := ownsRow_form HOW5.out))
              go_roundw
              case rel =>
                have hl : ((kk + 1) + 1 + (j - (kk + 1))) = j + 1 := by omega
                have he : (out.take (kk + 1)) ++ [x] ++ (out.drop (kk + 1)) = insD out x := by rw [HAT.out]; simp
                have h := HOW5.out
                rw [he, hl] at h
                try rw [hl]
                exact ⟨j + 1, by omega, by first | rfl | go_num, HBW.out.trans (HB5.out.mono HBW.out.size), ⟨_, HNX.out, own_mono h HBW.out.size⟩, fun h0 => by omega⟩
              case measure => first | (simp [intOf]; done) | (simp [intOf]; omega)
      · obtain rfl : j = n := by omega
        have hfull : L.take j = L := List.take_of_length_le (by rw [HLN.out]; exact Nat.le_refl _)
        have HFL := Lib.hid (show out = fallD L by rw [← HOUT.out, hfull])
        clear hfull hnil
        go_wp2
        go_ret2
        exact ⟨A, j, c, rfl, by rw [HSB.out, HLL.out, ← HFL.out]; exact HOL.out, by rw [HSB.out, HLL.out, ← HFL.out]; exact HOO.out.more (by omega) (Nat.le_refl _), HB2.out.trans (HBW.out.mono HB2.out.size)⟩
end Go.Proofs.Ytjpejhpilfjheaa

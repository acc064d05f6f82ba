/-
  Both programs' order of things, the strongest first.
  Conditions: the list has at most 1048576 things.
-/
import Derived.Test.YtcfnjodcnejnkaaGfOrd
import Derived.Test.YtcfnjodcnejnkaaSafe
import Derived.Test.YtcfnjodcnejnkaaSomeN
namespace Go.Proofs.Ytcfnjodcnejnkaa
set_option linter.unusedVariables false
open Go.RowKit

theorem own_capT {w : World} {base T n cap : Nat} {A : Option Addr} {xs : List Value} (h : w.ownsRow base T 1 (.slice A n cap) n xs) : n ≤ cap := by
  obtain ⟨_, ⟨hv, hn⟩ | ⟨g, cap', cur, hv, _, _, hnc, _⟩⟩ := h
  · injection hv with _ h2 h3; omega
  · injection hv with _ h2 h3; omega
theorem undrewN {B n : Nat} {w w1 : World} (h : Below B (w.drewN n) w1) : Below B w w1 := ⟨h.os, h.tape, h.output, h.size, h.block⟩

/-- How strong things are. -/
def strL (ts : List (Int × Int × Int)) : List Int := ts.map fun t => t.1 + t.2.1
theorem strL_length (ts : List (Int × Int × Int)) : (strL ts).length = ts.length := by simp [strL]
theorem strL_at {ts : List (Int × Int × Int)} {k : Nat} {x y z : Int} (h : ts[k]? = some (x, y, z)) : (strL ts)[k]? = some (x + y) := by simp [strL, h]
theorem strL_bd {ts : List (Int × Int × Int)} (hg : goodT ts = true) : ∀ x ∈ strL ts, 1 ≤ x ∧ x ≤ 1000000 := by
  intro x hx
  obtain ⟨t, ht, rfl⟩ := List.mem_map.1 hx
  have := thgB_true.1 ((goodT_at hg).2.2 t ht)
  omega
theorem thing_bd {ts : List (Int × Int × Int)} (hg : goodT ts = true) {k : Nat} {x y z : Int} (h : ts[k]? = some (x, y, z)) : (1 ≤ x ∧ x ≤ 1000) ∧ 0 ≤ y ∧ y ≤ 1000 := by
  have := thgB_true.1 ((goodT_at hg).2.2 _ (List.mem_of_getElem? h))
  exact ⟨this.1, this.2.1⟩
/-- The first 'k' of them, nothing behind them. -/
def strP (ts : List (Int × Int × Int)) (n k : Nat) : List Int := (strL ts).take k ++ List.replicate (n - k) 0
theorem strP_set {ts : List (Int × Int × Int)} {n k : Nat} {u : Int} (hn : ts.length = n) (hu : (strL ts)[k]? = some u) : (strP ts n k).set k u = strP ts n (k + 1) := by
  have hk : k < n := by rw [← hn, ← strL_length]; exact (List.getElem?_eq_some_iff.1 hu).1
  have hl : ((strL ts).take k).length = k := by rw [List.length_take, strL_length]; omega
  rw [strP, List.set_append_right _ _ (by omega), hl, Nat.sub_self, strP, take_snoc hu]
  obtain ⟨r, hr⟩ : ∃ r, n - k = r + 1 := ⟨n - k - 1, by omega⟩
  rw [hr, show n - (k + 1) = r by omega, List.replicate_succ, List.set_cons_zero, List.append_assoc]
  rfl
theorem strP_at {ts : List (Int × Int × Int)} {n k : Nat} (hn : ts.length = n) (h : k < n) : (strP ts n k)[k]? = some 0 := by
  have hl : ((strL ts).take k).length = k := by rw [List.length_take, strL_length]; omega
  rw [strP, List.getElem?_append_right (by omega), hl, Nat.sub_self, List.getElem?_replicate, if_pos (by omega)]
theorem strP_all {ts : List (Int × Int × Int)} {n : Nat} (hn : ts.length = n) : strP ts n n = strL ts := by
  rw [strP, Nat.sub_self, List.take_of_length_le (by rw [strL_length]; omega)]
  simp

theorem strength_any (x y z : Int) (w : World) (hx : 1 ≤ x ∧ x ≤ 1000) (hy : 0 ≤ y ∧ y ≤ 1000) :
    Calls Try.prog 75 #[.agg #[.int .i64 x, .int .i64 y, .int .i64 z]] w fun e w' => e = .returned (.int .i64 (x + y)) ∧ Below w.heap.size w w' := by
  obtain ⟨hx1, hx2⟩ := hx
  obtain ⟨hy1, hy2⟩ := hy
  go_enter Try.func75, Try.ntmps75
  go_wp2
  go_ret
  exact ⟨rfl, (Below.refl _ _).alloc (Nat.le_refl _) _⟩

set_option maxRecDepth 100000 in
set_option maxHeartbeats 4000000 in
theorem strongestFirst_any (A : Option Addr) (n c : Nat) (ts : List (Int × Int × Int)) (lo hi : Nat) (w : World) (hn : ts.length = n) (hs : Seg w lo hi A (flat3 ts)) (hB : hi ≤ w.heap.size) (hg : goodT ts = true) :
    Calls Try.prog 67 #[.slice A n c] w fun e w' => ∃ A' c', e = .returned (.slice A' n c') ∧ Own w' w.heap.size w'.heap.size A' (ordI (strL ts)) ∧ Below w.heap.size w w' := by
  have hn7 := (goodT_at hg).2.1
  have hn1 := (goodT_at hg).1
  rw [hn] at hn7 hn1
  have HN := Lib.hid hn
  have HG := Lib.hid hg
  have hmk := fun W : World => run_make_row' 29 3 (.int .i64 0) 8 Try.underlying29 int_info rfl .i64 .i64 n (by omega) (by omega) W
  have HA0 := Lib.hid (show Arr (w.alloc (.cells (madeCells #[.int .i64 0] n) 3)) w.heap.size 3 (strP ts n 0) by
    have h := arr_new w 3 n
    exact h)
  have HB0 := Lib.hid ((Below.refl w.heap.size w).alloc (Nat.le_refl _) (.cells (madeCells #[.int .i64 0] n) 3))
  clear hn hg
  go_enter Try.func67, Try.ntmps67
  go_wp2
  clear hmk
  go_loopw [11] (fun i wr => ∃ k : Nat, k ≤ n ∧ i = .int .i64 k ∧ Below w.heap.size w wr ∧ Arr wr w.heap.size 3 (strP ts n k)) (fun i _ => n - (intOf i).toNat)
  case atStart => exact ⟨0, Nat.zero_le _, rfl, HB0.out, HA0.out⟩
  case round =>
    obtain ⟨k, hk, rfl, hb, harr⟩ := hrel
    have hsz := hb.size
    by_cases hlt : k < n
    · obtain ⟨b, off, x, y, z, rfl, _, hbh, hx, hc0, hc1, hc2⟩ := (hs.below hb hB).tri (k := k) (by rw [HN.out]; exact hlt)
      obtain ⟨hxb, hyb⟩ := thing_bd HG.out hx
      have hbb := (Below.refl wr.heap.size wr).alloc (Nat.le_refl _) (.cells #[.int .i64 x, .int .i64 y, .int .i64 z] 55)
      obtain ⟨e0, e1, e2⟩ := id (ThgAt.of (new_at wr (.cells #[.int .i64 x, .int .i64 y, .int .i64 z] 55) rfl))
      have HA1 := Lib.hid (harr.alloc (.cells #[.int .i64 x, .int .i64 y, .int .i64 z] 55))
      have HB1 := Lib.hid (hb.trans (hbb.mono hsz))
      have HST := Lib.hid (strP_set HN.out (strL_at hx))
      have HZ := Lib.hid (strP_at HN.out hlt)
      clear hx hbb harr hb
      go_wp2_with fail
      refine (strength_any _ _ _ _ hxb hyb).mono ?_
      rintro e w2 ⟨rfl, hb2⟩
      have har2 := HA1.out.keep (hb2.block _ HA1.out.lt)
      have hck := har2.cell HZ.out
      have hfk := har2.frozen k
      have HA2 := Lib.hid har2
      have HB2 := Lib.hid (HB1.out.trans (hb2.mono HB1.out.size))
      clear har2 hb2
      go_wp2
      go_roundw
      case rel => exact ⟨k + 1, by omega, by go_num, HB2.out.setCell (Nat.le_refl _) _, by rw [← HST.out]; exact HA2.out.set k _⟩
      case measure => simp [intOf]; omega
    · obtain rfl : k = n := by omega
      have HSG := Lib.hid (show Seg wr w.heap.size (w.heap.size + 1) (some ⟨w.heap.size, 0, none⟩) (strL ts) by
        rw [← strP_all HN.out]
        exact (harr.own (Nat.le_refl _) (Nat.lt_succ_self _)).seg)
      have HLT := Lib.hid harr.lt
      clear harr
      go_wp2_with fail
      refine (greatestFirst_any _ k k (strL ts) _ _ wr (by rw [strL_length, HN.out]) HSG.out HLT.out hn1 (by omega) (strL_bd HG.out)).mono ?_
      rintro e w2 ⟨A2, c2, rfl, ho2, hb2⟩
      go_wp2
      go_ret
      exact ⟨A2, c2, rfl, ho2.more hsz (Nat.le_refl _), hb.trans (hb2.mono hsz)⟩

set_option maxRecDepth 100000 in
set_option maxHeartbeats 4000000 in
theorem impl_StrongestFirst (A0 : Option Addr) (n c0 : Nat) (ts : List (Int × Int × Int)) (lo hi : Nat) (w : World) (hn : ts.length = n) (hlen : n ≤ 1048576) (hs : Seg w lo hi A0 (flat3 ts)) (hB : hi ≤ w.heap.size) (q : Bool) (hq : goodT ts = q) :
    Calls Try.prog 39 #[.slice A0 n c0] w (RetL q (someN q (ordI (strL ts))) w) := by
  have HN := Lib.hid hn
  have HQ := Lib.hid hq
  cases q
  · clear hn hq
    go_enter Try.func39, Try.ntmps39
    go_wp2_with fail
    refine (areStackable_any _ _ _ ts lo hi _ HN.out hlen hs hB _ HQ.out).mono ?_
    rintro e w1 ⟨rfl, hb1⟩
    go_wp2
    go_ret2
    exact ⟨none, 0, 0, rfl, rfl, Own.nil_, hb1⟩
  · clear hn hq
    go_enter Try.func39, Try.ntmps39
    go_wp2_with fail
    refine (areStackable_any _ _ _ ts lo hi _ HN.out hlen hs hB _ HQ.out).mono ?_
    rintro e w1 ⟨rfl, hb1⟩
    have hz1 := hb1.size
    have HB1 := Lib.hid hb1
    go_wp2_with fail
    refine (strongestFirst_any A0 n c0 ts lo hi _ HN.out (hs.below HB1.out hB) (by omega) HQ.out).mono ?_
    rintro e w2 ⟨A2, c2, rfl, ho2, hb2⟩
    go_wp2
    go_ret2
    exact ⟨A2, n, c2, rfl, by show (ordI (strL ts)).length = n; rw [ordI_length, strL_length, HN.out], ho2.more hz1 (Nat.le_refl _), HB1.out.trans (hb2.mono hz1)⟩

set_option maxRecDepth 100000 in
set_option maxHeartbeats 4000000 in
theorem spec_StrongestFirst_yes (A0 : Option Addr) (n c0 : Nat) (ts : List (Int × Int × Int)) (lo hi : Nat) (w : World) (hn : ts.length = n) (hlen : n ≤ 1048576) (hs : Seg w lo hi A0 (flat3 ts)) (hB : hi ≤ w.heap.size) (hq : goodT ts = true) :
    Calls Try.prog 38 #[.slice A0 n c0] w (RetL true (ordI (strL ts)) w) := by
  obtain ⟨i0, hi0, hz0, hz1, hz2⟩ := info_parts int_info
  have hn7 := (goodT_at hq).2.1
  rw [hn] at hn7
  have HN := Lib.hid hn
  have HQ := Lib.hid hq
  clear hn hq
  go_enter Try.func38, Try.ntmps38
  go_wp2_with fail
  refine (scGood_any _ _ _ ts lo hi _ HN.out hlen hs hB _ HQ.out).mono ?_
  rintro e w1 ⟨rfl, hb1⟩
  have HBS := Lib.hid hb1
  go_wp2
  go_loopw [4, 14] (fun v i wr => ∃ k : Nat, k ≤ n ∧ i = .int .i64 (k : Int) ∧ Below w.heap.size w wr ∧ (∃ out, sortG (upZ (strL ts)) ((below n).take k) = out ∧ wr.ownsRow w.heap.size 3 1 v k (out.map (Value.int .i64))) ∧ (k = 0 → v = .slice none 0 0)) (fun _ i _ => n - (intOf i).toNat)
  case atStart => exact ⟨0, Nat.zero_le _, rfl, HBS.out, ⟨[], rfl, World.ownsRow_nil _ _ _ _⟩, fun _ => rfl⟩
  case round =>
    rename World => wo
    obtain ⟨k, hk, rfl, hb, ⟨out, hout, hown⟩, hnil⟩ := hrel
    have hsz := hb.size
    have hol : out.length = k := by rw [← hout, sortG_length, List.length_take, below_length]; omega
    obtain ⟨A, c, rfl⟩ := ownsRow_form hown
    have hcap := own_capT hown
    have HOL := Lib.hid hol
    have HOUT := Lib.hid hout
    clear hout
    by_cases hlt : k < n
    · obtain ⟨bq, oq, x, y, z, rfl, _, hbq, hx, hc0, hc1, hc2⟩ := (hs.below hb hB).tri (k := k) (by rw [HN.out]; exact hlt)
      obtain ⟨hxb, hyb⟩ := thing_bd HQ.out hx
      have HXU := Lib.hid (show (strL ts).getD k 0 = x + y by simp [List.getD, strL_at hx])
      have hnext := sortG_next (upZ (strL ts)) (below_at hlt)
      rw [HOUT.out] at hnext
      have HNX := Lib.hid hnext
      have HMEM := Lib.hid (show ∀ x ∈ out, 0 ≤ x ∧ x < (n : Int) from by rw [← HOUT.out]; exact sortG_mem (fun x hx => below_mem (List.mem_of_mem_take hx)))
      have hbb := (Below.refl wo.heap.size wo).alloc (Nat.le_refl _) (.cells #[.int .i64 x, .int .i64 y, .int .i64 z] 55)
      have HAT0 := Lib.hid (ThgAt.of (new_at wo (.cells #[.int .i64 x, .int .i64 y, .int .i64 z] 55) rfl))
      have HBB := Lib.hid hbb
      have HOWN := Lib.hid hown
      have hsxy : x + y ≤ 2000 := by omega
      have hsx0 : 1 ≤ x + y := by omega
      clear hx hnext hbb hown hol
      go_wp2
      go_loopw [7] (fun kk w5 => ∃ j : Nat, j ≤ k ∧ kk = .int .i64 j ∧ Hid (posG (upZ (strL ts)) out (k : Int) j = posG (upZ (strL ts)) out (k : Int) k) ∧ Below (wo.alloc (.cells #[.int .i64 x, .int .i64 y, .int .i64 z] 55)).heap.size (wo.alloc (.cells #[.int .i64 x, .int .i64 y, .int .i64 z] 55)) w5) (fun kk _ => (intOf kk).toNat)
      case atStart => exact ⟨k, Nat.le_refl _, rfl, rfl, Below.refl _ _⟩
      case round =>
        rename World => w5
        obtain ⟨j, hj, rfl, hpos, hb5⟩ := hrel
        have hb5r : Below wo.heap.size wo w5 := HBB.out.trans (hb5.mono (by simp))
        have hz5r := hb5r.size
        have HBW := Lib.hid (hb.trans (hb5r.mono hsz))
        have hz5 := HBW.out.size
        have hown5 := row_below HOWN.out hb5r
        have hoseg := (ownsRow_own (ys := out) (by rw [HOL.out]; exact hown5)).2.seg
        obtain ⟨t0, t1, t2⟩ := HAT0.out.below hb5
        have HB5 := Lib.hid hb5
        clear hb5 hb5r
        by_cases hgo : ∃ jj x, j = jj + 1 ∧ out[jj]? = some x ∧ upZ (strL ts) (k : Int) x = true
        · obtain ⟨jj, x', rfl, hx, hux⟩ := hgo
          have HPOS := Lib.hid (show posG (upZ (strL ts)) out (k : Int) jj = posG (upZ (strL ts)) out (k : Int) k by rw [← posG_go hx hux]; exact hpos.out)
          have hxm := HMEM.out x' (List.mem_of_getElem? hx)
          obtain ⟨xn, rfl⟩ : ∃ xn : Nat, x' = (xn : Int) := ⟨x'.toNat, by omega⟩
          obtain ⟨bo, oo, x2, rfl, _, _, hx', hcx⟩ := hoseg.at_ (k := jj) (by rw [HOL.out]; omega)
          obtain rfl : (xn : Int) = x2 := by rw [hx] at hx'; injection hx'
          obtain ⟨b2, o2, vx, vy, vz, hA2, _, hb2, hv, hd0, hd1, hd2⟩ := (hs.below HBW.out hB).tri (k := xn) (by rw [HN.out]; omega)
          obtain ⟨rfl, rfl⟩ : bq = b2 ∧ oq = o2 := by injection hA2 with hA; injection hA with h1 h2; exact ⟨h1, h2⟩
          obtain ⟨hvb, hwb⟩ := thing_bd HQ.out hv
          have hxn : (xn : Int) < (n : Int) := by omega
          have hxn2 : xn < n := by omega
          have hjk : jj < k := by omega
          have hjk2 : (jj : Int) < (k : Int) := by omega
          have hlt2 : decide (vx + vy < x + y) = true := by
            have h : decide ((strL ts).getD xn 0 < (strL ts).getD k 0) = true := hux
            rwa [HXU.out, show (strL ts).getD xn 0 = vx + vy by simp [List.getD, strL_at hv]] at h
          have hgt0 : decide ((0 : Int) < (jj : Int) + 1) = true := decide_eq_true (by omega)
          have hw1 : IntKind.i64.wrap ((jj : Int) + 1 - 1) = (jj : Int) := by rw [IntKind.wrap_i64]; omega
          have hw2 : IntKind.i64.wrap (vx + vy) = vx + vy := by rw [IntKind.wrap_i64]; omega
          have hw3 : IntKind.i64.wrap (x + y) = x + y := by rw [IntKind.wrap_i64]; omega
          clear hx hux hx' hnil hv hA2 hoseg hown5
          go_wp2
          go_quiet (fail)
          go_wp2
          go_roundw
          case rel => exact ⟨jj, by omega, by first | rfl | go_num, HPOS.out, below_drewN HB5.out _⟩
          case measure => first | (simp [intOf]; done) | (simp [intOf]; omega)
        · have hat : insG (upZ (strL ts)) out (k : Int) = atG out (k : Int) j := by
            rw [insG, HOL.out, ← hpos.out]
            rcases Nat.eq_zero_or_pos j with rfl | hjp
            · rfl
            · obtain ⟨jj, rfl⟩ : ∃ jj, j = jj + 1 := ⟨j - 1, by omega⟩
              obtain ⟨x', hx⟩ : ∃ x', out[jj]? = some x' := ⟨_, List.getElem?_eq_getElem (by rw [HOL.out]; omega)⟩
              rw [posG_stop hx (by
                cases h : upZ (strL ts) (k : Int) x' with
                | false => rfl
                | true => exact absurd ⟨jj, x', rfl, hx, h⟩ hgo)]
          have hstop : j = 0 ∨ ∃ jj x', j = jj + 1 ∧ out[jj]? = some x' ∧ upZ (strL ts) (k : Int) x' = false := by
            rcases Nat.eq_zero_or_pos j with rfl | hjp
            · exact .inl rfl
            · obtain ⟨jj, rfl⟩ : ∃ jj, j = jj + 1 := ⟨j - 1, by omega⟩
              obtain ⟨x', hx⟩ : ∃ x', out[jj]? = some x' := ⟨_, List.getElem?_eq_getElem (by rw [HOL.out]; omega)⟩
              exact .inr ⟨jj, x', rfl, hx, by
                cases h : upZ (strL ts) (k : Int) x' with
                | false => rfl
                | true => exact absurd ⟨jj, x', rfl, hx, h⟩ hgo⟩
          have HAT := Lib.hid hat
          have HTK := Lib.hid (hoseg.takeT j)
          have HSTOP := Lib.hid hstop
          clear hat hgo hstop hpos
          rcases Nat.eq_zero_or_pos k with hk0 | hkp
          · obtain ⟨rfl, rfl⟩ : A = none ∧ c = 0 := by have := hnil hk0; injection this with a b d; exact ⟨a, d⟩
            subst hk0
            obtain rfl : j = 0 := by omega
            have HOS := Lib.hid (Seg.nil_ : Seg w5 0 0 none [])
            clear hnil hown5 hcap hoseg
            go_wp2
            go_quiet (fail)
            go_wp2_with fail
            refine (l1Own_any none 0 _ (out.take 0) w.heap.size w5.heap.size (w5.drewN nq) (by rw [List.length_take, HOL.out]; omega) (by omega) (show Seg (w5.drewN nq) w.heap.size w5.heap.size _ (out.take 0) from HTK.out) (show w5.heap.size ≤ w5.heap.size from Nat.le_refl _)).mono ?_
            rintro e w1 ⟨A2, c2, rfl, hown1', hb1'⟩
            have hb1 : Below w5.heap.size w5 w1 := undrewN hb1'
            have hown1 : w1.ownsRow w5.heap.size 3 1 (.slice A2 0 c2) 0 ((out.take 0).map (Value.int .i64)) := hown1'
            have hz1' := hb1.size
            have HOW1 := Lib.hid (hown1.alloc (.cells #[.int .i64 (0 : Int)] 3))
            have HS1 := Lib.hid (seg_one w1 (0 : Int) 3)
            have HLT1 := Lib.hid hown1.lt
            have HB1 := Lib.hid hb1
            clear hown1 hb1 hown1' hb1'
            go_wp2_with (first | (at_builtin; refine wpList_append_seg _ rfl _ _ 29 rfl w5.heap.size 3 i0 Try.underlying29 hi0 hz0 hz1 hz2 _ 0 _ rfl HOW1.out _ 1 1 [(0 : Int)] _ _ rfl rfl HS1.out (by omega) (by simp; omega) ?_; intro v3 w3 hown3 hgr3; have hb3 : Below w5.heap.size w5 w3 := (HB1.out.alloc hz1' _).grown hgr3 (by simp; omega) (fun g' hg' => (HLT1.out g' hg').1); have HB3 := Lib.hid hb3; have HOW3 := Lib.hid (show w3.ownsRow w5.heap.size 3 1 v3 (0 + 1) ((out.take 0 ++ [(0 : Int)]).map (Value.int .i64)) by simpa using hown3); have HS3 := Lib.hid (HOS.out.below hb3 (by omega)); have HLT3 := Lib.hid hown3.lt; clear HOW1 hown3 hgr3 hb3; obtain ⟨A3, c3, rfl⟩ := ownsRow_form HOW3.out) | (at_builtin; refine wpList_append_seg _ rfl _ _ 29 rfl w5.heap.size 3 i0 Try.underlying29 hi0 hz0 hz1 hz2 _ (0 + 1) _ rfl HOW3.out none 0 _ ([] : List Int) _ _ rfl (by rfl) HS3.out (by omega) HB3.out.size ?_; intro v5 wv hown5 hgr5; have HBV := Lib.hid (HB3.out.grown hgr5 HB3.out.size (fun g' hg' => (HLT3.out g' hg').1)); have HOWV := Lib.hid (show wv.ownsRow w5.heap.size 3 1 v5 (0 + 1 + 0) ((out.take 0 ++ [(0 : Int)] ++ ([] : List Int)).map (Value.int .i64)) by simpa [List.map_append] using hown5); clear HOW3 hown5 hgr5; obtain ⟨A5, c5, rfl⟩ := ownsRow_form HOWV.out))
            go_roundw
            case rel =>
              have hl : (0 + 1 + 0) = 0 + 1 := by omega
              have he : out.take 0 ++ [(0 : Int)] ++ ([] : List Int) = insG (upZ (strL ts)) out (0 : Int) := by
                rw [show insG (upZ (strL ts)) out (0 : Int) = atG out (0 : Int) 0 from HAT.out, atG]; have h0 : out = [] := List.eq_nil_of_length_eq_zero HOL.out; rw [h0]; rfl
              have h := HOWV.out
              rw [he, hl] at h
              try rw [hl]
              refine ⟨0 + 1, by omega, by first | rfl | go_num, HBW.out.trans (HBV.out.mono hz5), ⟨_, HNX.out, own_mono h hz5⟩, fun h0 => by omega⟩
            case measure => first | (simp [intOf]; done) | (simp [intOf]; omega)
          · obtain ⟨g, cap, hvv, hg0, hg1, hcs, _⟩ := ownsRow_head (ys := out) hown5 hkp
            obtain ⟨rfl, rfl⟩ : A = some ⟨g, 0, none⟩ ∧ c = cap := by injection hvv with a b d; exact ⟨a, d⟩
            obtain ⟨ad, hsA, hsT⟩ := tailT (j := j) hoseg HOL.out hj hcap
            rw [Nat.zero_add] at hsA
            have HSTL := Lib.hid hsT
            have HOS := Lib.hid hoseg
            rcases HSTOP.out with rfl | ⟨jj, x', rfl, hx, hnlt⟩
            · clear hvv hcs hnil hown5 hsT hsA hoseg
              go_wp2
              go_quiet (fail)
              go_wp2_with fail
              refine (l1Own_any (some ⟨g, 0, none⟩) 0 _ (out.take 0) w.heap.size w5.heap.size (w5.drewN nq) (by rw [List.length_take, HOL.out]; omega) (by omega) (show Seg (w5.drewN nq) w.heap.size w5.heap.size _ (out.take 0) from HTK.out) (show w5.heap.size ≤ w5.heap.size from Nat.le_refl _)).mono ?_
              rintro e w1 ⟨A2, c2, rfl, hown1', hb1'⟩
              have hb1 : Below w5.heap.size w5 w1 := undrewN hb1'
              have hown1 : w1.ownsRow w5.heap.size 3 1 (.slice A2 0 c2) 0 ((out.take 0).map (Value.int .i64)) := hown1'
              have hz1' := hb1.size
              have HOW1 := Lib.hid (hown1.alloc (.cells #[.int .i64 (k : Int)] 3))
              have HS1 := Lib.hid (seg_one w1 (k : Int) 3)
              have HLT1 := Lib.hid hown1.lt
              have HB1 := Lib.hid hb1
              clear hown1 hb1 hown1' hb1'
              go_wp2_with (first | (at_builtin; refine wpList_append_seg _ rfl _ _ 29 rfl w5.heap.size 3 i0 Try.underlying29 hi0 hz0 hz1 hz2 _ 0 _ rfl HOW1.out _ 1 1 [(k : Int)] _ _ rfl rfl HS1.out (by omega) (by simp; omega) ?_; intro v3 w3 hown3 hgr3; have hb3 : Below w5.heap.size w5 w3 := (HB1.out.alloc hz1' _).grown hgr3 (by simp; omega) (fun g' hg' => (HLT1.out g' hg').1); have HB3 := Lib.hid hb3; have HOW3 := Lib.hid (show w3.ownsRow w5.heap.size 3 1 v3 (0 + 1) ((out.take 0 ++ [(k : Int)]).map (Value.int .i64)) by simpa using hown3); have HS3 := Lib.hid (HOS.out.below hb3 (by omega)); have HLT3 := Lib.hid hown3.lt; clear HOW1 hown3 hgr3 hb3; obtain ⟨A3, c3, rfl⟩ := ownsRow_form HOW3.out) | (at_builtin; refine wpList_append_seg _ rfl _ _ 29 rfl w5.heap.size 3 i0 Try.underlying29 hi0 hz0 hz1 hz2 _ (0 + 1) _ rfl HOW3.out (some ⟨g, 0, none⟩) k _ out _ _ rfl (by exact HOL.out) HS3.out (by omega) HB3.out.size ?_; intro v5 wv hown5 hgr5; have HBV := Lib.hid (HB3.out.grown hgr5 HB3.out.size (fun g' hg' => (HLT3.out g' hg').1)); have HOWV := Lib.hid (show wv.ownsRow w5.heap.size 3 1 v5 (0 + 1 + k) ((out.take 0 ++ [(k : Int)] ++ out).map (Value.int .i64)) by simpa [List.map_append] using hown5); clear HOW3 hown5 hgr5; obtain ⟨A5, c5, rfl⟩ := ownsRow_form HOWV.out))
              go_roundw
              case rel =>
                have hl : (0 + 1 + k) = k + 1 := by omega
                have he : out.take 0 ++ [(k : Int)] ++ out = insG (upZ (strL ts)) out (k : Int) := by
                  rw [HAT.out, atG]; simp
                have h := HOWV.out
                rw [he, hl] at h
                try rw [hl]
                refine ⟨k + 1, by omega, by first | rfl | go_num, HBW.out.trans (HBV.out.mono hz5), ⟨_, HNX.out, own_mono h hz5⟩, fun h0 => by omega⟩
              case measure => first | (simp [intOf]; done) | (simp [intOf]; omega)
            · obtain ⟨bo, oo, x2, hA, _, _, hx', hcx⟩ := hoseg.at_ (k := jj) (by rw [HOL.out]; omega)
              obtain ⟨rfl, rfl⟩ : g = bo ∧ 0 = oo := by injection hA with hA; injection hA with h1 h2; exact ⟨h1, h2⟩
              obtain rfl : x' = x2 := by rw [hx] at hx'; injection hx'
              have hxm := HMEM.out x' (List.mem_of_getElem? hx)
              obtain ⟨xn, rfl⟩ : ∃ xn : Nat, x' = (xn : Int) := ⟨x'.toNat, by omega⟩
              obtain ⟨b2, o2, vx, vy, vz, hA2, _, hb2, hv, hd0, hd1, hd2⟩ := (hs.below HBW.out hB).tri (k := xn) (by rw [HN.out]; omega)
              obtain ⟨rfl, rfl⟩ : bq = b2 ∧ oq = o2 := by injection hA2 with hA; injection hA with h1 h2; exact ⟨h1, h2⟩
              obtain ⟨hvb, hwb⟩ := thing_bd HQ.out hv
              have hxn : (xn : Int) < (n : Int) := by omega
              have hxn2 : xn < n := by omega
              have hjk : jj < k := by omega
              have hjk2 : (jj : Int) < (k : Int) := by omega
              have hcx' : w5.cell? ⟨g, jj, none⟩ = some (.int .i64 (xn : Int)) := by simpa using hcx
              have hlt2 : decide (vx + vy < x + y) = false := by
                have h : decide ((strL ts).getD xn 0 < (strL ts).getD k 0) = false := hnlt
                rwa [HXU.out, show (strL ts).getD xn 0 = vx + vy by simp [List.getD, strL_at hv]] at h
              have hgt0 : decide ((0 : Int) < (jj : Int) + 1) = true := decide_eq_true (by omega)
              have hw1 : IntKind.i64.wrap ((jj : Int) + 1 - 1) = (jj : Int) := by rw [IntKind.wrap_i64]; omega
              have hw2 : IntKind.i64.wrap (vx + vy) = vx + vy := by rw [IntKind.wrap_i64]; omega
              have hw3 : IntKind.i64.wrap (x + y) = x + y := by rw [IntKind.wrap_i64]; omega
              clear hvv hcs hnil hown5 hsT hA hx hx' hcx hnlt hv hA2 hoseg
              go_wp2
              go_quiet (fail)
              go_wp2_with fail
              refine (l1Own_any (some ⟨g, 0, none⟩) (jj + 1) _ (out.take (jj + 1)) w.heap.size w5.heap.size (w5.drewN nq) (by rw [List.length_take, HOL.out]; omega) (by omega) (show Seg (w5.drewN nq) w.heap.size w5.heap.size _ (out.take (jj + 1)) from HTK.out) (show w5.heap.size ≤ w5.heap.size from Nat.le_refl _)).mono ?_
              rintro e w1 ⟨A2, c2, rfl, hown1', hb1'⟩
              have hb1 : Below w5.heap.size w5 w1 := undrewN hb1'
              have hown1 : w1.ownsRow w5.heap.size 3 1 (.slice A2 (jj + 1) c2) (jj + 1) ((out.take (jj + 1)).map (Value.int .i64)) := hown1'
              have hz1' := hb1.size
              have HOW1 := Lib.hid (hown1.alloc (.cells #[.int .i64 (k : Int)] 3))
              have HS1 := Lib.hid (seg_one w1 (k : Int) 3)
              have HLT1 := Lib.hid hown1.lt
              have HB1 := Lib.hid hb1
              clear hown1 hb1 hown1' hb1'
              go_wp2_with (first | (at_builtin; refine wpList_append_seg _ rfl _ _ 29 rfl w5.heap.size 3 i0 Try.underlying29 hi0 hz0 hz1 hz2 _ (jj + 1) _ rfl HOW1.out _ 1 1 [(k : Int)] _ _ rfl rfl HS1.out (by omega) (by simp; omega) ?_; intro v3 w3 hown3 hgr3; have hb3 : Below w5.heap.size w5 w3 := (HB1.out.alloc hz1' _).grown hgr3 (by simp; omega) (fun g' hg' => (HLT1.out g' hg').1); have HB3 := Lib.hid hb3; have HOW3 := Lib.hid (show w3.ownsRow w5.heap.size 3 1 v3 ((jj + 1) + 1) ((out.take (jj + 1) ++ [(k : Int)]).map (Value.int .i64)) by simpa using hown3); have HS3 := Lib.hid (HSTL.out.below hb3 (by omega)); have HLT3 := Lib.hid hown3.lt; clear HOW1 hown3 hgr3 hb3; obtain ⟨A3, c3, rfl⟩ := ownsRow_form HOW3.out) | (at_builtin; refine wpList_append_seg _ rfl _ _ 29 rfl w5.heap.size 3 i0 Try.underlying29 hi0 hz0 hz1 hz2 _ ((jj + 1) + 1) _ rfl HOW3.out _ (k - (jj + 1)) _ (out.drop (jj + 1)) _ _ rfl (by rw [List.length_drop, HOL.out]) HS3.out (by omega) HB3.out.size ?_; intro v5 wv hown5 hgr5; have HBV := Lib.hid (HB3.out.grown hgr5 HB3.out.size (fun g' hg' => (HLT3.out g' hg').1)); have HOWV := Lib.hid (show wv.ownsRow w5.heap.size 3 1 v5 ((jj + 1) + 1 + (k - (jj + 1))) ((out.take (jj + 1) ++ [(k : Int)] ++ (out.drop (jj + 1))).map (Value.int .i64)) by simpa [List.map_append] using hown5); clear HOW3 hown5 hgr5; obtain ⟨A5, c5, rfl⟩ := ownsRow_form HOWV.out))
              go_roundw
              case rel =>
                have hl : ((jj + 1) + 1 + (k - (jj + 1))) = k + 1 := by omega
                have he : out.take (jj + 1) ++ [(k : Int)] ++ (out.drop (jj + 1)) = insG (upZ (strL ts)) out (k : Int) := by
                  rw [HAT.out, atG]; simp
                have h := HOWV.out
                rw [he, hl] at h
                try rw [hl]
                refine ⟨k + 1, by omega, by first | rfl | go_num, HBW.out.trans (HBV.out.mono hz5), ⟨_, HNX.out, own_mono h hz5⟩, fun h0 => by omega⟩
              case measure => first | (simp [intOf]; done) | (simp [intOf]; omega)
    · obtain rfl : n = k := by omega
      have e : sortG (upZ (strL ts)) ((below n).take n) = ordI (strL ts) := by rw [List.take_of_length_le (by rw [below_length]; exact Nat.le_refl _), ordI, strL_length, HN.out]
      obtain rfl : ordI (strL ts) = out := e.symm.trans HOUT.out
      have HO := Lib.hid (ownsRow_own (ys := ordI (strL ts)) (by rw [hol]; exact hown)).2
      clear hown hnil e hol
      go_wp2
      go_ret2
      exact ⟨A, n, c, rfl, HOL.out, HO.out, hb⟩

theorem spec_StrongestFirst (A0 : Option Addr) (n c0 : Nat) (ts : List (Int × Int × Int)) (lo hi : Nat) (w : World) (hn : ts.length = n) (hlen : n ≤ 1048576) (hs : Seg w lo hi A0 (flat3 ts)) (hB : hi ≤ w.heap.size) (q : Bool) (hq : goodT ts = q) :
    Calls Try.prog 38 #[.slice A0 n c0] w (RetL q (someN q (ordI (strL ts))) w) := by
  cases q
  · have HN := Lib.hid hn
    have HQ := Lib.hid hq
    clear hn hq
    go_enter Try.func38, Try.ntmps38
    go_wp2_with fail
    refine (scGood_any _ _ _ ts lo hi _ HN.out hlen hs hB _ HQ.out).mono ?_
    rintro e w1 ⟨rfl, hb1⟩
    go_wp2
    go_ret2
    exact ⟨none, 0, 0, rfl, rfl, Own.nil_, hb1⟩
  · exact spec_StrongestFirst_yes A0 n c0 ts lo hi w hn hlen hs hB hq
end Go.Proofs.Ytcfnjodcnejnkaa

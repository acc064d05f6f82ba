/-
  Both programs' depths of the boxes of a nesting.
  Conditions: the lists have at most 1048576 elements.
-/
import Derived.Test.YtkconbcmbpmghaaOuter
namespace Go.Proofs.Ytkconbcmbpmghaa
set_option linter.unusedVariables false
open Go.RowKit

/-- How many boxes are around, counted from the one at once around, with so many steps at most. -/
def depthF (plan : List Int) : Nat → Int → Nat
  | 0, _ => 0
  | f + 1, u => if u < 0 then 0 else 1 + depthF plan f (plan.getD u.toNat 0)
def depthU (plan : List Int) (u : Int) : Nat := depthF plan 51 u
def depthN (plan : List Int) : List Int := plan.map fun u => (depthU plan u : Int)
theorem depthN_length (plan : List Int) : (depthN plan).length = plan.length := by simp [depthN]
theorem depthN_at {plan : List Int} {k : Nat} {u : Int} (h : plan[k]? = some u) : (depthN plan)[k]? = some ((depthU plan u : Nat) : Int) := by simp [depthN, h]
theorem depthF_neg (plan : List Int) (f : Nat) {u : Int} (h : u < 0) : depthF plan f u = 0 := by
  cases f with
  | zero => rfl
  | succ f => rw [depthF, if_pos h]
theorem depthF_le (plan : List Int) (f : Nat) (u : Int) : depthF plan f u ≤ f := by
  induction f generalizing u with
  | zero => exact Nat.le_refl _
  | succ f ih =>
    rw [depthF]
    split
    · omega
    · have := ih (plan.getD u.toNat 0)
      omega
theorem depthF_some (plan : List Int) (f : Nat) {j : Nat} {v : Int} (h : plan[j]? = some v) : depthF plan (f + 1) (j : Int) = 1 + depthF plan f v := by
  rw [depthF, if_neg (by omega)]
  simp [List.getD, h]

/-- How great a box is that is told by its number; behind all boxes where it tells none. -/
def sizeU (bs : List (Int × Int × Int)) (u : Int) : Nat := if u < 0 then 51 else ((s3 (bs.getD u.toNat (0, 0, 0))).1).toNat

/-- What is known of a number on the way outward. -/
def OnWay (bs : List (Int × Int × Int)) (plan : List Int) (u : Int) (c f D : Nat) : Prop :=
  (u = -1 ∨ ∃ j : Nat, u = (j : Int) ∧ j < plan.length) ∧ c + depthF plan f u = D ∧ 51 ≤ sizeU bs u + f

theorem sizeU_le {bs : List (Int × Int × Int)} {plan : List Int} (h : bothN bs plan = true) {j : Nat} (hj : j < plan.length) : 1 ≤ sizeU bs (j : Int) ∧ sizeU bs (j : Int) ≤ 50 := by
  obtain ⟨h1, h2, _⟩ := bothN_at h
  have hb : bs[j]? = some bs[j] := List.getElem?_eq_getElem (by omega)
  have hbd := s3_bd ((goodN_at h1).2.2 _ (List.mem_of_getElem? hb))
  rw [sizeU, if_neg (by omega)]
  have e : bs.getD ((j : Int).toNat) (0, 0, 0) = bs[j] := by simp [List.getD, hb]
  rw [e]
  omega

theorem sizeU_up {bs : List (Int × Int × Int)} {plan : List Int} (h : bothN bs plan = true) {j : Nat} {v : Int} (hv : plan[j]? = some v) : sizeU bs (j : Int) + 1 ≤ sizeU bs v := by
  have hj := (List.getElem?_eq_some_iff.1 hv).1
  have hl := (sizeU_le h hj).2
  rcases nest_bd h hv with rfl | ⟨h0, h1, h2⟩
  · have : sizeU bs (-1) = 51 := rfl
    omega
  · obtain ⟨i, rfl⟩ : ∃ i : Nat, v = (i : Int) := ⟨v.toNat, by omega⟩
    have hlb := (bothN_at h).2.1
    have hb : bs[j]? = some bs[j] := List.getElem?_eq_getElem (by omega)
    have hi : bs[i]? = some bs[i] := List.getElem?_eq_getElem (by omega)
    rw [show (i : Int).toNat = i from rfl, fitL_at hb hi] at h2
    have hlt := fitT_lt h2
    have hbd := s3_bd ((goodN_at (bothN_at h).1).2.2 _ (List.mem_of_getElem? hb))
    have hbd2 := s3_bd ((goodN_at (bothN_at h).1).2.2 _ (List.mem_of_getElem? hi))
    rw [sizeU, if_neg (by omega), sizeU, if_neg (by omega)]
    have e : bs.getD ((j : Int).toNat) (0, 0, 0) = bs[j] := by simp [List.getD, hb]
    have e2 : bs.getD ((i : Int).toNat) (0, 0, 0) = bs[i] := by simp [List.getD, hi]
    rw [e, e2]
    omega

theorem way_start {bs : List (Int × Int × Int)} {plan : List Int} (h : bothN bs plan = true) {k : Nat} {u : Int} (hu : plan[k]? = some u) : OnWay bs plan u 0 51 (depthU plan u) := by
  refine ⟨?_, by rw [depthU]; omega, by omega⟩
  rcases nest_bd h hu with rfl | ⟨h0, h1, _⟩
  · exact .inl rfl
  · exact .inr ⟨u.toNat, by omega, by omega⟩

theorem way_end {bs : List (Int × Int × Int)} {plan : List Int} {c f D : Nat} (h : OnWay bs plan (-1) c f D) : c = D := by
  have := h.2.1
  rw [depthF_neg _ _ (by omega)] at this
  omega

theorem way_step {bs : List (Int × Int × Int)} {plan : List Int} (hb : bothN bs plan = true) {j c f D : Nat} {v : Int} (h : OnWay bs plan (j : Int) c f D) (hv : plan[j]? = some v) :
    ∃ f', f = f' + 1 ∧ OnWay bs plan v (c + 1) f' D ∧ 51 - sizeU bs v < 51 - sizeU bs (j : Int) ∧ c ≤ 1000 + D := by
  obtain ⟨h1, h2, h3⟩ := h
  have hj := (List.getElem?_eq_some_iff.1 hv).1
  have hsz := sizeU_le hb hj
  have hup := sizeU_up hb hv
  obtain ⟨f', rfl⟩ : ∃ f', f = f' + 1 := ⟨f - 1, by omega⟩
  rw [depthF_some plan f' hv] at h2
  refine ⟨f', rfl, ⟨?_, by omega, by omega⟩, by omega, by omega⟩
  rcases nest_bd hb hv with rfl | ⟨h0, h1, _⟩
  · exact .inl rfl
  · exact .inr ⟨v.toNat, by omega, by omega⟩

theorem depthU_le (plan : List Int) (u : Int) : depthU plan u ≤ 51 := depthF_le _ _ _
theorem way_le {bs : List (Int × Int × Int)} {plan : List Int} {u : Int} {c f D : Nat} (h : OnWay bs plan u c f D) : c ≤ D := by have := h.2.1; omega

set_option maxRecDepth 100000 in
set_option maxHeartbeats 2000000 in
theorem spec_DepthsOf (A B : Option Addr) (n c m d : Nat) (bs : List (Int × Int × Int)) (plan : List Int) (lo hi lo' hi' : Nat) (w : World) (hn : bs.length = n) (hlen : n ≤ 1048576) (hmd : m ≤ d) (hm : plan.length = m) (hm2 : m ≤ 1048576)
    (hs : Seg w lo hi A (flat3 bs)) (hB : hi ≤ w.heap.size) (hp : Seg w lo' hi' B plan) (hBp : hi' ≤ w.heap.size) (q : Bool) (hq : bothN bs plan = q) :
    Calls Try.prog 36 #[.slice A n c, .slice B m d] w (RetL q (someN q (depthN plan)) w) := by
  have HN := Lib.hid hn
  have HM := Lib.hid hm
  have HQ := Lib.hid hq
  cases q
  · clear hn hm hq
    go_enter Try.func36, Try.ntmps36
    go_wp2_with fail
    refine (nePlanned_any _ _ _ _ _ _ bs plan lo hi lo' hi' _ HN.out hlen hs hB HM.out hm2 hmd hp hBp _ HQ.out).mono ?_
    rintro e w1 ⟨rfl, hb1⟩
    go_wp2
    go_ret2
    exact ⟨none, 0, 0, rfl, rfl, Own.nil_, hb1⟩
  · obtain ⟨i0, hi0, hz0, hz1, hz2⟩ := info_parts int_info
    clear hn hm hq
    go_enter Try.func36, Try.ntmps36
    go_wp2_with fail
    refine (nePlanned_any _ _ _ _ _ _ bs plan lo hi lo' hi' _ HN.out hlen hs hB HM.out hm2 hmd hp hBp _ HQ.out).mono ?_
    rintro e w1 ⟨rfl, hb1⟩
    have hz1' := hb1.size
    have HP1 := Lib.hid (hp.below hb1 hBp)
    go_wp2
    go_loopw [6, 16] (fun v i wr => ∃ k : Nat, k ≤ m ∧ i = .int .i64 k ∧ Below w1.heap.size w1 wr ∧ (∃ os, (depthN plan).take k = os ∧ os.length = k ∧ wr.ownsRow w1.heap.size 3 1 v k (os.map (Value.int .i64)))) (fun _ i _ => m - (intOf i).toNat)
    case atStart => exact ⟨0, Nat.zero_le _, rfl, Below.refl _ _, [], rfl, rfl, World.ownsRow_nil _ _ _ _⟩
    case round =>
      obtain ⟨k, hk, rfl, hb, os, hos, hol, hown⟩ := hrel
      have hz := hb.size
      have HOS := Lib.hid hos
      have HOW := Lib.hid hown
      have HOL := Lib.hid hol
      have hpw := HP1.out.below hb (by omega)
      clear hos hol
      obtain ⟨A', c', rfl⟩ := ownsRow_form hown
      by_cases hlt : k < m
      · obtain ⟨b, off, u, rfl, _, hbh, hu, hcu⟩ := hpw.at_ (k := k) (by rw [HM.out]; exact hlt)
        have HTK := Lib.hid (take_last (depthN_at hu))
        have HWAY := Lib.hid (way_start HQ.out hu)
        have hD := depthU_le plan u
        obtain ⟨D, hDD⟩ : ∃ D, depthU plan u = D := ⟨_, rfl⟩
        rw [hDD] at HTK HWAY hD
        rw [HOS.out] at HTK
        have HPW := Lib.hid hpw
        clear hu hDD hown hpw
        go_wp2
        go_loop [8, 9] (fun cc at' => ∃ c f : Nat, ∃ v : Int, cc = .int .i64 (c : Int) ∧ at' = .int .i64 v ∧ Hid (OnWay bs plan v c f D)) (fun _ at' => 51 - sizeU bs (intOf at'))
        case atStart => exact ⟨0, 51, u, rfl, rfl, HWAY.out⟩
        case round =>
          obtain ⟨cc, f, v, rfl, rfl, hway⟩ := hrel
          have hcD := way_le hway.out
          rcases hway.out.1 with rfl | ⟨j, rfl, hj⟩
          · have he := way_end hway.out
            have HOA := Lib.hid (HOW.out.alloc (.cells #[.int .i64 (cc : Int)] 3))
            have HS1 := Lib.hid (seg_one wr (cc : Int) 3)
            have HLT := Lib.hid HOW.out.lt
            have HEE := Lib.hid he
            clear he
            go_wp2_with (at_builtin; refine wpList_append_seg _ rfl _ _ 39 rfl w1.heap.size 3 i0 Try.underlying39 hi0 hz0 hz1 hz2 _ k _ rfl HOA.out _ 1 1 [(cc : Int)] _ _ rfl rfl HS1.out (by omega) (by simp; omega) ?_; intro v3 w3 hown3 hgr3; have HB3 := Lib.hid ((hb.alloc hz _).grown hgr3 (by simp; omega) (fun g' hg' => (HLT.out g' hg').1)); have HO3 := Lib.hid (show w3.ownsRow w1.heap.size 3 1 v3 (k + 1) ((os ++ [(cc : Int)]).map (Value.int .i64)) by simpa using hown3); clear hown3 hgr3; obtain ⟨A3, c3, rfl⟩ := ownsRow_form HO3.out)
            go_roundw
            case rel =>
              refine ⟨k + 1, by omega, by go_num, HB3.out, os ++ [(cc : Int)], ?_, by rw [List.length_append, HOL.out]; rfl, HO3.out⟩
              rw [HEE.out]
              exact HTK.out.symm
            case measure => first | (simp [intOf]; done) | (simp [intOf]; omega)
          · obtain ⟨b', off', v', hA, _, _, hv, hcv⟩ := HPW.out.at_ (k := j) hj
            obtain ⟨rfl, rfl⟩ : b = b' ∧ off = off' := by injection hA with hA; injection hA with h1 h2; exact ⟨h1, h2⟩
            obtain ⟨f', _, hway2, hms, _⟩ := way_step HQ.out hway.out hv
            have HW2 := Lib.hid hway2
            have HMS := Lib.hid hms
            have hjm : j < m := by rw [← HM.out]; exact hj
            clear hA hv hway2 hms
            go_wp2
            go_round
            case rel => exact ⟨cc + 1, f', v', by go_num, rfl, HW2.out⟩
            case measure => exact HMS.out
      · obtain rfl : k = m := by omega
        go_wp2
        go_ret2
        have e : depthN plan = os := by rw [← HOS.out, List.take_of_length_le (by rw [depthN_length, HM.out]; exact Nat.le_refl _)]
        refine ⟨A', k, c', rfl, ?_, ?_, hb1.trans (hb.mono hz1')⟩
        · show (depthN plan).length = k
          rw [depthN_length]; exact HM.out
        · show Own _ _ _ _ (depthN plan)
          rw [e]
          exact (ownsRow_own (ys := os) (by rw [HOL.out]; exact HOW.out)).2.more hz1' (Nat.le_refl _)

/-- The depths so far, nothing behind them. -/
def depthP (plan : List Int) (k : Nat) : List Int := (depthN plan).take k ++ List.replicate (plan.length - k) 0
theorem depthP_set {plan : List Int} {k : Nat} {u : Int} (h : plan[k]? = some u) : (depthP plan k).set k ((depthU plan u : Nat) : Int) = depthP plan (k + 1) := by
  have hk := (List.getElem?_eq_some_iff.1 h).1
  have hl : ((depthN plan).take k).length = k := by rw [List.length_take, depthN_length]; omega
  rw [depthP, List.set_append_right _ _ (by omega), hl, Nat.sub_self, depthP, ← take_last (depthN_at h)]
  obtain ⟨r, hr⟩ : ∃ r, plan.length - k = r + 1 := ⟨plan.length - k - 1, by omega⟩
  rw [hr, show plan.length - (k + 1) = r by omega, List.replicate_succ, List.set_cons_zero, List.append_assoc]
  rfl
theorem depthP_at {plan : List Int} {k : Nat} (hk : k < plan.length) : (depthP plan k)[k]? = some 0 := by
  have hl : ((depthN plan).take k).length = k := by rw [List.length_take, depthN_length]; omega
  rw [depthP, List.getElem?_append_right (by omega), hl, Nat.sub_self, List.getElem?_replicate, if_pos (by omega)]
theorem depthP_length {plan : List Int} {k : Nat} (hk : k ≤ plan.length) : (depthP plan k).length = plan.length := by
  rw [depthP, List.length_append, List.length_take, depthN_length, List.length_replicate]
  omega

set_option maxRecDepth 100000 in
set_option maxHeartbeats 2000000 in
theorem impl_DepthsOf (A B : Option Addr) (n c m d : Nat) (bs : List (Int × Int × Int)) (plan : List Int) (lo hi lo' hi' : Nat) (w : World) (hn : bs.length = n) (hlen : n ≤ 1048576) (hmd : m ≤ d) (hm : plan.length = m) (hm2 : m ≤ 1048576)
    (hs : Seg w lo hi A (flat3 bs)) (hB : hi ≤ w.heap.size) (hp : Seg w lo' hi' B plan) (hBp : hi' ≤ w.heap.size) (q : Bool) (hq : bothN bs plan = q) :
    Calls Try.prog 37 #[.slice A n c, .slice B m d] w (RetL q (someN q (depthN plan)) w) := by
  have HN := Lib.hid hn
  have HM := Lib.hid hm
  have HQ := Lib.hid hq
  cases q
  · clear hn hm hq
    go_enter Try.func37, Try.ntmps37
    go_wp2_with fail
    refine (isNestingOf_any _ _ _ _ _ _ bs plan lo hi lo' hi' _ HN.out hlen hs hB HM.out hm2 hp hBp _ HQ.out).mono ?_
    rintro e w1 ⟨rfl, hb1⟩
    go_wp2
    go_ret2
    exact ⟨none, 0, 0, rfl, rfl, Own.nil_, hb1⟩
  · have hmk := fun W : World => run_make_row' 39 3 (.int .i64 0) 8 Try.underlying39 int_info rfl .i64 .i64 m (by omega) (by omega) W
    clear hn hm hq
    go_enter Try.func37, Try.ntmps37
    go_wp2_with fail
    refine (isNestingOf_any _ _ _ _ _ _ bs plan lo hi lo' hi' _ HN.out hlen hs hB HM.out hm2 hp hBp _ HQ.out).mono ?_
    rintro e w1 ⟨rfl, hb1⟩
    have hz1' := hb1.size
    have HP1 := Lib.hid (hp.below hb1 hBp)
    have HB0 := Lib.hid ((Below.refl w1.heap.size w1).alloc (Nat.le_refl _) (.cells (madeCells #[.int .i64 0] m) 3))
    have HA0 := Lib.hid (show Arr (w1.alloc (.cells (madeCells #[.int .i64 0] m) 3)) w1.heap.size 3 (depthP plan 0) by
      have h := arr_new w1 3 m
      rw [depthP, HM.out]
      exact h)
    go_wp2
    clear hmk
    go_loopw [18] (fun i wr => ∃ k : Nat, k ≤ m ∧ i = .int .i64 k ∧ Below w1.heap.size w1 wr ∧ Arr wr w1.heap.size 3 (depthP plan k)) (fun i _ => m - (intOf i).toNat)
    case atStart => exact ⟨0, Nat.zero_le _, rfl, HB0.out, HA0.out⟩
    case round =>
      obtain ⟨k, hk, rfl, hb, harr⟩ := hrel
      have hz := hb.size
      have HARR := Lib.hid harr
      have hpw := HP1.out.below hb (by omega)
      by_cases hlt : k < m
      · obtain ⟨b, off, u, rfl, _, hbh, hu, hcu⟩ := hpw.at_ (k := k) (by rw [HM.out]; exact hlt)
        have HST := Lib.hid (depthP_set hu)
        have HZ0 := Lib.hid (depthP_at (plan := plan) (k := k) (by rw [HM.out]; exact hlt))
        have hkl : k < (depthP plan k).length := by rw [depthP_length (by rw [HM.out]; omega), HM.out]; exact hlt
        have HKL := Lib.hid hkl
        have HWAY := Lib.hid (way_start HQ.out hu)
        have hD := depthU_le plan u
        obtain ⟨D, hDD⟩ : ∃ D, depthU plan u = D := ⟨_, rfl⟩
        rw [hDD] at HST HWAY hD
        have HSB := Lib.hid (show b < w1.heap.size by exact Nat.lt_of_lt_of_le hbh (by omega))
        clear hu hDD hpw hkl harr
        go_wp2
        go_loopw [8] (fun at' wr => ∃ c f : Nat, ∃ v : Int, at' = .int .i64 v ∧ Below w1.heap.size w1 wr ∧ Arr wr w1.heap.size 3 ((depthP plan k).set k (c : Int)) ∧ Hid (OnWay bs plan v c f D)) (fun at' _ => 51 - sizeU bs (intOf at'))
        case atStart =>
          refine ⟨0, 51, u, rfl, hb, ?_, HWAY.out⟩
          have e : (depthP plan k).set k ((0 : Nat) : Int) = depthP plan k := by
            obtain ⟨h1, h2⟩ := List.getElem?_eq_some_iff.1 HZ0.out
            have := List.set_getElem_self h1
            rw [h2] at this
            exact this
          rw [e]
          exact HARR.out
        case round =>
          obtain ⟨cc, f, v, rfl, hbx, harx, hway⟩ := hrel
          have hcD := way_le hway.out
          have HARX := Lib.hid harx
          rcases hway.out.1 with rfl | ⟨j, rfl, hj⟩
          · have HEE := Lib.hid (way_end hway.out)
            clear harx
            go_wp2
            go_roundw
            case rel => exact ⟨k + 1, by omega, by go_num, hbx, by rw [← HST.out, ← HEE.out]; exact HARX.out⟩
            case measure => first | (simp [intOf]; done) | (simp [intOf]; omega)
          · obtain ⟨b', off', v', hA, _, _, hv, hcv⟩ := (HP1.out.below hbx (by omega)).at_ (k := j) hj
            obtain ⟨rfl, rfl⟩ : b = b' ∧ off = off' := by injection hA with hA; injection hA with h1 h2; exact ⟨h1, h2⟩
            obtain ⟨f', _, hway2, hms, _⟩ := way_step HQ.out hway.out hv
            have HW2 := Lib.hid hway2
            have HMS := Lib.hid hms
            have hjm : j < m := by rw [← HM.out]; exact hj
            have hje : ((j : Int) == -1) = false := by rw [beq_eq_false_iff_ne]; omega
            have hck : wr.cell? ⟨w1.heap.size, k, none⟩ = some (.int .i64 (cc : Int)) := harx.cell (by rw [List.getElem?_set_self HKL.out])
            have hfk := harx.frozen k
            have hcv2 : (wr.setCell ⟨w1.heap.size, k, none⟩ (.int .i64 ((cc : Int) + 1))).cell? ⟨b, off + j, none⟩ = some (.int .i64 v') := by
              rw [World.cell?_setCell_other _ _ _ _ (by intro e; injection e with e; have := HSB.out; omega)]
              exact hcv
            clear hA hv hway2 hms harx
            go_wp2
            go_roundw
            case rel =>
              refine ⟨cc + 1, f', v', rfl, hbx.setCell (Nat.le_refl _) _, ?_, HW2.out⟩
              have h := HARX.out.set k ((cc : Int) + 1)
              rw [List.set_set] at h
              exact h
            case measure => exact HMS.out
      · obtain rfl : k = m := by omega
        clear harr
        go_wp2
        go_ret2
        have e : depthP plan k = depthN plan := by
          rw [depthP, List.take_of_length_le (by rw [depthN_length, HM.out]; exact Nat.le_refl _), HM.out, Nat.sub_self]
          simp
        have h := HARR.out
        rw [e] at h
        exact ⟨_, k, k, rfl, (depthN_length plan).trans HM.out, h.own hz1' h.lt, hb1.trans (hb.mono hz1')⟩
end Go.Proofs.Ytkconbcmbpmghaa

/-
  The written program's walk through the patterns, that lists the full ones.
  Conditions: there are at most 4 lengths, and one at least.
-/
import Derived.Test.YtoheoojpmndhoabFulV
namespace Go.Proofs.Ytoheoojpmndhoab
set_option linter.unusedVariables false
set_option linter.unusedSimpArgs false
open Go.RowKit

theorem lookK_mono {z0 q : Int} {r beg : List Int} {L : Int} {j k : Nat} (h : j ≤ k) : (lookK z0 q r beg L j).length ≤ (lookK z0 q r beg L k).length := by
  induction k with
  | zero => obtain rfl : j = 0 := by omega
            exact Nat.le_refl _
  | succ k ih =>
    rcases Nat.lt_or_ge j (k + 1) with h1 | h1
    · refine Nat.le_trans (ih (by omega)) ?_
      rw [lookK_succ, List.length_append]
      omega
    · obtain rfl : j = k + 1 := by omega
      exact Nat.le_refl _
theorem take_setF {v0 v1 v2 v3 x : Int} {k : Nat} (h : k < 4) : ([v0, v1, v2, v3].set k x).take (k + 1) = [v0, v1, v2, v3].take k ++ [x] := by
  rcases (show k = 0 ∨ k = 1 ∨ k = 2 ∨ k = 3 by omega) with rfl | rfl | rfl | rfl <;> rfl
theorem farX_mono {B base : Nat} {X Y : Nat → Prop} (h : ∀ p, X p → Y p) : ∀ k, FarX B base Y k → FarX B base X k := fun k hk => hk.imp id fun h' => ⟨h'.1, fun hx => h'.2 (h k hx)⟩

set_option maxRecDepth 100000 in
set_option maxHeartbeats 2000000 in
theorem walkOn_full (rod : Int) (A : Option Addr) (n c : Nat) (m0 m1 m2 m3 : Int) (zs : List Int) (lo hi C B T base : Nat) (hn : zs.length = n) (hn1 : 1 ≤ n) (h4 : n ≤ 4) (hz : ∀ (k : Nat) u, zs[k]? = some u → 1 ≤ u ∧ u ≤ 60) (hr : 1 ≤ rod ∧ rod ≤ 60)
    (hms : ∀ (k : Nat) z, zs[k]? = some z → [m0, m1, m2, m3][k]? = some (rod / z)) (hiB : hi ≤ B) (hCB : C ≠ B) (hCb : C < base) (k : Nat) :
    ∀ (next : Nat) (v0 v1 v2 v3 t : Int) (X : Nat → Prop) (L : List (List Int)) (w : World), next + k = n → Seg w lo hi A zs → (∀ (i : Nat) u, [v0, v1, v2, v3][i]? = some u → 0 ≤ u ∧ u ≤ 60) → usedTo zs [v0, v1, v2, v3] n = t → t ≤ rod →
      (∀ i : Nat, next ≤ i → i < 4 → [v0, v1, v2, v3][i]? = some 0) → w.heap[C]? = some (.cells #[.int .i64 rod, .slice A n c, .int .i64 m0, .int .i64 m1, .int .i64 m2, .int .i64 m3] 40 (0, 0)) → Lst w B T base X L → (∀ p, X p → p < w.heap.size) → L.length + (lookF (zs.getD 0 0) (zs.drop next) ([v0, v1, v2, v3].take next) (rod - t)).length ≤ 4194303 →
      Calls Try.prog 53 #[.agg #[.int .i64 rod, .slice A n c, .int .i64 m0, .int .i64 m1, .int .i64 m2, .int .i64 m3], .agg #[.int .i64 v0, .int .i64 v1, .int .i64 v2, .int .i64 v3], .int .i64 (next : Int), (.func (.func 31) #[] #[.pointer (some ⟨C, 0, none⟩), .pointer (some ⟨B, 0, none⟩)])] w (RetF B T base X (L ++ lookF (zs.getD 0 0) (zs.drop next) ([v0, v1, v2, v3].take next) (rod - t)) w) := by
  induction k with
  | zero =>
    intro next v0 v1 v2 v3 t X L w hkn hs hp ht htr hv0 hC hL hX hlen
    obtain rfl : n = next := by omega
    have e1 : lookF (zs.getD 0 0) (zs.drop n) ([v0, v1, v2, v3].take n) (rod - t) = fullL (zs.getD 0 0) ([v0, v1, v2, v3].take n) (rod - t) := by
      rw [List.drop_of_length_le (by omega)]; rfl
    have hbb : base ≤ w.heap.size ∧ B < base := by obtain ⟨_, _, _, _, h3, h4, _⟩ := hL; exact ⟨h4, h3⟩
    have hBL := ((Below.refl w.heap.size w).alloc (Nat.le_refl _) (.cells #[.int .i64 rod, .slice A n c, .int .i64 m0, .int .i64 m1, .int .i64 m2, .int .i64 m3] 40)).alloc (by simp) (.cells #[.int .i64 v0, .int .i64 v1, .int .i64 v2, .int .i64 v3] 38)
    have HCT := Lib.hid (CutAt.of (w := (w.alloc (.cells #[.int .i64 rod, .slice A n c, .int .i64 m0, .int .i64 m1, .int .i64 m2, .int .i64 m3] 40)).alloc (.cells #[.int .i64 v0, .int .i64 v1, .int .i64 v2, .int .i64 v3] 38)) (g := w.heap.size) (T := 40) ((alloc_old _ (by simp) _).trans (new_at _ _ rfl)))
    have HPT := Lib.hid (show Pat4 ((w.alloc (.cells #[.int .i64 rod, .slice A n c, .int .i64 m0, .int .i64 m1, .int .i64 m2, .int .i64 m3] 40)).alloc (.cells #[.int .i64 v0, .int .i64 v1, .int .i64 v2, .int .i64 v3] 38)) (w.heap.size + 1) v0 v1 v2 v3 from Pat4.of (new_at _ _ (by simp)))
    obtain ⟨W, hW⟩ : ∃ W, (w.alloc (.cells #[.int .i64 rod, .slice A n c, .int .i64 m0, .int .i64 m1, .int .i64 m2, .int .i64 m3] 40)).alloc (.cells #[.int .i64 v0, .int .i64 v1, .int .i64 v2, .int .i64 v3] 38) = W := ⟨_, rfl⟩
    have hWs : W.heap.size = w.heap.size + 2 := by rw [← hW]; simp
    rw [hW] at HCT HPT hBL
    obtain ⟨q0, q1, q2, q3, q4, q5⟩ := HCT.out.six
    obtain ⟨p0, p1, p2, p3⟩ := HPT.out
    have hnn : ((n : Int) == (n : Int)) = true := by simp
    have HL := Lib.hid (hL.below hBL)
    have HC := Lib.hid ((hBL.block C (heap_lt hC)).trans hC)
    have HS := Lib.hid (hs.below hBL (by omega))
    have HX := Lib.hid hX
    have HN := Lib.hid hn
    have HZ := Lib.hid hz
    have HT := Lib.hid ht
    have HP := Lib.hid hp
    have HE := Lib.hid e1
    have HO := Lib.hid (Only.of_below (S := FarX B base X) hBL (Nat.le_refl _))
    have HLL := Lib.hid (show L.length < 4194304 by omega)
    have HW := Lib.hid hW
    clear hn hz hms ht hv0 hlen e1 hs hp hC hL hX hBL hW
    go_enter Try.func53, Try.ntmps53
    go_upto_region 1 with (fail)
    rw [HW.out]
    go_wp2_with fail
    refine (full1_any rod A n c m0 m1 m2 m3 v0 v1 v2 v3 zs lo hi C B T base X L W HN.out hn1 h4 HS.out (by omega) HZ.out HP.out hr t HT.out HC.out hCB hCb HL.out (fun p hp => by have := HX.out p hp; omega) HLL.out).mono ?_
    rintro e w1 ⟨rfl, hl1, ho1⟩
    have HL1 := Lib.hid hl1
    have HO1 := Lib.hid (HO.out.trans ho1)
    clear hl1 ho1
    go_wp2
    go_end0
    exact ⟨rfl, by rw [HE.out]; exact HL1.out, HO1.out⟩
  | succ k ih =>
    intro next v0 v1 v2 v3 t X L w hkn hs hp ht htr hv0 hC hL hX hlen
    obtain ⟨l, hl⟩ : ∃ l, zs[next]? = some l := ⟨zs[next]'(by omega), List.getElem?_eq_getElem (by omega)⟩
    have hlb := hz next l hl
    obtain ⟨q, rfl⟩ : ∃ q : Nat, l = (q : Int) := ⟨l.toNat, by omega⟩
    have hq1 : 0 < q := by omega
    have htb := usedTo_bd hz hp n
    rw [ht] at htb
    obtain ⟨Lf, hLf⟩ : ∃ Lf : Nat, rod - t = (Lf : Int) := ⟨(rod - t).toNat, by omega⟩
    have hL60 : Lf ≤ 60 := by omega
    have hd : zs.drop next = (q : Int) :: zs.drop (next + 1) := by
      have hlt : next < zs.length := (List.getElem?_eq_some_iff.1 hl).1
      rw [List.drop_eq_getElem_cons hlt]
      have : zs[next] = (q : Int) := by rw [List.getElem?_eq_getElem hlt] at hl; injection hl
      rw [this]
    obtain ⟨Q, hQ⟩ : ∃ Q, Lf / q = Q := ⟨_, rfl⟩
    obtain ⟨r, hrr⟩ : ∃ r, zs.drop (next + 1) = r := ⟨_, rfl⟩
    obtain ⟨bg, hbg⟩ : ∃ bg, [v0, v1, v2, v3].take next = bg := ⟨_, rfl⟩
    obtain ⟨z0, hz0⟩ : ∃ z0, zs.getD 0 0 = z0 := ⟨_, rfl⟩
    have hQI : ((Lf : Int) / (q : Int)).toNat = Q := by rw [← hQ]; exact Int.toNat_natCast (Lf / q)
    have hall : lookF (zs.getD 0 0) (zs.drop next) ([v0, v1, v2, v3].take next) (rod - t) = lookK z0 q r bg Lf (Q + 1) := by
      rw [hd, hLf, hrr, hbg, hz0, lookF_cons, hQI]
    rw [hall] at hlen ⊢
    have hvn : [v0, v1, v2, v3][next]? = some 0 := hv0 next (Nat.le_refl _) (by omega)
    have hmk := hms next q hl
    have hmin : min (rod / (q : Int)) ((rod - t) / (q : Int)) = ((Lf / q : Nat) : Int) := by
      have h1 : (rod - t) / (q : Int) ≤ rod / (q : Int) := Int.ediv_le_ediv (by omega) (by omega)
      have h2 : ((Lf / q : Nat) : Int) = (rod - t) / (q : Int) := by rw [hLf]; rfl
      rw [h2]; omega
    have hQ60 : Lf / q ≤ 60 := Nat.le_trans (Nat.div_le_self Lf q) hL60
    rw [hQ] at hmin hQ60
    have hbb : base ≤ w.heap.size ∧ B < base := by obtain ⟨_, _, _, _, h3, h4, _⟩ := hL; exact ⟨h4, h3⟩
    have HQQ := Lib.hid hQ
    have IH := Lib.hid ih
    have HN := Lib.hid hn
    have HT := Lib.hid ht
    have HLF := Lib.hid hLf
    have HZ := Lib.hid hz
    have HV0 := Lib.hid hv0
    have HVN := Lib.hid hvn
    have HLN := Lib.hid hl
    have HP := Lib.hid hp
    have HMK := Lib.hid hmk
    have HMIN := Lib.hid hmin
    have HX := Lib.hid hX
    have HLEN := Lib.hid hlen
    have HRR := Lib.hid hrr
    have HBG := Lib.hid hbg
    have HZ0 := Lib.hid hz0
    have hBL := ((Below.refl w.heap.size w).alloc (Nat.le_refl _) (.cells #[.int .i64 rod, .slice A n c, .int .i64 m0, .int .i64 m1, .int .i64 m2, .int .i64 m3] 40)).alloc (by simp) (.cells #[.int .i64 v0, .int .i64 v1, .int .i64 v2, .int .i64 v3] 38)
    have HCT := Lib.hid (CutAt.of (w := (w.alloc (.cells #[.int .i64 rod, .slice A n c, .int .i64 m0, .int .i64 m1, .int .i64 m2, .int .i64 m3] 40)).alloc (.cells #[.int .i64 v0, .int .i64 v1, .int .i64 v2, .int .i64 v3] 38)) (g := w.heap.size) (T := 40) ((alloc_old _ (by simp) _).trans (new_at _ _ rfl)))
    have HPT := Lib.hid (show Arr ((w.alloc (.cells #[.int .i64 rod, .slice A n c, .int .i64 m0, .int .i64 m1, .int .i64 m2, .int .i64 m3] 40)).alloc (.cells #[.int .i64 v0, .int .i64 v1, .int .i64 v2, .int .i64 v3] 38)) (w.heap.size + 1) 38 [v0, v1, v2, v3] from arr4 (new_at _ _ (by simp)))
    obtain ⟨W, hW⟩ : ∃ W, (w.alloc (.cells #[.int .i64 rod, .slice A n c, .int .i64 m0, .int .i64 m1, .int .i64 m2, .int .i64 m3] 40)).alloc (.cells #[.int .i64 v0, .int .i64 v1, .int .i64 v2, .int .i64 v3] 38) = W := ⟨_, rfl⟩
    have hWs : W.heap.size = w.heap.size + 2 := by rw [← hW]; simp
    rw [hW] at HCT HPT hBL
    have HBL := Lib.hid hBL
    have HL0 := Lib.hid ((hL.more.below hBL).less (Y := fun p => X p ∨ (w.heap.size ≤ p ∧ p < w.heap.size + 2)) (fun p hp => hp.imp id (·.1)))
    have HC0 := Lib.hid ((hBL.block C (heap_lt hC)).trans hC)
    have HS := Lib.hid hs
    have HCW := Lib.hid hC
    have HON := Lib.hid (Only.of_below (S := FarX B base X) hBL (Nat.le_refl _))
    obtain ⟨q0, q1, q2, q3, q4, q5⟩ := HCT.out.six
    have p0 := HPT.out.cell (k := 0) rfl
    have p1 := HPT.out.cell (k := 1) rfl
    have p2 := HPT.out.cell (k := 2) rfl
    have p3 := HPT.out.cell (k := 3) rfl
    have hnn : ((next : Int) == (n : Int)) = false := by rw [beq_eq_false_iff_ne]; omega
    have HW := Lib.hid hW
    clear ih hn ht hLf hz hms hv0 hvn hl hp hmk hmin hd hQ hX hlen hrr hbg hz0 hBL hC hL hs hall hQI hW
    go_enter Try.func53, Try.ntmps53
    go_upto_region 1 with (fail)
    rw [HW.out]
    go_wp2_with fail
    refine (mostMore_any rod A n c m0 m1 m2 m3 v0 v1 v2 v3 zs lo hi W HN.out h4 (HS.out.below HBL.out (by omega)) (by omega) HZ.out HP.out hr t HT.out htr next (by omega) q (rod / (q : Int)) HLN.out HMK.out _ HMIN.out).mono ?_
    rintro e w1 ⟨rfl, hb1⟩
    have HCT1 := Lib.hid (HCT.out.below hb1 HCT.out.lt)
    have HPT1 := Lib.hid (HPT.out.keep (hb1.block _ HPT.out.lt))
    have HL1 := Lib.hid (HL0.out.below hb1)
    have HON1 := Lib.hid (HON.out.trans (Only.of_below hb1 (Nat.le_refl _)))
    have HSZ1 := Lib.hid hb1.size
    clear hb1 q0 q1 q2 q3 q4 q5 p0 p1 p2 p3
    go_wp2
    go_loopw [21] (fun i wr => ∃ x : Nat, x ≤ Q + 1 ∧ i = .int .i64 x ∧ Only (FarX B base X) w wr ∧ Lst wr B T base (fun p => X p ∨ (w.heap.size ≤ p ∧ p < w.heap.size + 2)) (L ++ lookK z0 q r bg Lf x) ∧ CutAt wr w.heap.size 40 rod A n c [m0, m1, m2, m3] ∧ Arr wr (w.heap.size + 1) 38 ([v0, v1, v2, v3].set next (x : Int))) (fun i _ => Q + 1 - (intOf i).toNat)
    case atStart => exact ⟨0, Nat.zero_le _, rfl, HON1.out, by rw [lookK_zero, List.append_nil]; exact HL1.out, HCT1.out, by rw [show ((0 : Nat) : Int) = 0 from rfl, set_same HVN.out]; exact HPT1.out⟩
    case round =>
      obtain ⟨x, hx, rfl, ho, hlx, hct, har⟩ := hrel
      by_cases hlt : x ≤ Q
      · have hxq : x * q ≤ Lf := Nat.le_trans (Nat.mul_le_mul_right q (by rw [HQQ.out]; exact hlt)) (Nat.div_mul_le_self Lf q)
        obtain ⟨u0, u1, u2, u3, hus⟩ := ints_4 (l := [v0, v1, v2, v3].set next (x : Int)) (by simp)
        have hut : usedTo zs [u0, u1, u2, u3] n = t + (x : Int) * (q : Int) := by
          rw [← hus, usedTo_set HVN.out, HT.out, if_pos (by omega)]
          have : zs.getD next 0 = (q : Int) := by simp [List.getD, HLN.out]
          rw [this]
        have hur : t + (x : Int) * (q : Int) ≤ rod := by
          have h1 : (x : Int) * (q : Int) = ((x * q : Nat) : Int) := by simp
          have := HLF.out
          omega
        have hul : rod - (t + (x : Int) * (q : Int)) = (Lf : Int) - (x : Int) * (q : Int) := by
          have := HLF.out
          omega
        have hx60 : (x : Int) ≤ 60 := by omega
        have hup : ∀ (i : Nat) u, [u0, u1, u2, u3][i]? = some u → 0 ≤ u ∧ u ≤ 60 := by
          intro i u hu
          rw [← hus, List.getElem?_set] at hu
          split at hu
          · split at hu
            · injection hu with hu; omega
            · cases hu
          · exact HP.out i u hu
        have hu0 : ∀ i : Nat, next + 1 ≤ i → i < 4 → [u0, u1, u2, u3][i]? = some 0 := by
          intro i h1 h2
          rw [← hus, List.getElem?_set, if_neg (by omega)]
          exact HV0.out i (by omega) h2
        have hbx : [u0, u1, u2, u3].take (next + 1) = bg ++ [(x : Int)] := by
          rw [← hus, take_setF (by omega), HBG.out]
        have hlk := lookK_succ z0 q r bg Lf x
        have HLK := Lib.hid (show lookF (zs.getD 0 0) (zs.drop (next + 1)) ([u0, u1, u2, u3].take (next + 1)) (rod - (t + (x : Int) * (q : Int))) = lookF z0 r (bg ++ [(x : Int)]) (Lf - x * q) by rw [HZ0.out, HRR.out, hbx, hul])
        have HLX := Lib.hid (show (L ++ lookK z0 q r bg Lf x).length + (lookF z0 r (bg ++ [(x : Int)]) (Lf - x * q)).length ≤ 4194303 by
          have h1 := lookK_mono (z0 := z0) (q := q) (r := r) (beg := bg) (L := Lf) (show x + 1 ≤ Q + 1 by omega)
          rw [hlk, List.length_append] at h1
          rw [List.length_append]
          have := HLEN.out
          omega)
        have HNX := Lib.hid (show L ++ lookK z0 q r bg Lf (x + 1) = L ++ lookK z0 q r bg Lf x ++ lookF z0 r (bg ++ [(x : Int)]) (Lf - x * q) by rw [hlk, List.append_assoc])
        have hCx : wr.heap[C]? = some (.cells #[.int .i64 rod, .slice A n c, .int .i64 m0, .int .i64 m1, .int .i64 m2, .int .i64 m3] 40 (0, 0)) := (ho.block C (heap_lt HCW.out) (fun h => by rcases h with h | h; exact hCB h; omega)).trans HCW.out
        have HCX := Lib.hid hCx
        have HUT := Lib.hid hut
        have HO := Lib.hid ho
        have HCTR := Lib.hid hct
        rw [hus] at har
        have HAR := Lib.hid har
        have HUS := Lib.hid hus
        have HUP := Lib.hid hup
        have HU0 := Lib.hid hu0
        have HLR := Lib.hid hlx
        have hzr := ho.size
        have harl := har.lt
        obtain ⟨q0, q1, q2, q3, q4, q5⟩ := hct.six
        have p0 := har.cell (k := 0) rfl
        have p1 := har.cell (k := 1) rfl
        have p2 := har.cell (k := 2) rfl
        have p3 := har.cell (k := 3) rfl
        clear hut hul hlx hct har hus hup hu0 hbx hlk hCx ho
        have hxQ : (x : Int) < 1 + (Q : Int) := by omega
        go_wp2_with fail
        refine (IH.out (next + 1) u0 u1 u2 u3 (t + (x : Int) * (q : Int)) (fun p => X p ∨ (w.heap.size ≤ p ∧ p < w.heap.size + 2)) (L ++ lookK z0 q r bg Lf x) wr (by omega) (HS.out.only HO.out (by omega) (fun g hg => by rcases hg with h | h <;> omega)) HUP.out HUT.out hur HU0.out HCX.out HLR.out (fun p hp => by rcases hp with h | h; (have := HX.out p h; omega); omega) (by rw [HLK.out]; exact HLX.out)).mono ?_
        rintro e w2 ⟨rfl, hl2, ho2⟩
        rw [HLK.out] at hl2
        have hz2 := ho2.size
        have har2 : Arr w2 (w.heap.size + 1) 38 [u0, u1, u2, u3] := HAR.out.keep (ho2.block _ HAR.out.lt (fun h => by rcases h with h | h; omega; exact h.2 (.inr (by omega))))
        have hct2 : CutAt w2 w.heap.size 40 rod A n c [m0, m1, m2, m3] := HCTR.out.only ho2 (fun h => by rcases h with h | h; omega; exact h.2 (.inr (by omega)))
        have hn4' : next < 4 := by omega
        have hcn := har2.cell (k := next) (u := (x : Int)) (by rw [← HUS.out]; exact List.getElem?_set_self (by simpa using hn4'))
        have hfn := har2.frozen next
        have hst := har2.set next (((x + 1 : Nat) : Int))
        rw [← HUS.out, List.set_set] at hst
        have HST := Lib.hid hst
        have HCS := Lib.hid (hct2.far (p := ⟨w.heap.size + 1, next, none⟩) (by simp) (.int .i64 ((x + 1 : Nat) : Int)))
        have HBS := Lib.hid (hl2.set (p := ⟨w.heap.size + 1, next, none⟩) (.inr (by simp)) (.int .i64 ((x + 1 : Nat) : Int)))
        have HOS := Lib.hid ((HO.out.trans (ho2.mono (farX_mono (fun p hp => .inl hp)))).setNew (p := ⟨w.heap.size + 1, next, none⟩) (Nat.le_succ _) (.int .i64 ((x + 1 : Nat) : Int)))
        have hn4i : (next : Int) < 4 := by omega
        clear har2 hct2 hst hl2 ho2 q0 q1 q2 q3 q4 q5 p0 p1 p2 p3
        go_wp2
        go_roundw
        case rel => (first | exact ⟨x + 1, by omega, by go_num, HOS.out, by rw [HNX.out]; exact HBS.out, HCS.out, HST.out⟩ | ((repeat apply Exists.intro); refine ⟨?_, rfl⟩; exact ⟨x + 1, by omega, by go_num, HOS.out, by rw [HNX.out]; exact HBS.out, HCS.out, HST.out⟩))
        case measure => simp [intOf]; omega
      · obtain rfl : x = Q + 1 := by omega
        have HLR := Lib.hid (hlx.less (Y := X) (fun p hp => .inl hp))
        have HO := Lib.hid ho
        clear hlx ho hct har
        go_wp2
        go_end0
        exact ⟨rfl, HLR.out, HO.out⟩
end Go.Proofs.Ytoheoojpmndhoab

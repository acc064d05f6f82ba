/-
  The written program's walk through the patterns, that counts them.
  Conditions: the list has at most 1048576 numbers.
-/
import Derived.Test.YthlhpddfifpkeaaWaysI
namespace Go.Proofs.Ythlhpddfifpkeaa
set_option linter.unusedVariables false
open Go.RowKit

theorem CutAt.only {S : Nat → Prop} {w w' : World} {g T : Nat} {rod : Int} {A : Option Addr} {n c : Nat} {ms : List Int} (h : CutAt w g T rod A n c ms) (ho : Only S w w') (hs : ¬ S g) : CutAt w' g T rod A n c ms := h.keep (ho.block g h.lt hs)

theorem rem_bd {l : Nat} (hl : 0 < l) (C : Nat → Int) (L x : Nat) (hC : ∀ m, m ≤ L → 0 ≤ C m) : 0 ≤ remN l C L (x + 1) ∧ remN l C L x ≤ sumR l C L := by
  have hn : ∀ m, m ≤ L → 0 ≤ sumR l C m := by
    intro m
    induction m using Nat.strongRecOn with
    | _ m ih =>
      intro hm
      by_cases h : l ≤ m
      · rw [sumR_at hl h]
        have := ih (m - l) (by omega) (by omega)
        have := hC m hm
        omega
      · rw [sumR_less (by omega)]; exact hC m hm
  have hnn : ∀ y, 0 ≤ remN l C L y := fun y => by
    unfold remN
    split
    · exact hn _ (by omega)
    · exact Int.le_refl _
  refine ⟨hnn _, ?_⟩
  induction x with
  | zero => rw [remN_zero]; exact Int.le_refl _
  | succ x ih =>
    by_cases h : x ≤ L / l
    · have := remN_step hl C L x h
      have := hC (L - x * l) (by omega)
      omega
    · rw [remN_last (by omega)]
      exact hn L (Nat.le_refl _)

theorem Only.setNew {S : Nat → Prop} {w w' : World} (h : Only S w w') {p : Addr} (hp : w.heap.size ≤ p.block) (u : Value) : Only S w (w'.setCell p u) :=
  ⟨h.os, h.tape, h.output, by simp [World.setCell]; exact h.size, fun k hk hs => (Below.heap_setCell w' p u k (by omega)).trans (h.block k hk hs)⟩

theorem set_same {l : List Int} {k : Nat} {u : Int} (h : l[k]? = some u) : l.set k u = l := by
  apply List.ext_getElem?
  intro i
  rw [List.getElem?_set]
  by_cases e : k = i
  · subst e
    rw [if_pos rfl, h, if_pos (List.getElem?_eq_some_iff.1 h).1]
  · rw [if_neg e]

set_option maxRecDepth 100000 in
set_option maxHeartbeats 2000000 in
theorem walkOn_count (rod : Int) (A : Option Addr) (n c : Nat) (m0 m1 m2 m3 : Int) (zs : List Int) (lo hi : Nat) (hn : zs.length = n) (h4 : n ≤ 4) (hz : ∀ (k : Nat) u, zs[k]? = some u → 1 ≤ u ∧ u ≤ 60) (hr : 1 ≤ rod ∧ rod ≤ 60)
    (hms : ∀ (k : Nat) z, zs[k]? = some z → [m0, m1, m2, m3][k]? = some (rod / z)) (k : Nat) :
    ∀ (next : Nat) (v0 v1 v2 v3 t cnt : Int) (B T : Nat) (w : World), next + k = n → Seg w lo hi A zs → hi ≤ w.heap.size → (∀ (i : Nat) u, [v0, v1, v2, v3][i]? = some u → 0 ≤ u ∧ u ≤ 60) → usedTo zs [v0, v1, v2, v3] n = t → t ≤ rod →
      (∀ i : Nat, next ≤ i → i < 4 → [v0, v1, v2, v3][i]? = some 0) → w.heap[B]? = some (.cells #[.int .i64 cnt] T (0, 0)) → hi ≤ B → 0 ≤ cnt → cnt + cntG (fun _ => 1) ((zs.drop next).map Int.toNat) (rod - t).toNat ≤ 13845841 →
      Calls Try.prog 80 #[.agg #[.int .i64 rod, .slice A n c, .int .i64 m0, .int .i64 m1, .int .i64 m2, .int .i64 m3], .agg #[.int .i64 v0, .int .i64 v1, .int .i64 v2, .int .i64 v3], .int .i64 (next : Int), .func (.func 66) #[] #[.pointer (some ⟨B, 0, none⟩)]] w (RetN (cnt + cntG (fun _ => 1) ((zs.drop next).map Int.toNat) (rod - t).toNat) B T w) := by
  induction k with
  | zero =>
    intro next v0 v1 v2 v3 t cnt B T w hkn hs hB hp ht htr hv0 hb hiB hc0 hc1
    obtain rfl : n = next := by omega
    have e1 : cntG (fun _ => 1) ((zs.drop n).map Int.toNat) (rod - t).toNat = 1 := by
      rw [List.drop_of_length_le (by omega)]; rfl
    rw [e1] at hc1 ⊢
    have hcb : 0 ≤ cnt ∧ cnt ≤ 13845841 := by omega
    have HCT := Lib.hid (CutAt.of (w := (w.alloc (.cells #[.int .i64 rod, .slice A n c, .int .i64 m0, .int .i64 m1, .int .i64 m2, .int .i64 m3] 48)).alloc (.cells #[.int .i64 v0, .int .i64 v1, .int .i64 v2, .int .i64 v3] 46)) (g := w.heap.size) (T := 48) ((alloc_old _ (by simp) _).trans (new_at _ _ rfl)))
    have HBB := Lib.hid ((alloc_old _ (by rw [World.size_alloc]; exact Nat.lt_succ_of_lt (heap_lt hb)) (.cells #[.int .i64 v0, .int .i64 v1, .int .i64 v2, .int .i64 v3] 46)).trans ((alloc_old w (heap_lt hb) (.cells #[.int .i64 rod, .slice A n c, .int .i64 m0, .int .i64 m1, .int .i64 m2, .int .i64 m3] 48)).trans hb))
    obtain ⟨q0, q1, q2, q3, q4, q5⟩ := HCT.out.six
    obtain ⟨p0, p1, p2, p3⟩ := Pat4.of (w := (w.alloc (.cells #[.int .i64 rod, .slice A n c, .int .i64 m0, .int .i64 m1, .int .i64 m2, .int .i64 m3] 48)).alloc (.cells #[.int .i64 v0, .int .i64 v1, .int .i64 v2, .int .i64 v3] 46)) (g := w.heap.size + 1) (new_at _ _ (by simp))
    have hnn : ((n : Int) == (n : Int)) = true := by simp
    clear hn hz hms ht hv0 hb hc1 e1
    go_enter Try.func80, Try.ntmps80
    go_wp2_with fail
    refine (count1_any v0 v1 v2 v3 cnt B T _ HBB.out hcb).mono ?_
    rintro e w1 ⟨rfl, hb1, ho1⟩
    have HB1 := Lib.hid hb1
    have HO1 := Lib.hid ((((Only.refl (fun b => b = B) w).alloc (.cells #[.int .i64 rod, .slice A n c, .int .i64 m0, .int .i64 m1, .int .i64 m2, .int .i64 m3] 48)).alloc (.cells #[.int .i64 v0, .int .i64 v1, .int .i64 v2, .int .i64 v3] 46)).trans ho1)
    clear hb1 ho1
    go_wp2
    go_end0
    exact ⟨rfl, HB1.out, HO1.out⟩
  | succ k ih =>
    intro next v0 v1 v2 v3 t cnt B T w hkn hs hB hp ht htr hv0 hb hiB hc0 hc1
    obtain ⟨l, hl⟩ : ∃ l, zs[next]? = some l := ⟨zs[next]'(by omega), List.getElem?_eq_getElem (by omega)⟩
    have hlb := hz next l hl
    obtain ⟨q, rfl⟩ : ∃ q : Nat, l = (q : Int) := ⟨l.toNat, by omega⟩
    have hq1 : 0 < q := by omega
    have htb := usedTo_bd hz hp n
    rw [ht] at htb
    obtain ⟨L, hL⟩ : ∃ L : Nat, rod - t = (L : Int) := ⟨(rod - t).toNat, by omega⟩
    have hL60 : L ≤ 60 := by omega
    have hd : zs.drop next = (q : Int) :: zs.drop (next + 1) := by
      have hlt : next < zs.length := (List.getElem?_eq_some_iff.1 hl).1
      rw [List.drop_eq_getElem_cons hlt]
      have : zs[next] = (q : Int) := by rw [List.getElem?_eq_getElem hlt] at hl; injection hl
      rw [this]
    obtain ⟨C, hC⟩ : ∃ C, cntG (fun _ => 1) ((zs.drop (next + 1)).map Int.toNat) = C := ⟨_, rfl⟩
    have hcg : cntG (fun _ => 1) ((zs.drop next).map Int.toNat) (rod - t).toNat = sumR q C L := by
      rw [hd, hL, List.map_cons, Int.toNat_natCast, Int.toNat_natCast, ← hC]; rfl
    rw [hcg] at hc1 ⊢
    have hCpos : ∀ m, m ≤ 60 → 0 ≤ C m := fun m hm => by
      rw [← hC]
      refine (cnt_bd _ ?_ (by simp; omega) m hm).1
      intro x hx
      obtain ⟨u, hu, rfl⟩ := List.mem_map.1 hx
      obtain ⟨i, hi⟩ := List.getElem?_of_mem (List.mem_of_mem_drop hu)
      have := hz i u hi
      omega
    have hvn : [v0, v1, v2, v3][next]? = some 0 := hv0 next (Nat.le_refl _) (by omega)
    have hmk := hms next q hl
    have hmin : min (rod / (q : Int)) ((rod - t) / (q : Int)) = ((L / q : Nat) : Int) := by
      have h1 : (rod - t) / (q : Int) ≤ rod / (q : Int) := Int.ediv_le_ediv (by omega) (by omega)
      have h2 : ((L / q : Nat) : Int) = (rod - t) / (q : Int) := by rw [hL]; rfl
      rw [h2]; omega
    have hQ60 : L / q ≤ 60 := Nat.le_trans (Nat.div_le_self L q) hL60
    obtain ⟨Q, hQ⟩ : ∃ Q, L / q = Q := ⟨_, rfl⟩
    rw [hQ] at hmin hQ60
    have HQQ := Lib.hid hQ
    have IH := Lib.hid ih
    have HN := Lib.hid hn
    have HT := Lib.hid ht
    have HL := Lib.hid hL
    have HC := Lib.hid hC
    have HZ := Lib.hid hz
    have HMS := Lib.hid hms
    have HV0 := Lib.hid hv0
    have HVN := Lib.hid hvn
    have HLN := Lib.hid hl
    have HP := Lib.hid hp
    have HCP := Lib.hid hCpos
    have HMK := Lib.hid hmk
    have HMIN := Lib.hid hmin
    have hBlt := heap_lt hb
    have HCT := Lib.hid (CutAt.of (w := (w.alloc (.cells #[.int .i64 rod, .slice A n c, .int .i64 m0, .int .i64 m1, .int .i64 m2, .int .i64 m3] 48)).alloc (.cells #[.int .i64 v0, .int .i64 v1, .int .i64 v2, .int .i64 v3] 46)) (g := w.heap.size) (T := 48) ((alloc_old _ (by simp) _).trans (new_at _ _ rfl)))
    have HPT := Lib.hid (show Arr ((w.alloc (.cells #[.int .i64 rod, .slice A n c, .int .i64 m0, .int .i64 m1, .int .i64 m2, .int .i64 m3] 48)).alloc (.cells #[.int .i64 v0, .int .i64 v1, .int .i64 v2, .int .i64 v3] 46)) (w.heap.size + 1) 46 [v0, v1, v2, v3] from arr4 (new_at _ _ (by simp)))
    have HBB := Lib.hid ((alloc_old _ (by rw [World.size_alloc]; exact Nat.lt_succ_of_lt hBlt) (.cells #[.int .i64 v0, .int .i64 v1, .int .i64 v2, .int .i64 v3] 46)).trans ((alloc_old w hBlt (.cells #[.int .i64 rod, .slice A n c, .int .i64 m0, .int .i64 m1, .int .i64 m2, .int .i64 m3] 48)).trans hb))
    have HON := Lib.hid (((Only.refl (fun b => b = B) w).alloc (.cells #[.int .i64 rod, .slice A n c, .int .i64 m0, .int .i64 m1, .int .i64 m2, .int .i64 m3] 48)).alloc (.cells #[.int .i64 v0, .int .i64 v1, .int .i64 v2, .int .i64 v3] 46))
    have HBL := Lib.hid (((Below.refl w.heap.size w).alloc (Nat.le_refl _) (.cells #[.int .i64 rod, .slice A n c, .int .i64 m0, .int .i64 m1, .int .i64 m2, .int .i64 m3] 48)).alloc (by simp) (.cells #[.int .i64 v0, .int .i64 v1, .int .i64 v2, .int .i64 v3] 46))
    obtain ⟨W, hW⟩ : ∃ W, (w.alloc (.cells #[.int .i64 rod, .slice A n c, .int .i64 m0, .int .i64 m1, .int .i64 m2, .int .i64 m3] 48)).alloc (.cells #[.int .i64 v0, .int .i64 v1, .int .i64 v2, .int .i64 v3] 46) = W := ⟨_, rfl⟩
    have hWs : W.heap.size = w.heap.size + 2 := by rw [← hW]; simp
    rw [hW] at HCT HPT HBB HON HBL
    obtain ⟨q0, q1, q2, q3, q4, q5⟩ := HCT.out.six
    have p0 := HPT.out.cell (k := 0) rfl
    have p1 := HPT.out.cell (k := 1) rfl
    have p2 := HPT.out.cell (k := 2) rfl
    have p3 := HPT.out.cell (k := 3) rfl
    have HWS := Lib.hid hWs
    have hnn : ((next : Int) == (n : Int)) = false := by rw [beq_eq_false_iff_ne]; omega
    clear ih hn ht hL hC hz hms hv0 hvn hl hp hCpos hmk hmin hb hd hcg hWs hQ
    go_enter Try.func80, Try.ntmps80
    go_wp2_with fail
    refine (mostMore_any rod A n c m0 m1 m2 m3 v0 v1 v2 v3 zs lo hi W HN.out h4 (hs.below HBL.out hB) (by have := HWS.out; omega) HZ.out HP.out hr t HT.out htr next (by omega) q (rod / (q : Int)) HLN.out HMK.out _ HMIN.out).mono ?_
    rintro e w1 ⟨rfl, hb1⟩
    have HCT1 := Lib.hid (HCT.out.below hb1 HCT.out.lt)
    have HPT1 := Lib.hid (HPT.out.keep (hb1.block _ HPT.out.lt))
    have HBB1 := Lib.hid ((hb1.block B (heap_lt HBB.out)).trans HBB.out)
    have HON1 := Lib.hid (HON.out.trans (Only.of_below hb1 (Nat.le_refl _)))
    have HSZ1 := Lib.hid hb1.size
    clear hb1 q0 q1 q2 q3 q4 q5 p0 p1 p2 p3 hW
    go_wp2
    go_loopw [21] (fun i wr => ∃ x : Nat, x ≤ Q + 1 ∧ i = .int .i64 x ∧ Only (fun b => b = B) w wr ∧ wr.heap[B]? = some (.cells #[.int .i64 (cnt + (sumR q C L - remN q C L x))] T (0, 0)) ∧ CutAt wr w.heap.size 48 rod A n c [m0, m1, m2, m3] ∧ Arr wr (w.heap.size + 1) 46 ([v0, v1, v2, v3].set next (x : Int))) (fun i _ => Q + 1 - (intOf i).toNat)
    case atStart => exact ⟨0, Nat.zero_le _, rfl, HON1.out, by rw [remN_zero, Int.sub_self, Int.add_zero]; exact HBB1.out, HCT1.out, by rw [show ((0 : Nat) : Int) = 0 from rfl, set_same HVN.out]; exact HPT1.out⟩
    case round =>
      obtain ⟨x, hx, rfl, ho, hbk, hct, har⟩ := hrel
      by_cases hlt : x ≤ Q
      · have hxq : x * q ≤ L := Nat.le_trans (Nat.mul_le_mul_right q (by rw [HQQ.out]; exact hlt)) (Nat.div_mul_le_self L q)
        have hstep := remN_step hq1 C L x (by rw [HQQ.out]; exact hlt)
        obtain ⟨u0, u1, u2, u3, hus⟩ := ints_4 (l := [v0, v1, v2, v3].set next (x : Int)) (by simp)
        have hut : usedTo zs [u0, u1, u2, u3] n = t + (x : Int) * (q : Int) := by
          rw [← hus, usedTo_set HVN.out, HT.out, if_pos (by omega)]
          have : zs.getD next 0 = (q : Int) := by simp [List.getD, HLN.out]
          rw [this]
        have hur : t + (x : Int) * (q : Int) ≤ rod := by
          have h1 : (x : Int) * (q : Int) = ((x * q : Nat) : Int) := by simp
          have := HL.out
          omega
        have hul : (rod - (t + (x : Int) * (q : Int))).toNat = L - x * q := by
          have h1 : (x : Int) * (q : Int) = ((x * q : Nat) : Int) := by simp
          have := HL.out
          omega
        have hx60 : (x : Int) ≤ 60 := by omega
        have hup : ∀ (i : Nat) u, [u0, u1, u2, u3][i]? = some u → 0 ≤ u ∧ u ≤ 60 := by
          intro i u hu
          rw [← hus, List.getElem?_set] at hu
          split at hu
          · split at hu
            · injection hu with hu; omega
            · cases hu
          · exact HP.out i u hu
        have hu0 : ∀ i : Nat, next + 1 ≤ i → i < 4 → [u0, u1, u2, u3][i]? = some 0 := by
          intro i h1 h2
          rw [← hus, List.getElem?_set, if_neg (by omega)]
          exact HV0.out i (by omega) h2
        have hcx := HCP.out (L - x * q) (by omega)
        have hrp : 0 ≤ remN q C L (x + 1) ∧ remN q C L x ≤ sumR q C L := rem_bd hq1 C L x (fun m hm => HCP.out m (by omega))
        obtain ⟨rx, hrx⟩ : ∃ rx, remN q C L x = rx := ⟨_, rfl⟩
        obtain ⟨ry, hry⟩ : ∃ ry, remN q C L (x + 1) = ry := ⟨_, rfl⟩
        obtain ⟨cx, hcx'⟩ : ∃ cx, C (L - x * q) = cx := ⟨_, rfl⟩
        rw [hrx] at hbk hstep hrp
        rw [hry] at hstep hrp
        rw [hcx'] at hstep hcx
        have HUT := Lib.hid hut
        have HUL := Lib.hid hul
        have HRY := Lib.hid hry
        have HCX := Lib.hid hcx'
        have HBK := Lib.hid hbk
        have HO := Lib.hid ho
        have HCTR := Lib.hid hct
        rw [hus] at har
        have HAR := Lib.hid har
        have HUS := Lib.hid hus
        have HUP := Lib.hid hup
        have HU0 := Lib.hid hu0
        obtain ⟨q0, q1, q2, q3, q4, q5⟩ := hct.six
        have p0 := har.cell (k := 0) rfl
        have p1 := har.cell (k := 1) rfl
        have p2 := har.cell (k := 2) rfl
        have p3 := har.cell (k := 3) rfl
        clear hut hul hrx hry hcx' hbk hct har hus hup hu0
        have hxQ : (x : Int) < 1 + (Q : Int) := by omega
        go_wp2_with fail
        refine (IH.out (next + 1) u0 u1 u2 u3 (t + (x : Int) * (q : Int)) (cnt + (sumR q C L - rx)) B T wr (by omega) (hs.only ho (by omega) (fun g hg => by have : g = B := hg; omega)) (by have := ho.size; omega) HUP.out HUT.out hur HU0.out HBK.out hiB (by omega) (by rw [HC.out, HUL.out, HCX.out]; omega)).mono ?_
        rw [HC.out, HUL.out, HCX.out]
        rintro e w2 ⟨rfl, hb2, ho2⟩
        have hbn : cnt + (sumR q C L - rx) + cx = cnt + (sumR q C L - ry) := by omega
        rw [hbn] at hb2
        have hB2 : B < w.heap.size := hBlt
        have har2 : Arr w2 (w.heap.size + 1) 46 [u0, u1, u2, u3] := HAR.out.keep (ho2.block _ HAR.out.lt (fun h => by have h' : w.heap.size + 1 = B := h; omega))
        have hct2 : CutAt w2 w.heap.size 48 rod A n c [m0, m1, m2, m3] := HCTR.out.only ho2 (fun h => by have h' : w.heap.size = B := h; omega)
        have hn4' : next < 4 := by omega
        have hcn := har2.cell (k := next) (u := (x : Int)) (by rw [← HUS.out]; exact List.getElem?_set_self (by simpa using hn4'))
        have hfn := har2.frozen next
        have hst := har2.set next (((x + 1 : Nat) : Int))
        rw [← HUS.out, List.set_set] at hst
        have HST := Lib.hid hst
        have HCS := Lib.hid (hct2.far (p := ⟨w.heap.size + 1, next, none⟩) (by simp) (.int .i64 ((x + 1 : Nat) : Int)))
        have HBS := Lib.hid ((set_far w2 (g := B) (p := ⟨w.heap.size + 1, next, none⟩) (by show B ≠ w.heap.size + 1; omega) (.int .i64 ((x + 1 : Nat) : Int))).trans hb2)
        have HOS := Lib.hid ((HO.out.trans ho2).setNew (p := ⟨w.heap.size + 1, next, none⟩) (Nat.le_succ _) (.int .i64 ((x + 1 : Nat) : Int)))
        have HRY2 := Lib.hid HRY.out
        have hn4i : (next : Int) < 4 := by omega
        clear har2 hct2 hst hb2 ho2 hbn q0 q1 q2 q3 q4 q5 p0 p1 p2 p3
        go_wp2
        go_roundw
        case rel => (first | exact ⟨x + 1, by omega, by go_num, HOS.out, by rw [HRY2.out]; exact HBS.out, HCS.out, HST.out⟩ | ((repeat apply Exists.intro); refine ⟨?_, rfl⟩; exact ⟨x + 1, by omega, by go_num, HOS.out, by rw [HRY2.out]; exact HBS.out, HCS.out, HST.out⟩))
        case measure => simp [intOf]; omega
      · obtain rfl : x = Q + 1 := by omega
        rw [remN_last (by rw [HQQ.out]; omega), Int.sub_zero] at hbk
        have HBK := Lib.hid hbk
        have HO := Lib.hid ho
        clear hbk ho hct har
        go_wp2
        go_end0
        exact ⟨rfl, HBK.out, HO.out⟩
end Go.Proofs.Ythlhpddfifpkeaa

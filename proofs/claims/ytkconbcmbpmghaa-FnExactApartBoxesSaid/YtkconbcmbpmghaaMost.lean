/-
  The written program's longest nest, and boxes apart.
  Conditions: the list has at most 1048576 boxes.
-/
import Derived.Test.YtkconbcmbpmghaaMostC
import Derived.Test.YtkconbcmbpmghaaOuter
namespace Go.Proofs.Ytkconbcmbpmghaa
set_option linter.unusedVariables false
open Go.RowKit

/-- The numbers so far, nothing behind them. -/
def belowP (n k : Nat) : List Int := below k ++ List.replicate (n - k) 0
theorem below_snoc (k : Nat) : below (k + 1) = below k ++ [(k : Int)] := by simp [below, List.range_succ]
theorem belowP_set {n k : Nat} (h : k < n) : (belowP n k).set k (k : Int) = belowP n (k + 1) := by
  have hl : (below k).length = k := below_length k
  rw [belowP, List.set_append_right _ _ (by omega), hl, Nat.sub_self, belowP, below_snoc]
  obtain ⟨r, hr⟩ : ∃ r, n - k = r + 1 := ⟨n - k - 1, by omega⟩
  rw [hr, show n - (k + 1) = r by omega, List.replicate_succ, List.set_cons_zero, List.append_assoc]
  rfl
theorem belowP_at {n k : Nat} (h : k < n) : (belowP n k)[k]? = some 0 := by
  have hl : (below k).length = k := below_length k
  rw [belowP, List.getElem?_append_right (by omega), hl, Nat.sub_self, List.getElem?_replicate, if_pos (by omega)]

set_option maxHeartbeats 1000000 in
theorem numbersBelow_any (n : Nat) (w : World) (hn : n ≤ 1048576) :
    Calls Try.prog 75 #[.int .i64 (n : Int)] w fun e w' => ∃ A c, e = .returned (.slice A n c) ∧ Own w' w.heap.size w'.heap.size A (below n) ∧ Below w.heap.size w w' := by
  have hmk := fun W : World => run_make_row' 39 3 (.int .i64 0) 8 Try.underlying39 int_info rfl .i64 .i64 n (by omega) (by omega) W
  have HA0 := Lib.hid (show Arr (w.alloc (.cells (madeCells #[.int .i64 0] n) 3)) w.heap.size 3 (belowP n 0) by
    have h := arr_new w 3 n
    exact h)
  have HB0 := Lib.hid ((Below.refl w.heap.size w).alloc (Nat.le_refl _) (.cells (madeCells #[.int .i64 0] n) 3))
  go_enter Try.func75, Try.ntmps75
  go_wp2
  clear hmk
  go_loopw [9] (fun i wr => ∃ k : Nat, k ≤ n ∧ i = .int .i64 k ∧ Below w.heap.size w wr ∧ Arr wr w.heap.size 3 (belowP n k)) (fun i _ => n - (intOf i).toNat)
  case atStart => exact ⟨0, Nat.zero_le _, rfl, HB0.out, HA0.out⟩
  case round =>
    obtain ⟨k, hk, rfl, hb, harr⟩ := hrel
    by_cases hlt : k < n
    · have hck := harr.cell (belowP_at hlt)
      have hfk := harr.frozen k
      have HST := Lib.hid (belowP_set hlt)
      have HAR := Lib.hid harr
      clear harr
      go_wp2
      go_roundw
      case rel => exact ⟨k + 1, by omega, by go_num, hb.setCell (Nat.le_refl _) _, by rw [← HST.out]; exact HAR.out.set k _⟩
      case measure => simp [intOf]; omega
    · obtain rfl : k = n := by omega
      go_wp2
      go_ret
      have e : belowP k k = below k := by rw [belowP, Nat.sub_self]; simp
      rw [e] at harr
      exact ⟨_, k, rfl, harr.own (Nat.le_refl _) harr.lt, hb⟩

set_option maxRecDepth 100000 in
set_option maxHeartbeats 4000000 in
theorem mostL_any (gb : Nat) (A : Option Addr) (n c : Nat) (bs : List (Int × Int × Int)) (hn : bs.length = n) (f : Nat) :
    ∀ (ns : List Int) (B : Option Addr) (m d : Nat) (lo hi lo' hi' : Nat) (w : World), ns.length = m → m ≤ f → f ≤ 1000 → (∀ x ∈ ns, 0 ≤ x ∧ x < (n : Int)) → Seg w lo' hi' B ns → hi' ≤ w.heap.size → Seg w lo hi A (flat3 bs) → hi ≤ w.heap.size →
      w.cell? ⟨gb, 0, none⟩ = some (.slice A n c) →
      Calls Try.prog 74 #[.slice B m d, .func (.func 76) #[] #[.pointer (some ⟨gb, 0, none⟩)]] w fun e w' => ∃ A' n' c', e = .returned (.slice A' n' c') ∧ (mostT (togL bs) f ns).length = n' ∧ Own w' w.heap.size w'.heap.size A' (mostT (togL bs) f ns) ∧ Below w.heap.size w w' := by
  induction f with
  | zero =>
    intro ns B m d lo hi lo' hi' w hm hmf hf7 hx hs hB hsb hBb hgc
    obtain rfl : m = 0 := by omega
    clear hm hx hs hsb hgc
    go_enter Try.func74, Try.ntmps74
    go_wp2
    go_loopw [5, 14] (fun v i wr => v = .slice none 0 0 ∧ i = .int .i64 0 ∧ wr = w) (fun _ _ _ => 0)
    case atStart => exact ⟨rfl, rfl, rfl⟩
    case round =>
      obtain ⟨rfl, rfl, rfl⟩ := hrel
      go_wp2
      go_ret
      exact ⟨none, 0, 0, rfl, rfl, Own.nil_, Below.refl _ _⟩
  | succ f ih =>
    intro ns B m d lo hi lo' hi' w hm hmf hf7 hx hs hB hsb hBb hgc
    obtain ⟨i0, hi0, hz0, hz1, hz2⟩ := info_parts int_info
    have HM := Lib.hid hm
    have HX := Lib.hid hx
    have HIH := Lib.hid ih
    have HS := Lib.hid hs
    have HSB := Lib.hid hsb
    have HGC := Lib.hid hgc
    have HML := Lib.hid (mostT_length (togL bs))
    have hgb : gb < w.heap.size := by have := cell_lt hgc; exact this
    obtain ⟨G, hG⟩ : ∃ G, (fun k => mostT (togL bs) f (ns.filter ((togL bs) k))) = G := ⟨_, rfl⟩
    have HG := Lib.hid (fun k => congrFun hG k)
    have HFIN := Lib.hid (show mostT (togL bs) (f + 1) ns = ns.foldl (stepW G) [] by rw [← hG]; rfl)
    have HGL := Lib.hid (show ∀ k, (G k).length ≤ f from fun k => by rw [← hG]; exact mostT_length _ _ _)
    clear hm hx ih hs hsb hgc hG
    go_enter Try.func74, Try.ntmps74
    go_wp2
    go_loopw [5, 14] (fun v i wr => ∃ t : Nat, t ≤ m ∧ i = .int .i64 (t : Int) ∧ Below w.heap.size w wr ∧ ∃ os, (ns.take t).foldl (stepW G) [] = os ∧ wr.ownsRow w.heap.size 3 1 v os.length (os.map (Value.int .i64))) (fun _ i _ => m - (intOf i).toNat)
    case atStart => exact ⟨0, Nat.zero_le _, rfl, Below.refl _ _, [], rfl, World.ownsRow_nil _ _ _ _⟩
    case round =>
      obtain ⟨t, ht, rfl, hb, os, hos, hown⟩ := hrel
      obtain ⟨WO, hWO⟩ : ∃ WO, WO = wr := ⟨_, rfl⟩
      subst hWO
      have hz := hb.size
      have HB := Lib.hid hb
      have HOS := Lib.hid hos
      have hol : os.length ≤ f + 1 := by rw [← hos]; exact foldW_length HGL.out _ _ (by simp)
      have HOW := Lib.hid hown
      obtain ⟨Am, cm, rfl⟩ := ownsRow_form hown
      by_cases hlt : t < m
      · obtain ⟨b, off, k, rfl, _, hbh, hk, hck⟩ := HS.out.at_ (k := t) (by rw [HM.out]; exact hlt)
        have hck1 : WO.cell? ⟨b, off + t, none⟩ = some (.int .i64 k) := (hb.cell (by exact Nat.lt_of_lt_of_le hbh hB)).trans hck
        have HK := Lib.hid hk
        have hkr := HX.out k (List.mem_of_getElem? hk)
        have HST := Lib.hid (stepW_take G hk)
        have HLESS := Lib.hid (filter_less (p := (togL bs) k) (List.mem_of_getElem? hk) (togL_self bs k))
        clear hk hck hos hown
        go_wp2
        go_loopw [8, 20] (fun v i wx => ∃ s : Nat, s ≤ m ∧ i = .int .i64 (s : Int) ∧ Below WO.heap.size WO wx ∧ ∃ qs, (ns.take s).filter ((togL bs) k) = qs ∧ wx.ownsRow WO.heap.size 3 1 v qs.length (qs.map (Value.int .i64))) (fun _ i _ => m - (intOf i).toNat)
        case atStart => exact ⟨0, Nat.zero_le _, rfl, Below.refl _ _, [], rfl, World.ownsRow_nil _ _ _ _⟩
        case round =>
          obtain ⟨s, hs', rfl, hbx, qs, hqs, hownx⟩ := hrel
          have hbw := hb.trans (hbx.mono hz)
          have hzx := hbx.size
          have HQS := Lib.hid hqs
          have HOX := Lib.hid hownx
          have HBX := Lib.hid hbx
          have HBW := Lib.hid hbw
          have hql : qs.length ≤ s := by
            rw [← hqs]
            have := List.length_filter_le ((togL bs) k) (ns.take s)
            rw [List.length_take] at this
            omega
          by_cases hls : s < m
          · obtain ⟨b2, off2, u, hA, _, _, hu, hcu⟩ := (HS.out.below hbw hB).at_ (k := s) (by rw [HM.out]; exact hls)
            obtain ⟨rfl, rfl⟩ : b = b2 ∧ off = off2 := by injection hA with hA; injection hA with h1 h2; exact ⟨h1, h2⟩
            have hur := HX.out u (List.mem_of_getElem? hu)
            have HFT := Lib.hid (filter_take ((togL bs) k) hu)
            obtain ⟨kn, rfl⟩ : ∃ kn : Nat, k = (kn : Int) := ⟨k.toNat, by omega⟩
            obtain ⟨un, rfl⟩ : ∃ un : Nat, u = (un : Int) := ⟨u.toNat, by omega⟩
            obtain ⟨q, hq⟩ : ∃ q, (togL bs) (kn : Int) (un : Int) = q := ⟨_, rfl⟩
            have HQ := Lib.hid hq
            have hgcx := (hbw.cell (by exact hgb)).trans HGC.out
            have HTG := Lib.hid (togL_any gb A n c bs kn un lo hi _ hn (HSB.out.below hbw hBb) hgcx (by omega) (by omega) q hq)
            clear hA hu hq hqs hownx hgcx
            cases q
            · go_wp2_with fail
              refine HTG.out.mono ?_
              rintro e w2 ⟨rfl, hb2⟩
              go_wp2
              go_roundw
              case rel => exact ⟨s + 1, by omega, by go_num, HBX.out.trans (hb2.mono hzx), qs, by rw [HFT.out, HQ.out, HQS.out]; simp, row_below HOX.out hb2⟩
              case measure => simp [intOf]; omega
            · go_wp2_with fail
              refine HTG.out.mono ?_
              rintro e w2 ⟨rfl, hb2⟩
              have hz2' := hb2.size
              have HOA := Lib.hid ((row_below HOX.out hb2).alloc (.cells #[.int .i64 (un : Int)] 3))
              have HS1 := Lib.hid (seg_one w2 (un : Int) 3)
              have HLT := Lib.hid HOX.out.lt
              have HB2 := Lib.hid (HBX.out.trans (hb2.mono hzx))
              go_wp2_with (at_builtin; refine wpList_append_seg _ rfl _ _ 39 rfl WO.heap.size 3 i0 Try.underlying39 hi0 hz0 hz1 hz2 _ qs.length _ rfl HOA.out _ 1 1 [(un : Int)] _ _ rfl rfl HS1.out (by omega) (by simp; omega) ?_; intro v3 w3 hown3 hgr3; have HB3 := Lib.hid ((HB2.out.alloc HB2.out.size _).grown hgr3 (by simp; omega) (fun g' hg' => (HLT.out g' hg').1)); have HO3 := Lib.hid (show w3.ownsRow WO.heap.size 3 1 v3 (qs ++ [(un : Int)]).length ((qs ++ [(un : Int)]).map (Value.int .i64)) by simpa using hown3); clear hown3 hgr3; obtain ⟨A3, c3, rfl⟩ := ownsRow_form HO3.out)
              go_roundw
              case rel =>
                refine ⟨s + 1, by omega, by go_num, HB3.out, qs ++ [(un : Int)], by rw [HFT.out, HQ.out, HQS.out]; simp, ?_⟩
                have h := HO3.out
                rw [List.length_append] at h ⊢
                exact h
              case measure => simp [intOf]; omega
          · obtain rfl : s = m := by omega
            have hall : ns.filter ((togL bs) k) = qs := by rw [← hqs, List.take_of_length_le (by rw [HM.out]; exact Nat.le_refl _)]
            have hless := HLESS.out
            rw [hall, HM.out] at hless
            have HGK := Lib.hid (show mostT (togL bs) f qs = G k by rw [← hall]; exact HG.out k)
            have HQX := Lib.hid (show ∀ x ∈ qs, 0 ≤ x ∧ x < (n : Int) from fun x hx => HX.out x (by rw [← hall] at hx; exact (List.mem_filter.1 hx).1))
            obtain ⟨Aq, cq, rfl⟩ := ownsRow_form hownx
            have HQSEG := Lib.hid (ownsRow_own (ys := qs) hownx).2.seg
            have hgcx := (hbw.cell (by exact hgb)).trans HGC.out
            have HCALL := Lib.hid (HIH.out qs Aq qs.length cq lo hi _ _ _ rfl (by omega) (by omega) HQX.out HQSEG.out (Nat.le_refl _) (HSB.out.below hbw hBb) (by have := hbw.size; omega) hgcx)
            clear hqs hownx hgcx hall
            go_wp2_with fail
            refine HCALL.out.mono ?_
            rw [HGK.out]
            rintro e w2 ⟨Ar, nr, cr, rfl, hlr, hor, hb2⟩
            have hz2' := hb2.size
            have HLR := Lib.hid hlr
            have HB2 := Lib.hid (HBX.out.trans (hb2.mono hzx))
            have HBW2 := Lib.hid (HBW.out.trans (hb2.mono HBW.out.size))
            have hgk := HGL.out k
            rw [hlr] at hgk
            clear hlr
            by_cases hge : os.length ≤ nr
            · have hge' : (os.length : Int) ≤ (nr : Int) := by omega
              have HNX := Lib.hid (show (ns.take (t + 1)).foldl (stepW G) [] = k :: G k by rw [HST.out, HOS.out, stepW_yes (by rw [HLR.out]; exact hge)])
              have HLIT := Lib.hid (World.ownsRow_lit (base := w.heap.size) (e := 3) (size := 1) w2 #[.int .i64 k] 1 (by have := HBW2.out.size; omega) (by decide) rfl)
              have HRS := Lib.hid (hor.seg.below ((Below.refl w2.heap.size w2).alloc (Nat.le_refl _) (.cells #[.int .i64 k] 3)) (Nat.le_refl _))
              clear hor
              go_wp2_with (at_builtin; refine wpList_append_seg _ rfl _ _ 39 rfl w.heap.size 3 i0 Try.underlying39 hi0 hz0 hz1 hz2 _ 1 _ rfl HLIT.out Ar nr cr (G k) _ _ rfl HLR.out HRS.out (by omega) (by have := HBW2.out.size; simp; omega) ?_; intro v3 w3 hown3 hgr3; have HB3 := Lib.hid ((HBW2.out.alloc HBW2.out.size _).grown hgr3 (by have := HBW2.out.size; simp; omega) (fun g' hg' => (HLIT.out.lt g' hg').1)); have HO3 := Lib.hid (show w3.ownsRow w.heap.size 3 1 v3 (1 + nr) ((k :: G k).map (Value.int .i64)) from hown3); clear hown3 hgr3; obtain ⟨A3, c3, rfl⟩ := ownsRow_form HO3.out)
              go_roundw
              case rel =>
                have hlen : (k :: G k).length = 1 + nr := by rw [List.length_cons, HLR.out]; omega
                exact ⟨t + 1, by omega, by go_num, HB3.out, k :: G k, HNX.out, by rw [hlen]; exact HO3.out⟩
              case measure => simp [intOf]; omega
            · have hge' : ¬ (os.length : Int) ≤ (nr : Int) := by omega
              have HNX := Lib.hid (show (ns.take (t + 1)).foldl (stepW G) [] = os by rw [HST.out, HOS.out, stepW_no (by rw [HLR.out]; exact hge)])
              clear hor
              go_wp2
              go_roundw
              case rel => exact ⟨t + 1, by omega, by go_num, HBW2.out, os, HNX.out, row_below (row_below HOW.out HBX.out) hb2⟩
              case measure => simp [intOf]; omega
      · obtain rfl : t = m := by omega
        clear hos hown
        go_wp2
        go_ret
        have e : mostT (togL bs) (f + 1) ns = os := by rw [HFIN.out, ← HOS.out, List.take_of_length_le (by rw [HM.out]; exact Nat.le_refl _)]
        rw [e]
        exact ⟨Am, _, cm, rfl, rfl, (ownsRow_own HOW.out).2, hb⟩

set_option maxRecDepth 100000 in
set_option maxHeartbeats 4000000 in
theorem mostA_any (gb : Nat) (A : Option Addr) (n c : Nat) (bs : List (Int × Int × Int)) (hn : bs.length = n) (f : Nat) :
    ∀ (ns : List Int) (B : Option Addr) (m d : Nat) (lo hi lo' hi' : Nat) (w : World), ns.length = m → m ≤ f → f ≤ 1000 → (∀ x ∈ ns, 0 ≤ x ∧ x < (n : Int)) → Seg w lo' hi' B ns → hi' ≤ w.heap.size → Seg w lo hi A (flat3 bs) → hi ≤ w.heap.size →
      w.cell? ⟨gb, 0, none⟩ = some (.slice A n c) →
      Calls Try.prog 74 #[.slice B m d, .func (.func 78) #[] #[.pointer (some ⟨gb, 0, none⟩)]] w fun e w' => ∃ A' n' c', e = .returned (.slice A' n' c') ∧ (mostT (togA bs) f ns).length = n' ∧ Own w' w.heap.size w'.heap.size A' (mostT (togA bs) f ns) ∧ Below w.heap.size w w' := by
  induction f with
  | zero =>
    intro ns B m d lo hi lo' hi' w hm hmf hf7 hx hs hB hsb hBb hgc
    obtain rfl : m = 0 := by omega
    clear hm hx hs hsb hgc
    go_enter Try.func74, Try.ntmps74
    go_wp2
    go_loopw [5, 14] (fun v i wr => v = .slice none 0 0 ∧ i = .int .i64 0 ∧ wr = w) (fun _ _ _ => 0)
    case atStart => exact ⟨rfl, rfl, rfl⟩
    case round =>
      obtain ⟨rfl, rfl, rfl⟩ := hrel
      go_wp2
      go_ret
      exact ⟨none, 0, 0, rfl, rfl, Own.nil_, Below.refl _ _⟩
  | succ f ih =>
    intro ns B m d lo hi lo' hi' w hm hmf hf7 hx hs hB hsb hBb hgc
    obtain ⟨i0, hi0, hz0, hz1, hz2⟩ := info_parts int_info
    have HM := Lib.hid hm
    have HX := Lib.hid hx
    have HIH := Lib.hid ih
    have HS := Lib.hid hs
    have HSB := Lib.hid hsb
    have HGC := Lib.hid hgc
    have HML := Lib.hid (mostT_length (togA bs))
    have hgb : gb < w.heap.size := by have := cell_lt hgc; exact this
    obtain ⟨G, hG⟩ : ∃ G, (fun k => mostT (togA bs) f (ns.filter ((togA bs) k))) = G := ⟨_, rfl⟩
    have HG := Lib.hid (fun k => congrFun hG k)
    have HFIN := Lib.hid (show mostT (togA bs) (f + 1) ns = ns.foldl (stepW G) [] by rw [← hG]; rfl)
    have HGL := Lib.hid (show ∀ k, (G k).length ≤ f from fun k => by rw [← hG]; exact mostT_length _ _ _)
    clear hm hx ih hs hsb hgc hG
    go_enter Try.func74, Try.ntmps74
    go_wp2
    go_loopw [5, 14] (fun v i wr => ∃ t : Nat, t ≤ m ∧ i = .int .i64 (t : Int) ∧ Below w.heap.size w wr ∧ ∃ os, (ns.take t).foldl (stepW G) [] = os ∧ wr.ownsRow w.heap.size 3 1 v os.length (os.map (Value.int .i64))) (fun _ i _ => m - (intOf i).toNat)
    case atStart => exact ⟨0, Nat.zero_le _, rfl, Below.refl _ _, [], rfl, World.ownsRow_nil _ _ _ _⟩
    case round =>
      obtain ⟨t, ht, rfl, hb, os, hos, hown⟩ := hrel
      obtain ⟨WO, hWO⟩ : ∃ WO, WO = wr := ⟨_, rfl⟩
      subst hWO
      have hz := hb.size
      have HB := Lib.hid hb
      have HOS := Lib.hid hos
      have hol : os.length ≤ f + 1 := by rw [← hos]; exact foldW_length HGL.out _ _ (by simp)
      have HOW := Lib.hid hown
      obtain ⟨Am, cm, rfl⟩ := ownsRow_form hown
      by_cases hlt : t < m
      · obtain ⟨b, off, k, rfl, _, hbh, hk, hck⟩ := HS.out.at_ (k := t) (by rw [HM.out]; exact hlt)
        have hck1 : WO.cell? ⟨b, off + t, none⟩ = some (.int .i64 k) := (hb.cell (by exact Nat.lt_of_lt_of_le hbh hB)).trans hck
        have HK := Lib.hid hk
        have hkr := HX.out k (List.mem_of_getElem? hk)
        have HST := Lib.hid (stepW_take G hk)
        have HLESS := Lib.hid (filter_less (p := (togA bs) k) (List.mem_of_getElem? hk) (togA_self bs k))
        clear hk hck hos hown
        go_wp2
        go_loopw [8, 20] (fun v i wx => ∃ s : Nat, s ≤ m ∧ i = .int .i64 (s : Int) ∧ Below WO.heap.size WO wx ∧ ∃ qs, (ns.take s).filter ((togA bs) k) = qs ∧ wx.ownsRow WO.heap.size 3 1 v qs.length (qs.map (Value.int .i64))) (fun _ i _ => m - (intOf i).toNat)
        case atStart => exact ⟨0, Nat.zero_le _, rfl, Below.refl _ _, [], rfl, World.ownsRow_nil _ _ _ _⟩
        case round =>
          obtain ⟨s, hs', rfl, hbx, qs, hqs, hownx⟩ := hrel
          have hbw := hb.trans (hbx.mono hz)
          have hzx := hbx.size
          have HQS := Lib.hid hqs
          have HOX := Lib.hid hownx
          have HBX := Lib.hid hbx
          have HBW := Lib.hid hbw
          have hql : qs.length ≤ s := by
            rw [← hqs]
            have := List.length_filter_le ((togA bs) k) (ns.take s)
            rw [List.length_take] at this
            omega
          by_cases hls : s < m
          · obtain ⟨b2, off2, u, hA, _, _, hu, hcu⟩ := (HS.out.below hbw hB).at_ (k := s) (by rw [HM.out]; exact hls)
            obtain ⟨rfl, rfl⟩ : b = b2 ∧ off = off2 := by injection hA with hA; injection hA with h1 h2; exact ⟨h1, h2⟩
            have hur := HX.out u (List.mem_of_getElem? hu)
            have HFT := Lib.hid (filter_take ((togA bs) k) hu)
            obtain ⟨kn, rfl⟩ : ∃ kn : Nat, k = (kn : Int) := ⟨k.toNat, by omega⟩
            obtain ⟨un, rfl⟩ : ∃ un : Nat, u = (un : Int) := ⟨u.toNat, by omega⟩
            obtain ⟨q, hq⟩ : ∃ q, (togA bs) (kn : Int) (un : Int) = q := ⟨_, rfl⟩
            have HQ := Lib.hid hq
            have hgcx := (hbw.cell (by exact hgb)).trans HGC.out
            have HTG := Lib.hid (togA_any gb A n c bs kn un lo hi _ hn (HSB.out.below hbw hBb) hgcx (by omega) (by omega) q hq)
            clear hA hu hq hqs hownx hgcx
            cases q
            · go_wp2_with fail
              refine HTG.out.mono ?_
              rintro e w2 ⟨rfl, hb2⟩
              go_wp2
              go_roundw
              case rel => exact ⟨s + 1, by omega, by go_num, HBX.out.trans (hb2.mono hzx), qs, by rw [HFT.out, HQ.out, HQS.out]; simp, row_below HOX.out hb2⟩
              case measure => simp [intOf]; omega
            · go_wp2_with fail
              refine HTG.out.mono ?_
              rintro e w2 ⟨rfl, hb2⟩
              have hz2' := hb2.size
              have HOA := Lib.hid ((row_below HOX.out hb2).alloc (.cells #[.int .i64 (un : Int)] 3))
              have HS1 := Lib.hid (seg_one w2 (un : Int) 3)
              have HLT := Lib.hid HOX.out.lt
              have HB2 := Lib.hid (HBX.out.trans (hb2.mono hzx))
              go_wp2_with (at_builtin; refine wpList_append_seg _ rfl _ _ 39 rfl WO.heap.size 3 i0 Try.underlying39 hi0 hz0 hz1 hz2 _ qs.length _ rfl HOA.out _ 1 1 [(un : Int)] _ _ rfl rfl HS1.out (by omega) (by simp; omega) ?_; intro v3 w3 hown3 hgr3; have HB3 := Lib.hid ((HB2.out.alloc HB2.out.size _).grown hgr3 (by simp; omega) (fun g' hg' => (HLT.out g' hg').1)); have HO3 := Lib.hid (show w3.ownsRow WO.heap.size 3 1 v3 (qs ++ [(un : Int)]).length ((qs ++ [(un : Int)]).map (Value.int .i64)) by simpa using hown3); clear hown3 hgr3; obtain ⟨A3, c3, rfl⟩ := ownsRow_form HO3.out)
              go_roundw
              case rel =>
                refine ⟨s + 1, by omega, by go_num, HB3.out, qs ++ [(un : Int)], by rw [HFT.out, HQ.out, HQS.out]; simp, ?_⟩
                have h := HO3.out
                rw [List.length_append] at h ⊢
                exact h
              case measure => simp [intOf]; omega
          · obtain rfl : s = m := by omega
            have hall : ns.filter ((togA bs) k) = qs := by rw [← hqs, List.take_of_length_le (by rw [HM.out]; exact Nat.le_refl _)]
            have hless := HLESS.out
            rw [hall, HM.out] at hless
            have HGK := Lib.hid (show mostT (togA bs) f qs = G k by rw [← hall]; exact HG.out k)
            have HQX := Lib.hid (show ∀ x ∈ qs, 0 ≤ x ∧ x < (n : Int) from fun x hx => HX.out x (by rw [← hall] at hx; exact (List.mem_filter.1 hx).1))
            obtain ⟨Aq, cq, rfl⟩ := ownsRow_form hownx
            have HQSEG := Lib.hid (ownsRow_own (ys := qs) hownx).2.seg
            have hgcx := (hbw.cell (by exact hgb)).trans HGC.out
            have HCALL := Lib.hid (HIH.out qs Aq qs.length cq lo hi _ _ _ rfl (by omega) (by omega) HQX.out HQSEG.out (Nat.le_refl _) (HSB.out.below hbw hBb) (by have := hbw.size; omega) hgcx)
            clear hqs hownx hgcx hall
            go_wp2_with fail
            refine HCALL.out.mono ?_
            rw [HGK.out]
            rintro e w2 ⟨Ar, nr, cr, rfl, hlr, hor, hb2⟩
            have hz2' := hb2.size
            have HLR := Lib.hid hlr
            have HB2 := Lib.hid (HBX.out.trans (hb2.mono hzx))
            have HBW2 := Lib.hid (HBW.out.trans (hb2.mono HBW.out.size))
            have hgk := HGL.out k
            rw [hlr] at hgk
            clear hlr
            by_cases hge : os.length ≤ nr
            · have hge' : (os.length : Int) ≤ (nr : Int) := by omega
              have HNX := Lib.hid (show (ns.take (t + 1)).foldl (stepW G) [] = k :: G k by rw [HST.out, HOS.out, stepW_yes (by rw [HLR.out]; exact hge)])
              have HLIT := Lib.hid (World.ownsRow_lit (base := w.heap.size) (e := 3) (size := 1) w2 #[.int .i64 k] 1 (by have := HBW2.out.size; omega) (by decide) rfl)
              have HRS := Lib.hid (hor.seg.below ((Below.refl w2.heap.size w2).alloc (Nat.le_refl _) (.cells #[.int .i64 k] 3)) (Nat.le_refl _))
              clear hor
              go_wp2_with (at_builtin; refine wpList_append_seg _ rfl _ _ 39 rfl w.heap.size 3 i0 Try.underlying39 hi0 hz0 hz1 hz2 _ 1 _ rfl HLIT.out Ar nr cr (G k) _ _ rfl HLR.out HRS.out (by omega) (by have := HBW2.out.size; simp; omega) ?_; intro v3 w3 hown3 hgr3; have HB3 := Lib.hid ((HBW2.out.alloc HBW2.out.size _).grown hgr3 (by have := HBW2.out.size; simp; omega) (fun g' hg' => (HLIT.out.lt g' hg').1)); have HO3 := Lib.hid (show w3.ownsRow w.heap.size 3 1 v3 (1 + nr) ((k :: G k).map (Value.int .i64)) from hown3); clear hown3 hgr3; obtain ⟨A3, c3, rfl⟩ := ownsRow_form HO3.out)
              go_roundw
              case rel =>
                have hlen : (k :: G k).length = 1 + nr := by rw [List.length_cons, HLR.out]; omega
                exact ⟨t + 1, by omega, by go_num, HB3.out, k :: G k, HNX.out, by rw [hlen]; exact HO3.out⟩
              case measure => simp [intOf]; omega
            · have hge' : ¬ (os.length : Int) ≤ (nr : Int) := by omega
              have HNX := Lib.hid (show (ns.take (t + 1)).foldl (stepW G) [] = os by rw [HST.out, HOS.out, stepW_no (by rw [HLR.out]; exact hge)])
              clear hor
              go_wp2
              go_roundw
              case rel => exact ⟨t + 1, by omega, by go_num, HBW2.out, os, HNX.out, row_below (row_below HOW.out HBX.out) hb2⟩
              case measure => simp [intOf]; omega
      · obtain rfl : t = m := by omega
        clear hos hown
        go_wp2
        go_ret
        have e : mostT (togA bs) (f + 1) ns = os := by rw [HFIN.out, ← HOS.out, List.take_of_length_le (by rw [HM.out]; exact Nat.le_refl _)]
        rw [e]
        exact ⟨Am, _, cm, rfl, rfl, (ownsRow_own HOW.out).2, hb⟩

set_option maxRecDepth 100000 in
set_option maxHeartbeats 2000000 in
theorem impl_LongestNest (A : Option Addr) (n c : Nat) (bs : List (Int × Int × Int)) (lo hi : Nat) (w : World) (hn : bs.length = n) (hlen : n ≤ 1048576) (hs : Seg w lo hi A (flat3 bs)) (hB : hi ≤ w.heap.size) (q : Bool) (hq : goodN bs = q) :
    Calls Try.prog 48 #[.slice A n c] w (RetL q (someN q (mostT (togL bs) n (below n))) w) := by
  have HN := Lib.hid hn
  have HQ := Lib.hid hq
  have HB0 := Lib.hid ((Below.refl w.heap.size w).alloc (Nat.le_refl _) (.cells #[.slice A n c] 25))
  have HC0 := Lib.hid (new_at w (.cells #[.slice A n c] 25) rfl)
  cases q
  · clear hn hq
    go_enter Try.func48, Try.ntmps48
    go_wp2_with fail
    refine (areBoxes_any _ _ _ bs lo hi _ HN.out hlen (hs.below HB0.out hB) (by have := HB0.out.size; omega) _ HQ.out).mono ?_
    rintro e w1 ⟨rfl, hb1⟩
    go_wp2
    go_ret2
    exact ⟨none, 0, 0, rfl, rfl, Own.nil_, HB0.out.trans (hb1.mono HB0.out.size)⟩
  · have hn7 : n ≤ 7 := by rw [← hn]; exact (goodN_at hq).2.1
    clear hn hq
    go_enter Try.func48, Try.ntmps48
    go_wp2_with fail
    refine (areBoxes_any _ _ _ bs lo hi _ HN.out hlen (hs.below HB0.out hB) (by have := HB0.out.size; omega) _ HQ.out).mono ?_
    rintro e w1 ⟨rfl, hb1⟩
    have HB1 := Lib.hid (HB0.out.trans (hb1.mono HB0.out.size))
    have hc1 : w1.cell? ⟨w.heap.size, 0, none⟩ = some (.slice A n c) := (hb1.cell (by simp)).trans (cell_of HC0.out 0)
    have HC1 := Lib.hid hc1
    go_wp2_with fail
    refine (numbersBelow_any n _ (by omega)).mono ?_
    rintro e w2 ⟨A2, c2, rfl, hown2, hb2⟩
    have HB2 := Lib.hid (HB1.out.trans (hb2.mono HB1.out.size))
    have hz2 := HB2.out.size
    have HC2 := Lib.hid ((hb2.cell (by exact cell_lt HC1.out)).trans HC1.out)
    have HSG := Lib.hid hown2.seg
    clear hown2 hc1
    go_wp2_with fail
    refine (mostL_any w.heap.size A n c bs HN.out n (below n) A2 n c2 lo hi _ _ _ (below_length n) (Nat.le_refl _) (by omega) (fun x hx => below_mem hx) HSG.out (Nat.le_refl _) (hs.below HB2.out hB) (by omega) HC2.out).mono ?_
    rintro e w3 ⟨A3, n3, c3, rfl, hl3, hown3, hb3⟩
    go_wp2
    go_ret2
    exact ⟨A3, n3, c3, rfl, hl3, hown3.more hz2 (Nat.le_refl _), HB2.out.trans (hb3.mono hz2)⟩

set_option maxRecDepth 100000 in
set_option maxHeartbeats 2000000 in
theorem impl_ApartBoxes (A : Option Addr) (n c : Nat) (bs : List (Int × Int × Int)) (lo hi : Nat) (w : World) (hn : bs.length = n) (hlen : n ≤ 1048576) (hs : Seg w lo hi A (flat3 bs)) (hB : hi ≤ w.heap.size) (q : Bool) (hq : goodN bs = q) :
    Calls Try.prog 50 #[.slice A n c] w (RetL q (someN q (mostT (togA bs) n (below n))) w) := by
  have HN := Lib.hid hn
  have HQ := Lib.hid hq
  have HB0 := Lib.hid ((Below.refl w.heap.size w).alloc (Nat.le_refl _) (.cells #[.slice A n c] 25))
  have HC0 := Lib.hid (new_at w (.cells #[.slice A n c] 25) rfl)
  cases q
  · clear hn hq
    go_enter Try.func50, Try.ntmps50
    go_wp2_with fail
    refine (areBoxes_any _ _ _ bs lo hi _ HN.out hlen (hs.below HB0.out hB) (by have := HB0.out.size; omega) _ HQ.out).mono ?_
    rintro e w1 ⟨rfl, hb1⟩
    go_wp2
    go_ret2
    exact ⟨none, 0, 0, rfl, rfl, Own.nil_, HB0.out.trans (hb1.mono HB0.out.size)⟩
  · have hn7 : n ≤ 7 := by rw [← hn]; exact (goodN_at hq).2.1
    clear hn hq
    go_enter Try.func50, Try.ntmps50
    go_wp2_with fail
    refine (areBoxes_any _ _ _ bs lo hi _ HN.out hlen (hs.below HB0.out hB) (by have := HB0.out.size; omega) _ HQ.out).mono ?_
    rintro e w1 ⟨rfl, hb1⟩
    have HB1 := Lib.hid (HB0.out.trans (hb1.mono HB0.out.size))
    have hc1 : w1.cell? ⟨w.heap.size, 0, none⟩ = some (.slice A n c) := (hb1.cell (by simp)).trans (cell_of HC0.out 0)
    have HC1 := Lib.hid hc1
    go_wp2_with fail
    refine (numbersBelow_any n _ (by omega)).mono ?_
    rintro e w2 ⟨A2, c2, rfl, hown2, hb2⟩
    have HB2 := Lib.hid (HB1.out.trans (hb2.mono HB1.out.size))
    have hz2 := HB2.out.size
    have HC2 := Lib.hid ((hb2.cell (by exact cell_lt HC1.out)).trans HC1.out)
    have HSG := Lib.hid hown2.seg
    clear hown2 hc1
    go_wp2_with fail
    refine (mostA_any w.heap.size A n c bs HN.out n (below n) A2 n c2 lo hi _ _ _ (below_length n) (Nat.le_refl _) (by omega) (fun x hx => below_mem hx) HSG.out (Nat.le_refl _) (hs.below HB2.out hB) (by omega) HC2.out).mono ?_
    rintro e w3 ⟨A3, n3, c3, rfl, hl3, hown3, hb3⟩
    go_wp2
    go_ret2
    exact ⟨A3, n3, c3, rfl, hl3, hown3.more hz2 (Nat.le_refl _), HB2.out.trans (hb3.mono hz2)⟩

end Go.Proofs.Ytkconbcmbpmghaa

/-
  The given program's items taken in an order if there is room.
  Conditions: items and a suitcase.
-/
import Derived.Test.YtjpejhpilfjheabSuPs
import Derived.Test.YtjpejhpilfjheabSomeN
namespace Go.Proofs.Ytjpejhpilfjheab
set_option linter.unusedVariables false
set_option linter.unusedSimpArgs false
open Go.RowKit

theorem keepSP {wk W0 W1 : World} {a1 a2 a3 a4 a5 a6 a7 : Addr} {v1 v2 v3 v4 v5 v6 v7 : Value} (h : Below wk.heap.size wk W0 ∧ W0.cell? a1 = some v1 ∧ (W0.cell? a2 = some v2 ∧ W0.cell? a3 = some v3 ∧ W0.cell? a4 = some v4) ∧ W0.cell? a5 = some v5 ∧ W0.cell? a6 = some v6 ∧ W0.cell? a7 = some v7) (hb : Below W0.heap.size W0 W1) :
    Below wk.heap.size wk W1 ∧ W1.cell? a1 = some v1 ∧ (W1.cell? a2 = some v2 ∧ W1.cell? a3 = some v3 ∧ W1.cell? a4 = some v4) ∧ W1.cell? a5 = some v5 ∧ W1.cell? a6 = some v6 ∧ W1.cell? a7 = some v7 :=
  ⟨h.1.trans (hb.mono h.1.size), (hb.cell (cell_lt h.2.1)).trans h.2.1, ⟨(hb.cell (cell_lt h.2.2.1.1)).trans h.2.2.1.1, (hb.cell (cell_lt h.2.2.1.2.1)).trans h.2.2.1.2.1, (hb.cell (cell_lt h.2.2.1.2.2)).trans h.2.2.1.2.2⟩, (hb.cell (cell_lt h.2.2.2.1)).trans h.2.2.2.1, (hb.cell (cell_lt h.2.2.2.2.1)).trans h.2.2.2.2.1, (hb.cell (cell_lt h.2.2.2.2.2)).trans h.2.2.2.2.2⟩
theorem itm_trip {ts : List (Int × Int × Int)} {k : Nat} {x y z : Int} (h : ts[k]? = some (x, y, z)) : wI ts (k : Int) = x ∧ bI ts (k : Int) = y ∧ vI ts (k : Int) = z := itm_w h

set_option maxRecDepth 100000 in
set_option maxHeartbeats 8000000 in
theorem suTake_any (A0 : Option Addr) (n c0 : Nat) (W B : Int) (ra : Bool) (ts : List (Int × Int × Int)) (lo hi : Nat) (w : World) (hn : ts.length = n) (hg : OkI ts) (hs : Seg w lo hi A0 (flat3 ts)) (hB : hi ≤ w.heap.size) :
    Calls Try.prog 55 #[.slice A0 n c0, .agg #[.int .i64 W, .int .i64 B], .bool ra] w fun e w' => ∃ A' n' c', e = .returned (.slice A' n' c') ∧ (packP ra ts W B).length = n' ∧ Own w' w.heap.size w'.heap.size A' (packP ra ts W B) ∧ Below w.heap.size w w' := by
  obtain ⟨i0, hi0, hz0, hz1, hz2⟩ := info_parts int_info
  have h10 : n ≤ 10 := by rw [← hn]; exact hg.len
  have HN := Lib.hid hn
  have HG := Lib.hid hg
  have HS := Lib.hid hs
  have hbox := new_at w (.cells #[.int .i64 W, .int .i64 B] 41) rfl
  have HB0 := Lib.hid ((Below.refl w.heap.size w).alloc (Nat.le_refl _) (.cells #[.int .i64 W, .int .i64 B] 41))
  obtain ⟨W0, hW0⟩ : ∃ W0, w.alloc (.cells #[.int .i64 W, .int .i64 B] 41) = W0 := ⟨_, rfl⟩
  rw [hW0] at hbox HB0
  have hzW0 : w.heap.size + 1 ≤ W0.heap.size := by rw [← hW0]; simp
  have HBOX := Lib.hid hbox
  have HW0 := Lib.hid hW0
  clear hn hg hs hbox hW0
  go_enter Try.func55, Try.ntmps55
  go_wp2
  rw [HW0.out]
  go_loopw [7, 8, 9, 10, 11, 18] (fun v _ _ _ _ i wr => ∃ k : Nat, k ≤ n ∧ i = .int .i64 (k : Int) ∧ Below W0.heap.size W0 wr ∧ (∃ out, sortG (upP ra ts) ((below n).take k) = out ∧ wr.ownsRow W0.heap.size 3 1 v k (out.map (Value.int .i64))) ∧ (k = 0 → v = .slice none 0 0)) (fun _ _ _ _ _ i _ => n - (intOf i).toNat)
  case atStart => exact ⟨0, Nat.zero_le _, rfl, Below.refl _ _, ⟨[], rfl, World.ownsRow_nil _ _ _ _⟩, fun _ => rfl⟩
  case round =>
    obtain ⟨k, hk, rfl, hb, ⟨out, hout, hown⟩, hnil⟩ := hrel
    have hsz := hb.size
    have hol : out.length = k := by rw [← hout, sortG_length, List.length_take, below_length]; omega
    obtain ⟨A, c, rfl⟩ := ownsRow_form hown
    have hcap := own_cap hown
    have hoseg := (ownsRow_own (ys := out) (by rw [hol]; exact hown)).2.seg
    have HOL := Lib.hid hol
    have HOUT := Lib.hid hout
    clear hout hol
    by_cases hlt : k < n
    · obtain ⟨bq, oq, x, y, z, rfl, _, hbq, hx, p0, p1, p2⟩ := ((HS.out.below HB0.out hB).below hb (by omega)).tri (k := k) (by rw [HN.out]; exact hlt)
      have hnext := sortG_next (upP ra ts) (below_at hlt)
      rw [HOUT.out] at hnext
      have HNX := Lib.hid hnext
      have HMEM := Lib.hid (show ∀ x ∈ out, 0 ≤ x ∧ x < (n : Int) from by rw [← HOUT.out]; exact sortG_mem (fun x hx => below_mem (List.mem_of_mem_take hx)))
      have HIT := Lib.hid (HG.out.all _ (List.mem_of_getElem? hx))
      have HXY := Lib.hid (itm_trip hx)
      obtain ⟨W4, hW4⟩ : ∃ W4, wr.alloc (.cells #[.int .i64 x, .int .i64 y, .int .i64 z] 63) = W4 := ⟨_, rfl⟩
      have hzw : wr.heap.size ≤ W4.heap.size := by rw [← hW4]; simp
      have hzw1 : wr.heap.size + 1 ≤ W4.heap.size := by rw [← hW4]; simp
      have HB4 := Lib.hid (show Below wr.heap.size wr W4 by rw [← hW4]; exact (Below.refl _ _).alloc (Nat.le_refl _) _)
      have HP4 := Lib.hid (show W4.heap[wr.heap.size]? = some (.cells #[.int .i64 x, .int .i64 y, .int .i64 z] 63 (0, 0)) by rw [← hW4]; exact new_at _ _ rfl)
      have HW4 := Lib.hid hW4
      have HOS := Lib.hid hoseg
      clear hx hnext hW4 hoseg
      go_wp2_with fail
      try rw [HW4.out]
      clear p0 p1 p2
      obtain ⟨wz, rfl⟩ : ∃ wz, wz = wr := ⟨_, rfl⟩
      go_loopw [10] (fun kk wr => ∃ j : Nat, j ≤ k ∧ kk = .int .i64 (j : Int) ∧ Hid (posG (upP ra ts) out (k : Int) j = posG (upP ra ts) out (k : Int) k) ∧ Below W4.heap.size W4 wr) (fun kk _ => (intOf kk).toNat)
      case atStart => exact ⟨k, Nat.le_refl _, rfl, rfl, Below.refl _ _⟩
      case round =>
        obtain ⟨j, hj, rfl, hpos, hbk⟩ := hrel
        have HBK := Lib.hid hbk
        have hzk := hbk.size
        clear hbk
        by_cases hgo : ∃ jj xx, j = jj + 1 ∧ out[jj]? = some xx ∧ upP ra ts (k : Int) xx = true
        · obtain ⟨jj, xx, rfl, hxo, hux⟩ := hgo
          have HPOS := Lib.hid (show posG (upP ra ts) out (k : Int) jj = posG (upP ra ts) out (k : Int) k by rw [← posG_go hxo hux]; exact hpos.out)
          obtain ⟨g, oo, xx', rfl, _, _, hx', hcx⟩ := HOS.out.at_ (k := jj) (by rw [HOL.out]; omega)
          obtain rfl : xx = xx' := by rw [hxo] at hx'; injection hx'
          have hxm := HMEM.out xx (List.mem_of_getElem? hxo)
          obtain ⟨xn, rfl⟩ : ∃ xn : Nat, xx = (xn : Int) := ⟨xx.toNat, by omega⟩
          have hoo : oo = 0 := by
            obtain ⟨g3, cap3, hvv, _⟩ := ownsRow_head (ys := out) hown (by omega : 0 < k)
            injection hvv with a1; injection a1 with a1; injection a1 with a1 a2
          subst hoo
          rw [Nat.zero_add] at hcx
          obtain ⟨b2, o2, x2, y2, z2, hA2, _, hb2, hx2, r0, r1, r2⟩ := (((HS.out.below HB0.out hB).below hb (by omega)).below (HB4.out.trans (HBK.out.mono hzw)) (by omega)).tri (k := xn) (by rw [HN.out]; omega)
          obtain ⟨rfl, rfl⟩ : bq = b2 ∧ oq = o2 := by injection hA2 with hA; injection hA with h1 h2; exact ⟨h1, h2⟩
          have HQC := Lib.hid (And.intro r0 (And.intro r1 r2))
          have HCO := Lib.hid (((HB4.out.trans (HBK.out.mono hzw)).cell (cell_lt hcx)).trans hcx)
          have hpk := (HBK.out.block _ (heap_lt HP4.out)).trans HP4.out
          have HPC := Lib.hid (show _ ∧ _ ∧ _ from ⟨(cell_of hpk 0).trans (by rfl : _ = some (Value.int .i64 x)), (cell_of hpk 1).trans (by rfl : _ = some (Value.int .i64 y)), (cell_of hpk 2).trans (by rfl : _ = some (Value.int .i64 z))⟩)
          have HIT2 := Lib.hid (HG.out.all _ (List.mem_of_getElem? hx2))
          have HUP := Lib.hid (show bef2 ra x y z x2 y2 z2 = true by have h1 := HXY.out; have h2 := itm_trip hx2; have h3 : upP ra ts (k : Int) (xn : Int) = true := hux; rw [upP, h1.1, h1.2.1, h1.2.2, h2.1, h2.2.1, h2.2.2] at h3; exact h3)
          have hxn : (xn : Int) < (n : Int) := by omega
          clear hx2 hA2 r0 r1 r2 hx' hcx hpk
          have hjd : (0 : Int) < (jj : Int) + 1 := by omega
          have hjw : IntKind.i64.wrap (jj : Int) = (jj : Int) := by rw [IntKind.wrap_i64]; omega
          have hj0 : (0 : Int) ≤ (jj : Int) := by omega
          have hjk : (jj : Int) < (k : Int) := by omega
          clear hxo hux
          go_wp2_with fail
          refine wp_region_held_drew (S := (fun wq => Below wr.heap.size wr wq ∧ wq.cell? ⟨g, jj, none⟩ = some (.int .i64 (xn : Int)) ∧ (wq.cell? ⟨wz.heap.size, 0, none⟩ = some (.int .i64 x) ∧ wq.cell? ⟨wz.heap.size, 1, none⟩ = some (.int .i64 y) ∧ wq.cell? ⟨wz.heap.size, 2, none⟩ = some (.int .i64 z)) ∧ wq.cell? ⟨bq, oq + xn * 3, none⟩ = some (.int .i64 x2) ∧ wq.cell? ⟨bq, oq + xn * 3 + 1, none⟩ = some (.int .i64 y2) ∧ wq.cell? ⟨bq, oq + xn * 3 + 2, none⟩ = some (.int .i64 z2))) (by kernel_rfl) ⟨(Below.refl wr.heap.size wr).drew, HCO.out, HPC.out, HQC.out⟩ (fun hH0 => ?_)
          refine wpAnyH_take (i := 0) (v := ?_) (ops_at rfl) (by kernel_rfl) (by kernel_rfl) (by kernel_rfl) (fun _ _ _ h => h) (Or.inl ⟨by rfl, ?yt0⟩) (by assumption) ?nt0
          case yt0 => (intro wS hSw; (try dsimp only at hSw); go_simp; try rfl)
          try simp only [Act.put, List.setIfInBounds_toArray, List.set_cons_zero, List.set_cons_succ]
          refine wpAnyH_take (i := 1) (v := ?_) (ops_at rfl) (by kernel_rfl) (by kernel_rfl) (by kernel_rfl) (fun _ _ _ h => h) (Or.inl ⟨by rfl, ?yt1⟩) (by assumption) ?nt1
          case yt1 => (intro wS hSw; (try dsimp only at hSw); go_simp; try rfl)
          try simp only [Act.put, List.setIfInBounds_toArray, List.set_cons_zero, List.set_cons_succ]
          refine wpAnyH_take (i := 2) (v := ?_) (ops_at rfl) (by kernel_rfl) (by kernel_rfl) (by kernel_rfl) (fun _ _ _ h => h) (Or.inl ⟨by rfl, ?yt2⟩) (by assumption) ?nt2
          case yt2 => (intro wS hSw; (try dsimp only at hSw); go_simp; try rfl)
          try simp only [Act.put, List.setIfInBounds_toArray, List.set_cons_zero, List.set_cons_succ]
          refine wpAnyH_take (i := 3) (v := ?_) (ops_at rfl) (by kernel_rfl) (by kernel_rfl) (by kernel_rfl) (fun _ _ _ h => h) (Or.inl ⟨by rfl, ?yt3⟩) (by assumption) ?nt3
          case yt3 => (intro wS hSw; (try dsimp only at hSw); go_simp; try rfl)
          try simp only [Act.put, List.setIfInBounds_toArray, List.set_cons_zero, List.set_cons_succ]
          refine wpAnyH_take (i := 4) (v := ?_) (ops_at rfl) (by kernel_rfl) (by kernel_rfl) (by kernel_rfl) (fun _ _ _ h => h) (Or.inl ⟨by rfl, ?yt4⟩) (by assumption) ?nt4
          case yt4 => (intro wS hSw; (try dsimp only at hSw); go_simp; try rfl)
          try simp only [Act.put, List.setIfInBounds_toArray, List.set_cons_zero, List.set_cons_succ]
          refine wpAnyH_take (i := 5) (v := ?_) (ops_at rfl) (by kernel_rfl) (by kernel_rfl) (by kernel_rfl) (fun _ _ _ h => h) (Or.inl ⟨by rfl, ?yt5⟩) (by assumption) ?nt5
          case yt5 => (intro wS hSw; (try dsimp only at hSw); go_simp; try rfl)
          try simp only [Act.put, List.setIfInBounds_toArray, List.set_cons_zero, List.set_cons_succ]
          refine wpAnyH_take (i := 6) (v := ?_) (ops_at rfl) (by kernel_rfl) (by kernel_rfl) (by kernel_rfl) (fun _ _ _ h => h) (Or.inl ⟨by rfl, ?yt6⟩) (by assumption) ?nt6
          case yt6 => (intro wS hSw; (try dsimp only at hSw); go_simp; try rfl)
          try simp only [Act.put, List.setIfInBounds_toArray, List.set_cons_zero, List.set_cons_succ]
          refine wpAnyH_take (i := 7) (v := ?_) (ops_at rfl) (by kernel_rfl) (by kernel_rfl) (by kernel_rfl) (fun _ _ _ h => h) (Or.inl ⟨by rfl, ?yt7⟩) (by assumption) ?nt7
          case yt7 => (intro wS hSw; (try dsimp only at hSw); go_simp; try rfl)
          try simp only [Act.put, List.setIfInBounds_toArray, List.set_cons_zero, List.set_cons_succ]
          refine wpAnyH_take (i := 8) (v := ?_) (ops_at rfl) (by kernel_rfl) (by kernel_rfl) (by kernel_rfl) (fun _ _ _ h => h) (Or.inl ⟨by rfl, ?yt8⟩) (by assumption) ?nt8
          case yt8 => (intro wS hSw; (try dsimp only at hSw); go_simp; try rfl)
          try simp only [Act.put, List.setIfInBounds_toArray, List.set_cons_zero, List.set_cons_succ]
          refine wpAnyH_take (i := 9) (v := ?_) (ops_at rfl) (by kernel_rfl) (by kernel_rfl) (by kernel_rfl) (fun _ _ _ h => h) (Or.inl ⟨by rfl, ?yt9⟩) (by assumption) ?nt9
          case yt9 => (intro wS hSw; (try dsimp only at hSw); go_simp; try rfl)
          try simp only [Act.put, List.setIfInBounds_toArray, List.set_cons_zero, List.set_cons_succ]
          refine wpAnyH_take (i := 10) (v := ?_) (ops_at rfl) (by kernel_rfl) (by kernel_rfl) (by kernel_rfl) (fun _ _ _ h => h) (Or.inl ⟨by rfl, ?yt10⟩) (by assumption) ?nt10
          case yt10 => (intro wS hSw; (try dsimp only at hSw); go_simp; try rfl)
          try simp only [Act.put, List.setIfInBounds_toArray, List.set_cons_zero, List.set_cons_succ]
          refine wpAnyH_take (i := 11) (v := ?_) (ops_at rfl) (by kernel_rfl) (by kernel_rfl) (by kernel_rfl) (fun _ _ _ h => h) (Or.inl ⟨by rfl, ?yt11⟩) (by assumption) ?nt11
          case yt11 => (intro wS hSw; (try dsimp only at hSw); go_simp; try rfl)
          try simp only [Act.put, List.setIfInBounds_toArray, List.set_cons_zero, List.set_cons_succ]
          refine wpAnyH_take (i := 12) (v := ?_) (ops_at rfl) (by kernel_rfl) (by kernel_rfl) (by kernel_rfl) (fun _ _ _ h => h) (Or.inl ⟨by rfl, ?yt12⟩) (by assumption) ?nt12
          case yt12 => (intro wS hSw; (try dsimp only at hSw); go_simp; try rfl)
          try simp only [Act.put, List.setIfInBounds_toArray, List.set_cons_zero, List.set_cons_succ]
          refine wpAnyH_ready (rs := [13]) (by kernel_rfl) (by simp) ?_
          refine AllReadyH.cons (ops_at rfl) (fun K hK => ?_) AllReadyH.nil
          go_simp
          refine (suBefore_any x y z x2 y2 z2 ra _ HIT.out HIT2.out true HUP.out).mono ?_
          rintro e wb ⟨rfl, hbb⟩
          dsimp only
          refine hK.out _ _ (keepSP hH0 hbb) (fun hHb => ?_)
          clear hK K
          refine wpAnyH_take (i := 14) (v := ?_) (ops_at rfl) (by kernel_rfl) (by kernel_rfl) (by kernel_rfl) (fun _ _ _ h => h) (Or.inl ⟨by rfl, ?yt14⟩) (by assumption) ?nt14
          case yt14 => (intro wS hSw; (try dsimp only at hSw); go_simp; try rfl)
          try simp only [Act.put, List.setIfInBounds_toArray, List.set_cons_zero, List.set_cons_succ]
          refine wpAnyH_done (by kernel_rfl) ?_ _
          go_wp2
          go_roundw
          case rel => exact ⟨jj, by omega, by first | rfl | go_num, HPOS.out, HBK.out.trans (hHb.1.mono HBK.out.size)⟩
          case measure => first | (simp [intOf]; done) | (simp [intOf]; omega)
        · have hat : insG (upP ra ts) out (k : Int) = atG out (k : Int) j := by
            rw [insG, HOL.out, ← hpos.out]
            rcases Nat.eq_zero_or_pos j with rfl | hjp
            · rfl
            · obtain ⟨jj, rfl⟩ : ∃ jj, j = jj + 1 := ⟨j - 1, by omega⟩
              obtain ⟨xx, hxx⟩ : ∃ xx, out[jj]? = some xx := ⟨_, List.getElem?_eq_getElem (by rw [HOL.out]; omega)⟩
              rw [posG_stop hxx (by
                cases h : upP ra ts (k : Int) xx with
                | false => rfl
                | true => exact absurd ⟨jj, xx, rfl, hxx, h⟩ hgo)]
          have hstop : j = 0 ∨ ∃ jj xx, j = jj + 1 ∧ out[jj]? = some xx ∧ upP ra ts (k : Int) xx = false := by
            rcases Nat.eq_zero_or_pos j with rfl | hjp
            · exact .inl rfl
            · obtain ⟨jj, rfl⟩ : ∃ jj, j = jj + 1 := ⟨j - 1, by omega⟩
              obtain ⟨xx, hxx⟩ : ∃ xx, out[jj]? = some xx := ⟨_, List.getElem?_eq_getElem (by rw [HOL.out]; omega)⟩
              exact .inr ⟨jj, xx, rfl, hxx, by
                cases h : upP ra ts (k : Int) xx with
                | false => rfl
                | true => exact absurd ⟨jj, xx, rfl, hxx, h⟩ hgo⟩
          have HAT := Lib.hid hat
          have HTK := Lib.hid ((HOS.out.takeI j).below (HB4.out.trans (HBK.out.mono hzw)) (Nat.le_refl _))
          clear hat hgo
          have HSTOP := Lib.hid hstop
          clear hstop
          have HWK := Lib.hid (hb.trans (HB4.out.trans (HBK.out.mono hzw) |>.mono hsz))
          rcases Nat.eq_zero_or_pos k with hk0 | hkp
          · obtain ⟨rfl, rfl⟩ : A = none ∧ c = 0 := by have := hnil hk0; injection this with a b d; exact ⟨a, d⟩
            subst hk0
            obtain rfl : j = 0 := by omega
            clear hnil hown hcap
            go_wp2_with fail
            refine wp_region_held_drew (S := (fun wq => Below wr.heap.size wr wq)) (by kernel_rfl) (Below.refl wr.heap.size wr).drew (fun hH0 => ?_)
            refine wpAnyH_take (i := 0) (v := ?_) (ops_at rfl) (by kernel_rfl) (by kernel_rfl) (by kernel_rfl) (fun _ _ _ h => h) (Or.inl ⟨by rfl, ?yz0⟩) (by assumption) ?nz0
            case yz0 => (intro wS hSw; (try dsimp only at hSw); go_simp; try rfl)
            try simp only [Act.put, List.setIfInBounds_toArray, List.set_cons_zero, List.set_cons_succ]
            refine wpAnyH_take (i := 1) (v := ?_) (ops_at rfl) (by kernel_rfl) (by kernel_rfl) (by kernel_rfl) (fun _ _ _ h => h) (Or.inl ⟨by rfl, ?yz1⟩) (by assumption) ?nz1
            case yz1 => (intro wS hSw; (try dsimp only at hSw); go_simp; try rfl)
            try simp only [Act.put, List.setIfInBounds_toArray, List.set_cons_zero, List.set_cons_succ]
            refine wpAnyH_take (i := 2) (v := ?_) (ops_at rfl) (by kernel_rfl) (by kernel_rfl) (by kernel_rfl) (fun _ _ _ h => h) (Or.inl ⟨by rfl, ?yz2⟩) (by assumption) ?nz2
            case yz2 => (intro wS hSw; (try dsimp only at hSw); go_simp; try rfl)
            try simp only [Act.put, List.setIfInBounds_toArray, List.set_cons_zero, List.set_cons_succ]
            refine wpAnyH_take (i := 3) (v := undef) (ops_at rfl) (by kernel_rfl) (by kernel_rfl) (by kernel_rfl) (fun _ _ _ h => h) (Or.inr ⟨by rfl, rfl⟩) (by assumption) ?_
            try simp only [Act.put, List.setIfInBounds_toArray, List.set_cons_zero, List.set_cons_succ]
            refine wpAnyH_take (i := 4) (v := undef) (ops_at rfl) (by kernel_rfl) (by kernel_rfl) (by kernel_rfl) (fun _ _ _ h => h) (Or.inr ⟨by rfl, rfl⟩) (by assumption) ?_
            try simp only [Act.put, List.setIfInBounds_toArray, List.set_cons_zero, List.set_cons_succ]
            refine wpAnyH_take (i := 5) (v := undef) (ops_at rfl) (by kernel_rfl) (by kernel_rfl) (by kernel_rfl) (fun _ _ _ h => h) (Or.inr ⟨by rfl, rfl⟩) (by assumption) ?_
            try simp only [Act.put, List.setIfInBounds_toArray, List.set_cons_zero, List.set_cons_succ]
            refine wpAnyH_take (i := 6) (v := undef) (ops_at rfl) (by kernel_rfl) (by kernel_rfl) (by kernel_rfl) (fun _ _ _ h => h) (Or.inr ⟨by rfl, rfl⟩) (by assumption) ?_
            try simp only [Act.put, List.setIfInBounds_toArray, List.set_cons_zero, List.set_cons_succ]
            refine wpAnyH_take (i := 7) (v := undef) (ops_at rfl) (by kernel_rfl) (by kernel_rfl) (by kernel_rfl) (fun _ _ _ h => h) (Or.inr ⟨by rfl, rfl⟩) (by assumption) ?_
            try simp only [Act.put, List.setIfInBounds_toArray, List.set_cons_zero, List.set_cons_succ]
            refine wpAnyH_take (i := 8) (v := undef) (ops_at rfl) (by kernel_rfl) (by kernel_rfl) (by kernel_rfl) (fun _ _ _ h => h) (Or.inr ⟨by rfl, rfl⟩) (by assumption) ?_
            try simp only [Act.put, List.setIfInBounds_toArray, List.set_cons_zero, List.set_cons_succ]
            refine wpAnyH_take (i := 9) (v := undef) (ops_at rfl) (by kernel_rfl) (by kernel_rfl) (by kernel_rfl) (fun _ _ _ h => h) (Or.inr ⟨by rfl, rfl⟩) (by assumption) ?_
            try simp only [Act.put, List.setIfInBounds_toArray, List.set_cons_zero, List.set_cons_succ]
            refine wpAnyH_take (i := 10) (v := undef) (ops_at rfl) (by kernel_rfl) (by kernel_rfl) (by kernel_rfl) (fun _ _ _ h => h) (Or.inr ⟨by rfl, rfl⟩) (by assumption) ?_
            try simp only [Act.put, List.setIfInBounds_toArray, List.set_cons_zero, List.set_cons_succ]
            refine wpAnyH_take (i := 11) (v := undef) (ops_at rfl) (by kernel_rfl) (by kernel_rfl) (by kernel_rfl) (fun _ _ _ h => h) (Or.inr ⟨by rfl, rfl⟩) (by assumption) ?_
            try simp only [Act.put, List.setIfInBounds_toArray, List.set_cons_zero, List.set_cons_succ]
            refine wpAnyH_take (i := 12) (v := undef) (ops_at rfl) (by kernel_rfl) (by kernel_rfl) (by kernel_rfl) (fun _ _ _ h => h) (Or.inr ⟨by rfl, rfl⟩) (by assumption) ?_
            try simp only [Act.put, List.setIfInBounds_toArray, List.set_cons_zero, List.set_cons_succ]
            refine wpAnyH_take (i := 13) (v := undef) (ops_at rfl) (by kernel_rfl) (by kernel_rfl) (by kernel_rfl) (fun _ _ _ h => h) (Or.inr ⟨by rfl, rfl⟩) (by assumption) ?_
            try simp only [Act.put, List.setIfInBounds_toArray, List.set_cons_zero, List.set_cons_succ]
            refine wpAnyH_take (i := 14) (v := ?_) (ops_at rfl) (by kernel_rfl) (by kernel_rfl) (by kernel_rfl) (fun _ _ _ h => h) (Or.inl ⟨by rfl, ?yz14⟩) (by assumption) ?nz14
            case yz14 => (intro wS hSw; (try dsimp only at hSw); go_simp; try rfl)
            try simp only [Act.put, List.setIfInBounds_toArray, List.set_cons_zero, List.set_cons_succ]
            refine wpAnyH_done (by kernel_rfl) ?_ _
            have HBC0 := Lib.hid hH0
            obtain ⟨wc, hwc⟩ : ∃ wc, wr.drew = wc := ⟨_, rfl⟩
            rw [hwc] at HBC0 ⊢
            have HBC := HBC0
            have HBW := Lib.hid (HWK.out.trans (HBC.out.mono HWK.out.size))
            clear hwc hH0
            go_wp2_with fail
            refine (l1Own_any none 0 0 (out.take 0) _ _ wc (by rw [List.length_take, HOL.out]; omega) (by omega) (HTK.out.below HBC.out (Nat.le_trans hzw hzk)) (Nat.le_trans (Nat.le_trans hzw hzk) HBC.out.size)).mono ?_
            rintro e w1 ⟨A2, c2, rfl, hown1, hb1⟩
            have hz1' := hb1.size
            have HOW1 := Lib.hid (hown1.alloc (.cells #[.int .i64 (0 : Int)] 3))
            have HS1 := Lib.hid (seg_one w1 (0 : Int) 3)
            have HLT1 := Lib.hid hown1.lt
            have HB1 := Lib.hid hb1
            clear hown1 hb1
            go_wp2_with (first | (at_builtin; refine wpList_append_seg _ rfl _ _ 22 rfl wc.heap.size 3 i0 Try.underlying22 hi0 hz0 hz1 hz2 _ 0 _ rfl HOW1.out _ 1 1 [(0 : Int)] _ _ rfl rfl HS1.out (by omega) (by simp; omega) ?_; intro v3 w3 hown3 hgr3; have hb3 : Below wc.heap.size wc w3 := (HB1.out.alloc hz1' _).grown hgr3 (by simp; omega) (fun g' hg' => (HLT1.out g' hg').1); have HB3 := Lib.hid hb3; have HOW3 := Lib.hid (show w3.ownsRow wc.heap.size 3 1 v3 (0 + 1) (((out.take 0) ++ [(0 : Int)]).map (Value.int .i64)) by simpa using hown3); have HLT3 := Lib.hid hown3.lt; clear HOW1 hown3 hgr3 hb3; obtain ⟨A3, c3, rfl⟩ := ownsRow_form HOW3.out) | (at_builtin; refine wpList_append_seg _ rfl _ _ 22 rfl wc.heap.size 3 i0 Try.underlying22 hi0 hz0 hz1 hz2 _ (0 + 1) _ rfl HOW3.out _ 0 _ [] 0 0 rfl rfl Seg.nil_ (by omega) HB3.out.size ?_; intro v5 w5 hown5 hgr5; have HB5 := Lib.hid (HB3.out.grown hgr5 HB3.out.size (fun g' hg' => (HLT3.out g' hg').1)); have HOW5 := Lib.hid (show w5.ownsRow wc.heap.size 3 1 v5 (0 + 1 + 0) (((out.take 0) ++ [(0 : Int)] ++ []).map (Value.int .i64)) by simpa [List.map_append] using hown5); clear HOW3 hown5 hgr5; obtain ⟨A5, c5, rfl⟩ := ownsRow_form HOW5.out))
            go_roundw
            case rel =>
              have hl : (0 + 1 + 0) = 0 + 1 := by omega
              have he : (out.take 0) ++ [(0 : Int)] ++ [] = insG (upP ra ts) out (0 : Int) := by rw [show insG (upP ra ts) out (0 : Int) = atG out (0 : Int) 0 from HAT.out, atG]; have h0 : out = [] := List.eq_nil_of_length_eq_zero HOL.out; rw [h0]; rfl
              have h := HOW5.out
              rw [he, hl] at h
              try rw [hl]
              have hBB := HBW.out.trans (HB5.out.mono HBW.out.size)
              exact ⟨0 + 1, by omega, by first | rfl | go_num, hBB, ⟨_, HNX.out, own_mono h HBW.out.size⟩, fun h0 => by omega⟩
            case measure => first | (simp [intOf]; done) | (simp [intOf]; omega)
          · obtain ⟨g, cap, hvv, hg0, hg1, hcs, _⟩ := ownsRow_head (ys := out) hown hkp
            obtain ⟨rfl, rfl⟩ : A = some ⟨g, 0, none⟩ ∧ c = cap := by injection hvv with a b d; exact ⟨a, d⟩
            obtain ⟨ad, hsA, hsT⟩ := tail_seg (HOS.out.below (HB4.out.trans (HBK.out.mono hzw)) (Nat.le_refl _)) HOL.out hj hcap
            have HSTL := Lib.hid hsT
            rcases HSTOP.out with rfl | ⟨jj, xx, rfl, hxo, hnlt⟩
            · clear hvv hcs hnil hown hsT hsA HSTL
              have HSTL := Lib.hid (HOS.out.below (HB4.out.trans (HBK.out.mono hzw)) (Nat.le_refl _))
              go_wp2_with fail
              refine wp_region_held_drew (S := (fun wq => Below wr.heap.size wr wq)) (by kernel_rfl) (Below.refl wr.heap.size wr).drew (fun hH0 => ?_)
              refine wpAnyH_take (i := 0) (v := ?_) (ops_at rfl) (by kernel_rfl) (by kernel_rfl) (by kernel_rfl) (fun _ _ _ h => h) (Or.inl ⟨by rfl, ?yo0⟩) (by assumption) ?no0
              case yo0 => (intro wS hSw; (try dsimp only at hSw); go_simp; try rfl)
              try simp only [Act.put, List.setIfInBounds_toArray, List.set_cons_zero, List.set_cons_succ]
              refine wpAnyH_take (i := 1) (v := ?_) (ops_at rfl) (by kernel_rfl) (by kernel_rfl) (by kernel_rfl) (fun _ _ _ h => h) (Or.inl ⟨by rfl, ?yo1⟩) (by assumption) ?no1
              case yo1 => (intro wS hSw; (try dsimp only at hSw); go_simp; try rfl)
              try simp only [Act.put, List.setIfInBounds_toArray, List.set_cons_zero, List.set_cons_succ]
              refine wpAnyH_take (i := 2) (v := ?_) (ops_at rfl) (by kernel_rfl) (by kernel_rfl) (by kernel_rfl) (fun _ _ _ h => h) (Or.inl ⟨by rfl, ?yo2⟩) (by assumption) ?no2
              case yo2 => (intro wS hSw; (try dsimp only at hSw); go_simp; try rfl)
              try simp only [Act.put, List.setIfInBounds_toArray, List.set_cons_zero, List.set_cons_succ]
              refine wpAnyH_take (i := 3) (v := undef) (ops_at rfl) (by kernel_rfl) (by kernel_rfl) (by kernel_rfl) (fun _ _ _ h => h) (Or.inr ⟨by rfl, rfl⟩) (by assumption) ?_
              try simp only [Act.put, List.setIfInBounds_toArray, List.set_cons_zero, List.set_cons_succ]
              refine wpAnyH_take (i := 4) (v := undef) (ops_at rfl) (by kernel_rfl) (by kernel_rfl) (by kernel_rfl) (fun _ _ _ h => h) (Or.inr ⟨by rfl, rfl⟩) (by assumption) ?_
              try simp only [Act.put, List.setIfInBounds_toArray, List.set_cons_zero, List.set_cons_succ]
              refine wpAnyH_take (i := 5) (v := undef) (ops_at rfl) (by kernel_rfl) (by kernel_rfl) (by kernel_rfl) (fun _ _ _ h => h) (Or.inr ⟨by rfl, rfl⟩) (by assumption) ?_
              try simp only [Act.put, List.setIfInBounds_toArray, List.set_cons_zero, List.set_cons_succ]
              refine wpAnyH_take (i := 6) (v := undef) (ops_at rfl) (by kernel_rfl) (by kernel_rfl) (by kernel_rfl) (fun _ _ _ h => h) (Or.inr ⟨by rfl, rfl⟩) (by assumption) ?_
              try simp only [Act.put, List.setIfInBounds_toArray, List.set_cons_zero, List.set_cons_succ]
              refine wpAnyH_take (i := 7) (v := undef) (ops_at rfl) (by kernel_rfl) (by kernel_rfl) (by kernel_rfl) (fun _ _ _ h => h) (Or.inr ⟨by rfl, rfl⟩) (by assumption) ?_
              try simp only [Act.put, List.setIfInBounds_toArray, List.set_cons_zero, List.set_cons_succ]
              refine wpAnyH_take (i := 8) (v := undef) (ops_at rfl) (by kernel_rfl) (by kernel_rfl) (by kernel_rfl) (fun _ _ _ h => h) (Or.inr ⟨by rfl, rfl⟩) (by assumption) ?_
              try simp only [Act.put, List.setIfInBounds_toArray, List.set_cons_zero, List.set_cons_succ]
              refine wpAnyH_take (i := 9) (v := undef) (ops_at rfl) (by kernel_rfl) (by kernel_rfl) (by kernel_rfl) (fun _ _ _ h => h) (Or.inr ⟨by rfl, rfl⟩) (by assumption) ?_
              try simp only [Act.put, List.setIfInBounds_toArray, List.set_cons_zero, List.set_cons_succ]
              refine wpAnyH_take (i := 10) (v := undef) (ops_at rfl) (by kernel_rfl) (by kernel_rfl) (by kernel_rfl) (fun _ _ _ h => h) (Or.inr ⟨by rfl, rfl⟩) (by assumption) ?_
              try simp only [Act.put, List.setIfInBounds_toArray, List.set_cons_zero, List.set_cons_succ]
              refine wpAnyH_take (i := 11) (v := undef) (ops_at rfl) (by kernel_rfl) (by kernel_rfl) (by kernel_rfl) (fun _ _ _ h => h) (Or.inr ⟨by rfl, rfl⟩) (by assumption) ?_
              try simp only [Act.put, List.setIfInBounds_toArray, List.set_cons_zero, List.set_cons_succ]
              refine wpAnyH_take (i := 12) (v := undef) (ops_at rfl) (by kernel_rfl) (by kernel_rfl) (by kernel_rfl) (fun _ _ _ h => h) (Or.inr ⟨by rfl, rfl⟩) (by assumption) ?_
              try simp only [Act.put, List.setIfInBounds_toArray, List.set_cons_zero, List.set_cons_succ]
              refine wpAnyH_take (i := 13) (v := undef) (ops_at rfl) (by kernel_rfl) (by kernel_rfl) (by kernel_rfl) (fun _ _ _ h => h) (Or.inr ⟨by rfl, rfl⟩) (by assumption) ?_
              try simp only [Act.put, List.setIfInBounds_toArray, List.set_cons_zero, List.set_cons_succ]
              refine wpAnyH_take (i := 14) (v := ?_) (ops_at rfl) (by kernel_rfl) (by kernel_rfl) (by kernel_rfl) (fun _ _ _ h => h) (Or.inl ⟨by rfl, ?yo14⟩) (by assumption) ?no14
              case yo14 => (intro wS hSw; (try dsimp only at hSw); go_simp; try rfl)
              try simp only [Act.put, List.setIfInBounds_toArray, List.set_cons_zero, List.set_cons_succ]
              refine wpAnyH_done (by kernel_rfl) ?_ _
              obtain ⟨wc, hwc⟩ : ∃ wc, wr.drew = wc := ⟨_, rfl⟩
              rw [hwc] at hH0 ⊢
              have HBC := Lib.hid hH0
              have HBW := Lib.hid (HWK.out.trans (HBC.out.mono HWK.out.size))
              clear hwc hH0
              go_wp2_with fail
              refine (l1Own_any (some ⟨g, 0, none⟩) 0 c (out.take 0) _ _ wc (by rw [List.length_take, HOL.out]; omega) (by omega) (HTK.out.below HBC.out (Nat.le_trans hzw hzk)) (Nat.le_trans (Nat.le_trans hzw hzk) HBC.out.size)).mono ?_
              rintro e w1 ⟨A2, c2, rfl, hown1, hb1⟩
              have hz1' := hb1.size
              have HOW1 := Lib.hid (hown1.alloc (.cells #[.int .i64 (k : Int)] 3))
              have HS1 := Lib.hid (seg_one w1 (k : Int) 3)
              have HLT1 := Lib.hid hown1.lt
              have HB1 := Lib.hid hb1
              clear hown1 hb1
              go_wp2_with (first | (at_builtin; refine wpList_append_seg _ rfl _ _ 22 rfl wc.heap.size 3 i0 Try.underlying22 hi0 hz0 hz1 hz2 _ 0 _ rfl HOW1.out _ 1 1 [(k : Int)] _ _ rfl rfl HS1.out (by omega) (by simp; omega) ?_; intro v3 w3 hown3 hgr3; have hb3 : Below wc.heap.size wc w3 := (HB1.out.alloc hz1' _).grown hgr3 (by simp; omega) (fun g' hg' => (HLT1.out g' hg').1); have HB3 := Lib.hid hb3; have HOW3 := Lib.hid (show w3.ownsRow wc.heap.size 3 1 v3 (0 + 1) (((out.take 0) ++ [(k : Int)]).map (Value.int .i64)) by simpa using hown3); have HS3 := Lib.hid ((HSTL.out).below (HBC.out.trans (hb3.mono HBC.out.size)) (by omega)); have HLT3 := Lib.hid hown3.lt; clear HOW1 hown3 hgr3 hb3; obtain ⟨A3, c3, rfl⟩ := ownsRow_form HOW3.out) | (at_builtin; refine wpList_append_seg _ rfl _ _ 22 rfl wc.heap.size 3 i0 Try.underlying22 hi0 hz0 hz1 hz2 _ (0 + 1) _ rfl HOW3.out _ k _ out _ _ rfl HOL.out HS3.out (by omega) HB3.out.size ?_; intro v5 w5 hown5 hgr5; have HB5 := Lib.hid (HB3.out.grown hgr5 HB3.out.size (fun g' hg' => (HLT3.out g' hg').1)); have HOW5 := Lib.hid (show w5.ownsRow wc.heap.size 3 1 v5 (0 + 1 + k) (((out.take 0) ++ [(k : Int)] ++ out).map (Value.int .i64)) by simpa [List.map_append] using hown5); clear HOW3 hown5 hgr5; obtain ⟨A5, c5, rfl⟩ := ownsRow_form HOW5.out))
              go_roundw
              case rel =>
                have hl : (0 + 1 + k) = k + 1 := by omega
                have he : (out.take 0) ++ [(k : Int)] ++ out = insG (upP ra ts) out (k : Int) := by rw [HAT.out, atG]; simp
                have h := HOW5.out
                rw [he, hl] at h
                try rw [hl]
                have hBB := HBW.out.trans (HB5.out.mono HBW.out.size)
                exact ⟨k + 1, by omega, by first | rfl | go_num, hBB, ⟨_, HNX.out, own_mono h HBW.out.size⟩, fun h0 => by omega⟩
              case measure => first | (simp [intOf]; done) | (simp [intOf]; omega)
            · clear hvv hcs hnil hsT
              obtain ⟨g', oo, xx', hA, _, _, hx', hcx⟩ := HOS.out.at_ (k := jj) (by rw [HOL.out]; omega)
              obtain ⟨rfl, rfl⟩ : g = g' ∧ 0 = oo := by injection hA with hA; injection hA with h1 h2; exact ⟨h1, h2⟩
              obtain rfl : xx = xx' := by rw [hxo] at hx'; injection hx'
              have hxm := HMEM.out xx (List.mem_of_getElem? hxo)
              obtain ⟨xn, rfl⟩ : ∃ xn : Nat, xx = (xn : Int) := ⟨xx.toNat, by omega⟩
              rw [Nat.zero_add] at hcx
              obtain ⟨b2, o2, x2, y2, z2, hA2, _, hb2, hx2, r0, r1, r2⟩ := (((HS.out.below HB0.out hB).below hb (by omega)).below (HB4.out.trans (HBK.out.mono hzw)) (by omega)).tri (k := xn) (by rw [HN.out]; omega)
              obtain ⟨rfl, rfl⟩ : bq = b2 ∧ oq = o2 := by injection hA2 with hA; injection hA with h1 h2; exact ⟨h1, h2⟩
              have HQC := Lib.hid (And.intro r0 (And.intro r1 r2))
              have HCO := Lib.hid (((HB4.out.trans (HBK.out.mono hzw)).cell (cell_lt hcx)).trans hcx)
              have hpk := (HBK.out.block _ (heap_lt HP4.out)).trans HP4.out
              have HPC := Lib.hid (show _ ∧ _ ∧ _ from ⟨(cell_of hpk 0).trans (by rfl : _ = some (Value.int .i64 x)), (cell_of hpk 1).trans (by rfl : _ = some (Value.int .i64 y)), (cell_of hpk 2).trans (by rfl : _ = some (Value.int .i64 z))⟩)
              have HIT2 := Lib.hid (HG.out.all _ (List.mem_of_getElem? hx2))
              have HUP := Lib.hid (show bef2 ra x y z x2 y2 z2 = false by have h1 := HXY.out; have h2 := itm_trip hx2; have h3 : upP ra ts (k : Int) (xn : Int) = false := hnlt; rw [upP, h1.1, h1.2.1, h1.2.2, h2.1, h2.2.1, h2.2.2] at h3; exact h3)
              have hxn : (xn : Int) < (n : Int) := by omega
              clear hx2 hA2 r0 r1 r2 hx' hcx hpk hA
              have hjd : (0 : Int) < (jj : Int) + 1 := by omega
              have hjw : IntKind.i64.wrap (jj : Int) = (jj : Int) := by rw [IntKind.wrap_i64]; omega
              have hj0 : (0 : Int) ≤ (jj : Int) := by omega
              have hjk : (jj : Int) < (k : Int) := by omega
              clear hxo hnlt
              go_wp2_with fail
              refine wp_region_held_drew (S := (fun wq => Below wr.heap.size wr wq ∧ wq.cell? ⟨g, jj, none⟩ = some (.int .i64 (xn : Int)) ∧ (wq.cell? ⟨wz.heap.size, 0, none⟩ = some (.int .i64 x) ∧ wq.cell? ⟨wz.heap.size, 1, none⟩ = some (.int .i64 y) ∧ wq.cell? ⟨wz.heap.size, 2, none⟩ = some (.int .i64 z)) ∧ wq.cell? ⟨bq, oq + xn * 3, none⟩ = some (.int .i64 x2) ∧ wq.cell? ⟨bq, oq + xn * 3 + 1, none⟩ = some (.int .i64 y2) ∧ wq.cell? ⟨bq, oq + xn * 3 + 2, none⟩ = some (.int .i64 z2))) (by kernel_rfl) ⟨(Below.refl wr.heap.size wr).drew, HCO.out, HPC.out, HQC.out⟩ (fun hH0 => ?_)
              refine wpAnyH_take (i := 0) (v := ?_) (ops_at rfl) (by kernel_rfl) (by kernel_rfl) (by kernel_rfl) (fun _ _ _ h => h) (Or.inl ⟨by rfl, ?yf0⟩) (by assumption) ?nf0
              case yf0 => (intro wS hSw; (try dsimp only at hSw); go_simp; try rfl)
              try simp only [Act.put, List.setIfInBounds_toArray, List.set_cons_zero, List.set_cons_succ]
              refine wpAnyH_take (i := 1) (v := ?_) (ops_at rfl) (by kernel_rfl) (by kernel_rfl) (by kernel_rfl) (fun _ _ _ h => h) (Or.inl ⟨by rfl, ?yf1⟩) (by assumption) ?nf1
              case yf1 => (intro wS hSw; (try dsimp only at hSw); go_simp; try rfl)
              try simp only [Act.put, List.setIfInBounds_toArray, List.set_cons_zero, List.set_cons_succ]
              refine wpAnyH_take (i := 2) (v := ?_) (ops_at rfl) (by kernel_rfl) (by kernel_rfl) (by kernel_rfl) (fun _ _ _ h => h) (Or.inl ⟨by rfl, ?yf2⟩) (by assumption) ?nf2
              case yf2 => (intro wS hSw; (try dsimp only at hSw); go_simp; try rfl)
              try simp only [Act.put, List.setIfInBounds_toArray, List.set_cons_zero, List.set_cons_succ]
              refine wpAnyH_take (i := 3) (v := ?_) (ops_at rfl) (by kernel_rfl) (by kernel_rfl) (by kernel_rfl) (fun _ _ _ h => h) (Or.inl ⟨by rfl, ?yf3⟩) (by assumption) ?nf3
              case yf3 => (intro wS hSw; (try dsimp only at hSw); go_simp; try rfl)
              try simp only [Act.put, List.setIfInBounds_toArray, List.set_cons_zero, List.set_cons_succ]
              refine wpAnyH_take (i := 4) (v := ?_) (ops_at rfl) (by kernel_rfl) (by kernel_rfl) (by kernel_rfl) (fun _ _ _ h => h) (Or.inl ⟨by rfl, ?yf4⟩) (by assumption) ?nf4
              case yf4 => (intro wS hSw; (try dsimp only at hSw); go_simp; try rfl)
              try simp only [Act.put, List.setIfInBounds_toArray, List.set_cons_zero, List.set_cons_succ]
              refine wpAnyH_take (i := 5) (v := ?_) (ops_at rfl) (by kernel_rfl) (by kernel_rfl) (by kernel_rfl) (fun _ _ _ h => h) (Or.inl ⟨by rfl, ?yf5⟩) (by assumption) ?nf5
              case yf5 => (intro wS hSw; (try dsimp only at hSw); go_simp; try rfl)
              try simp only [Act.put, List.setIfInBounds_toArray, List.set_cons_zero, List.set_cons_succ]
              refine wpAnyH_take (i := 6) (v := ?_) (ops_at rfl) (by kernel_rfl) (by kernel_rfl) (by kernel_rfl) (fun _ _ _ h => h) (Or.inl ⟨by rfl, ?yf6⟩) (by assumption) ?nf6
              case yf6 => (intro wS hSw; (try dsimp only at hSw); go_simp; try rfl)
              try simp only [Act.put, List.setIfInBounds_toArray, List.set_cons_zero, List.set_cons_succ]
              refine wpAnyH_take (i := 7) (v := ?_) (ops_at rfl) (by kernel_rfl) (by kernel_rfl) (by kernel_rfl) (fun _ _ _ h => h) (Or.inl ⟨by rfl, ?yf7⟩) (by assumption) ?nf7
              case yf7 => (intro wS hSw; (try dsimp only at hSw); go_simp; try rfl)
              try simp only [Act.put, List.setIfInBounds_toArray, List.set_cons_zero, List.set_cons_succ]
              refine wpAnyH_take (i := 8) (v := ?_) (ops_at rfl) (by kernel_rfl) (by kernel_rfl) (by kernel_rfl) (fun _ _ _ h => h) (Or.inl ⟨by rfl, ?yf8⟩) (by assumption) ?nf8
              case yf8 => (intro wS hSw; (try dsimp only at hSw); go_simp; try rfl)
              try simp only [Act.put, List.setIfInBounds_toArray, List.set_cons_zero, List.set_cons_succ]
              refine wpAnyH_take (i := 9) (v := ?_) (ops_at rfl) (by kernel_rfl) (by kernel_rfl) (by kernel_rfl) (fun _ _ _ h => h) (Or.inl ⟨by rfl, ?yf9⟩) (by assumption) ?nf9
              case yf9 => (intro wS hSw; (try dsimp only at hSw); go_simp; try rfl)
              try simp only [Act.put, List.setIfInBounds_toArray, List.set_cons_zero, List.set_cons_succ]
              refine wpAnyH_take (i := 10) (v := ?_) (ops_at rfl) (by kernel_rfl) (by kernel_rfl) (by kernel_rfl) (fun _ _ _ h => h) (Or.inl ⟨by rfl, ?yf10⟩) (by assumption) ?nf10
              case yf10 => (intro wS hSw; (try dsimp only at hSw); go_simp; try rfl)
              try simp only [Act.put, List.setIfInBounds_toArray, List.set_cons_zero, List.set_cons_succ]
              refine wpAnyH_take (i := 11) (v := ?_) (ops_at rfl) (by kernel_rfl) (by kernel_rfl) (by kernel_rfl) (fun _ _ _ h => h) (Or.inl ⟨by rfl, ?yf11⟩) (by assumption) ?nf11
              case yf11 => (intro wS hSw; (try dsimp only at hSw); go_simp; try rfl)
              try simp only [Act.put, List.setIfInBounds_toArray, List.set_cons_zero, List.set_cons_succ]
              refine wpAnyH_take (i := 12) (v := ?_) (ops_at rfl) (by kernel_rfl) (by kernel_rfl) (by kernel_rfl) (fun _ _ _ h => h) (Or.inl ⟨by rfl, ?yf12⟩) (by assumption) ?nf12
              case yf12 => (intro wS hSw; (try dsimp only at hSw); go_simp; try rfl)
              try simp only [Act.put, List.setIfInBounds_toArray, List.set_cons_zero, List.set_cons_succ]
              refine wpAnyH_ready (rs := [13]) (by kernel_rfl) (by simp) ?_
              refine AllReadyH.cons (ops_at rfl) (fun K hK => ?_) AllReadyH.nil
              go_simp
              refine (suBefore_any x y z x2 y2 z2 ra _ HIT.out HIT2.out false HUP.out).mono ?_
              rintro e wb ⟨rfl, hbb⟩
              dsimp only
              refine hK.out _ _ (keepSP hH0 hbb) (fun hHb => ?_)
              clear hK K
              refine wpAnyH_take (i := 14) (v := ?_) (ops_at rfl) (by kernel_rfl) (by kernel_rfl) (by kernel_rfl) (fun _ _ _ h => h) (Or.inl ⟨by rfl, ?yf14⟩) (by assumption) ?nf14
              case yf14 => (intro wS hSw; (try dsimp only at hSw); go_simp; try rfl)
              try simp only [Act.put, List.setIfInBounds_toArray, List.set_cons_zero, List.set_cons_succ]
              refine wpAnyH_done (by kernel_rfl) ?_ _
              obtain ⟨wc, rfl⟩ : ∃ wc, wc = wb := ⟨_, rfl⟩
              have HBC := Lib.hid hHb.1
              have HBW := Lib.hid (HWK.out.trans (HBC.out.mono HWK.out.size))
              clear hHb hH0 hbb
              go_wp2_with fail
              refine (l1Own_any (some ⟨g, 0, none⟩) (jj + 1) c (out.take (jj + 1)) _ _ wc (by rw [List.length_take, HOL.out]; omega) (by omega) (HTK.out.below HBC.out (Nat.le_trans hzw hzk)) (Nat.le_trans (Nat.le_trans hzw hzk) HBC.out.size)).mono ?_
              rintro e w1 ⟨A2, c2, rfl, hown1, hb1⟩
              have hz1' := hb1.size
              have HOW1 := Lib.hid (hown1.alloc (.cells #[.int .i64 (k : Int)] 3))
              have HS1 := Lib.hid (seg_one w1 (k : Int) 3)
              have HLT1 := Lib.hid hown1.lt
              have HB1 := Lib.hid hb1
              clear hown1 hb1
              go_wp2_with (first | (at_builtin; refine wpList_append_seg _ rfl _ _ 22 rfl wc.heap.size 3 i0 Try.underlying22 hi0 hz0 hz1 hz2 _ (jj + 1) _ rfl HOW1.out _ 1 1 [(k : Int)] _ _ rfl rfl HS1.out (by omega) (by simp; omega) ?_; intro v3 w3 hown3 hgr3; have hb3 : Below wc.heap.size wc w3 := (HB1.out.alloc hz1' _).grown hgr3 (by simp; omega) (fun g' hg' => (HLT1.out g' hg').1); have HB3 := Lib.hid hb3; have HOW3 := Lib.hid (show w3.ownsRow wc.heap.size 3 1 v3 ((jj + 1) + 1) (((out.take (jj + 1)) ++ [(k : Int)]).map (Value.int .i64)) by simpa using hown3); have HS3 := Lib.hid ((HSTL.out).below (HBC.out.trans (hb3.mono HBC.out.size)) (by omega)); have HLT3 := Lib.hid hown3.lt; clear HOW1 hown3 hgr3 hb3; obtain ⟨A3, c3, rfl⟩ := ownsRow_form HOW3.out) | (at_builtin; refine wpList_append_seg _ rfl _ _ 22 rfl wc.heap.size 3 i0 Try.underlying22 hi0 hz0 hz1 hz2 _ ((jj + 1) + 1) _ rfl HOW3.out _ (k - (jj + 1)) _ (out.drop (jj + 1)) _ _ rfl (by rw [List.length_drop, HOL.out]) HS3.out (by omega) HB3.out.size ?_; intro v5 w5 hown5 hgr5; have HB5 := Lib.hid (HB3.out.grown hgr5 HB3.out.size (fun g' hg' => (HLT3.out g' hg').1)); have HOW5 := Lib.hid (show w5.ownsRow wc.heap.size 3 1 v5 ((jj + 1) + 1 + (k - (jj + 1))) (((out.take (jj + 1)) ++ [(k : Int)] ++ (out.drop (jj + 1))).map (Value.int .i64)) by simpa [List.map_append] using hown5); clear HOW3 hown5 hgr5; obtain ⟨A5, c5, rfl⟩ := ownsRow_form HOW5.out))
              go_roundw
              case rel =>
                have hl : ((jj + 1) + 1 + (k - (jj + 1))) = k + 1 := by omega
                have he : (out.take (jj + 1)) ++ [(k : Int)] ++ (out.drop (jj + 1)) = insG (upP ra ts) out (k : Int) := by rw [HAT.out, atG]; simp
                have h := HOW5.out
                rw [he, hl] at h
                try rw [hl]
                have hBB := HBW.out.trans (HB5.out.mono HBW.out.size)
                exact ⟨k + 1, by omega, by first | rfl | go_num, hBB, ⟨_, HNX.out, own_mono h HBW.out.size⟩, fun h0 => by omega⟩
              case measure => first | (simp [intOf]; done) | (simp [intOf]; omega)
    · obtain rfl : k = n := by omega
      have e : sortG (upP ra ts) ((below k).take k) = ordP ra ts := by rw [List.take_of_length_le (by rw [below_length]; exact Nat.le_refl _), ordP, HN.out]
      obtain rfl : ordP ra ts = out := e.symm.trans HOUT.out
      have HSEGO := Lib.hid hoseg
      have HB1 := Lib.hid hb
      have hz1w : w.heap.size + 1 ≤ wr.heap.size := by omega
      clear hown hoseg hnil e hb hcap hlt
      obtain ⟨wz, rfl⟩ : ∃ wz, wz = wr := ⟨_, rfl⟩
      go_wp2
      go_loopw [12, 14, 15, 57] (fun v _ _ i wr => ∃ k2 : Nat, k2 ≤ k ∧ i = .int .i64 (k2 : Int) ∧ Below wz.heap.size wz wr ∧ ∃ m, (outP ts W B ((ordP ra ts).take k2)).length = m ∧ wr.ownsRow wz.heap.size 3 1 v m ((outP ts W B ((ordP ra ts).take k2)).map (Value.int .i64))) (fun _ _ _ i _ => k - (intOf i).toNat)
      case atStart => exact ⟨0, Nat.zero_le _, rfl, Below.refl _ _, 0, rfl, World.ownsRow_nil _ _ _ _⟩
      case round =>
        obtain ⟨k2, hk2, rfl, hb2, m, hm, hown2⟩ := hrel
        obtain ⟨A2, c2, rfl⟩ := ownsRow_form hown2
        have hz2w := hb2.size
        have HB2 := Lib.hid hb2
        have hmle : m ≤ 10 := by have := outP_len (ra := ra) (ts := ts) (W := W) (B := B) k2; rw [hm, HN.out] at this; omega
        have HSO := Lib.hid (ownsRow_own (ys := outP ts W B ((ordP ra ts).take k2)) (by rw [hm]; exact hown2)).2.seg
        have HM := Lib.hid hm
        have HOWN := Lib.hid hown2
        clear hm hown2
        by_cases hlt2 : k2 < k
        · obtain ⟨bo, oo, xk, rfl, _, _, hxk, hck⟩ := (HSEGO.out.below hb2 (Nat.le_refl _)).at_ (k := k2) (by rw [HOL.out]; exact hlt2)
          have HXK := Lib.hid hxk
          have HFR := Lib.hid (show xk ∉ outP ts W B ((ordP ra ts).take k2) from fun h => next_fresh hxk ((sortG_perm _ _).mem_iff.1 h))
          have HRS := Lib.hid (outP_rises (ra := ra) (ts := ts) (W := W) (B := B) k2)
          have HINC := Lib.hid (show incI ts.length (insG upLt (outP ts W B ((ordP ra ts).take k2)) xk) = true from inc_of_rises (insLt_rises HRS.out HFR.out) (insG_mem (fun u hu => outP_mem (ra := ra) hu) (ordP_mem (ra := ra) (List.mem_of_getElem? hxk))))
          have HFIT := Lib.hid (fit_ins (ra := ra) (ts := ts) (W := W) (B := B) (k := k2) xk)
          have hlt2' : (k2 : Int) < (k : Int) := by omega
          clear hxk hb2
          go_wp2_with fail
          refine (l1Own_any A2 m c2 _ _ _ wr HM.out (by omega) HSO.out (Nat.le_refl _)).mono ?_
          rintro e w1 ⟨A3, c3, rfl, hown3, hb3⟩
          have HB3 := Lib.hid (HB2.out.trans (hb3.mono hz2w))
          have HOW3 := Lib.hid hown3
          have hz3w := hb3.size
          have HKEEP := Lib.hid (row_below HOWN.out hb3)
          clear hown3 hb3 hck
          go_wp2_with fail
          refine (l1Put_any A3 m c3 wr.heap.size _ xk w1 HOW3.out (by omega) HRS.out HFR.out hz3w).mono ?_
          rintro e w2 ⟨A4, c4, rfl, hown4, hb4⟩
          have HB4 := Lib.hid (HB3.out.trans (hb4.mono (by omega)))
          have hz4w := hb4.size
          have HKEEP2 := Lib.hid (row_below HKEEP.out hb4)
          have hlen4 : (insG upLt (outP ts W B ((ordP ra ts).take k2)) xk).length = m + 1 := by rw [insG_length, HM.out]
          have HLEN4 := Lib.hid hlen4
          have HS4 := Lib.hid (ownsRow_own (ys := insG upLt (outP ts W B ((ordP ra ts).take k2)) xk) (by rw [hlen4]; exact hown4)).2.seg
          have HOW4 := Lib.hid (own_mono hown4 (show wz.heap.size ≤ w1.heap.size by omega))
          have hbx := (HB4.out.block _ (by omega)).trans ((HB1.out.block _ (by omega)).trans HBOX.out)
          have b0 := cell_of hbx 0
          have b1 := cell_of hbx 1
          have HS5 := Lib.hid ((HS.out.below HB0.out hB).below (HB1.out.trans (HB4.out.mono HB1.out.size)) (by omega))
          obtain ⟨q, hq⟩ : ∃ q, fitI ts W B (insG upLt (outP ts W B ((ordP ra ts).take k2)) xk) = q := ⟨_, rfl⟩
          have HQ := Lib.hid hq
          clear hown4 hb4 hlen4 hbx hq
          cases q
          · go_wp2_with fail
            refine (suFits_any A0 A4 k c0 (m + 1) c4 W B ts _ lo hi w1.heap.size w2.heap.size w2 HN.out HG.out HLEN4.out HINC.out HS5.out (by omega) HS4.out (Nat.le_refl _) false HQ.out).mono ?_
            rintro e w3 ⟨rfl, hb5⟩
            have HB5 := Lib.hid (HB4.out.trans (hb5.mono (by omega)))
            have HFIN := Lib.hid (row_below HKEEP2.out hb5)
            clear hb5 b0 b1
            go_wp2
            go_roundw
            case rel => exact ⟨k2 + 1, by omega, by go_num, HB5.out, m, by rw [outP_no HXK.out (by rw [← HFIT.out, HQ.out]; simp)]; exact HM.out, by rw [outP_no HXK.out (by rw [← HFIT.out, HQ.out]; simp)]; exact HFIN.out⟩
            case measure => simp [intOf]; omega
          · go_wp2_with fail
            refine (suFits_any A0 A4 k c0 (m + 1) c4 W B ts _ lo hi w1.heap.size w2.heap.size w2 HN.out HG.out HLEN4.out HINC.out HS5.out (by omega) HS4.out (Nat.le_refl _) true HQ.out).mono ?_
            rintro e w3 ⟨rfl, hb5⟩
            have HB5 := Lib.hid (HB4.out.trans (hb5.mono (by omega)))
            have HFIN := Lib.hid (row_below HOW4.out hb5)
            clear hb5 b0 b1
            go_wp2
            go_roundw
            case rel => exact ⟨k2 + 1, by omega, by go_num, HB5.out, m + 1, by rw [outP_yes HXK.out (by rw [← HFIT.out, HQ.out])]; exact HLEN4.out, by rw [outP_yes HXK.out (by rw [← HFIT.out, HQ.out])]; exact HFIN.out⟩
            case measure => simp [intOf]; omega
        · obtain rfl : k2 = k := by omega
          have hfull : (ordP ra ts).take k2 = ordP ra ts := List.take_of_length_le (by rw [HOL.out]; exact Nat.le_refl _)
          have hpk : outP ts W B ((ordP ra ts).take k2) = packP ra ts W B := by rw [hfull]; rfl
          have hown := HOWN.out
          have hm := HM.out
          rw [hpk] at hown hm
          have hoo := (ownsRow_own (ys := packP ra ts W B) (by rw [hm]; exact hown)).2
          have HOO := Lib.hid hoo
          have HMM := Lib.hid hm
          clear hown hm hoo hpk hfull hb2
          go_wp2
          go_ret
          exact ⟨A2, m, c2, rfl, HMM.out, HOO.out.more (by omega) (Nat.le_refl _), HB0.out.trans ((HB1.out.trans (HB2.out.mono HB1.out.size)).mono (by omega))⟩

set_option maxRecDepth 100000 in
set_option maxHeartbeats 1000000 in
theorem spec_PackByValue (A0 : Option Addr) (n c0 : Nat) (W B : Int) (ts : List (Int × Int × Int)) (lo hi : Nat) (w : World) (hn : ts.length = n) (hlen : n ≤ 1048576) (hs : Seg w lo hi A0 (flat3 ts)) (hB : hi ≤ w.heap.size) (q : Bool) (hq : askI ts W B = q) :
    Calls Try.prog 25 #[.slice A0 n c0, .agg #[.int .i64 W, .int .i64 B]] w (RetL q (someN q (packP false ts W B)) w) := by
  have hbox := new_at w (.cells #[.int .i64 W, .int .i64 B] 41) rfl
  have hB0 := (Below.refl w.heap.size w).alloc (Nat.le_refl _) (.cells #[.int .i64 W, .int .i64 B] 41)
  obtain ⟨W0, hW0⟩ : ∃ W0, w.alloc (.cells #[.int .i64 W, .int .i64 B] 41) = W0 := ⟨_, rfl⟩
  have b0 := cell_of hbox 0
  have b1 := cell_of hbox 1
  have hzW0 : w.heap.size + 1 ≤ W0.heap.size := by rw [← hW0]; simp
  have HBX := Lib.hid (show W0.heap[w.heap.size]? = some (.cells #[.int .i64 W, .int .i64 B] 41 (0, 0)) by rw [← hW0]; exact hbox)
  rw [hW0] at hB0
  have HB0 := Lib.hid hB0
  have HA := Lib.hid (suAsked_any A0 n c0 W B ts lo hi W0 hn hlen (hs.below hB0 hB) (by omega) q hq)
  have HN := Lib.hid hn
  have HS := Lib.hid hs
  have HW0 := Lib.hid hW0
  clear hbox hB0 hW0 hn hs
  cases q
  · clear hq
    go_enter Try.func25, Try.ntmps25
    go_wp2_with fail
    rw [HW0.out]
    refine HA.out.mono ?_
    rintro e w1 ⟨rfl, hb1⟩
    have HB1 := Lib.hid (HB0.out.trans (hb1.mono (by omega)))
    clear hb1 b0 b1
    go_wp2
    go_ret2
    exact ⟨none, 0, 0, rfl, rfl, .inl rfl, HB1.out⟩
  · have HG := Lib.hid (goodI_ok (askI_true.1 hq).1)
    clear hq
    go_enter Try.func25, Try.ntmps25
    go_wp2_with fail
    rw [HW0.out]
    refine HA.out.mono ?_
    rintro e w1 ⟨rfl, hb1⟩
    have HB1 := Lib.hid (HB0.out.trans (hb1.mono (by omega)))
    have hz1 := hb1.size
    have hbx := (hb1.block _ (by omega)).trans HBX.out
    clear hb1 b0 b1
    have b0 := cell_of hbx 0
    have b1 := cell_of hbx 1
    clear hbx
    go_wp2_with fail
    refine (suTake_any A0 n c0 W B false ts lo hi w1 HN.out HG.out (HS.out.below HB1.out hB) (by omega)).mono ?_
    rintro e w2 ⟨A', n', c', rfl, hl, ho, hb2⟩
    have HB2 := Lib.hid (HB1.out.trans (hb2.mono (by omega)))
    have HL := Lib.hid hl
    have HO := Lib.hid ho
    clear b0 b1 hl ho hb2
    go_wp2
    go_ret2
    exact ⟨A', n', c', rfl, HL.out, HO.out.more (by omega) (Nat.le_refl _), HB2.out⟩

set_option maxRecDepth 100000 in
set_option maxHeartbeats 1000000 in
theorem spec_PackByRatio (A0 : Option Addr) (n c0 : Nat) (W B : Int) (ts : List (Int × Int × Int)) (lo hi : Nat) (w : World) (hn : ts.length = n) (hlen : n ≤ 1048576) (hs : Seg w lo hi A0 (flat3 ts)) (hB : hi ≤ w.heap.size) (q : Bool) (hq : askI ts W B = q) :
    Calls Try.prog 28 #[.slice A0 n c0, .agg #[.int .i64 W, .int .i64 B]] w (RetL q (someN q (packP true ts W B)) w) := by
  have hbox := new_at w (.cells #[.int .i64 W, .int .i64 B] 41) rfl
  have hB0 := (Below.refl w.heap.size w).alloc (Nat.le_refl _) (.cells #[.int .i64 W, .int .i64 B] 41)
  obtain ⟨W0, hW0⟩ : ∃ W0, w.alloc (.cells #[.int .i64 W, .int .i64 B] 41) = W0 := ⟨_, rfl⟩
  have b0 := cell_of hbox 0
  have b1 := cell_of hbox 1
  have hzW0 : w.heap.size + 1 ≤ W0.heap.size := by rw [← hW0]; simp
  have HBX := Lib.hid (show W0.heap[w.heap.size]? = some (.cells #[.int .i64 W, .int .i64 B] 41 (0, 0)) by rw [← hW0]; exact hbox)
  rw [hW0] at hB0
  have HB0 := Lib.hid hB0
  have HA := Lib.hid (suAsked_any A0 n c0 W B ts lo hi W0 hn hlen (hs.below hB0 hB) (by omega) q hq)
  have HN := Lib.hid hn
  have HS := Lib.hid hs
  have HW0 := Lib.hid hW0
  clear hbox hB0 hW0 hn hs
  cases q
  · clear hq
    go_enter Try.func28, Try.ntmps28
    go_wp2_with fail
    rw [HW0.out]
    refine HA.out.mono ?_
    rintro e w1 ⟨rfl, hb1⟩
    have HB1 := Lib.hid (HB0.out.trans (hb1.mono (by omega)))
    clear hb1 b0 b1
    go_wp2
    go_ret2
    exact ⟨none, 0, 0, rfl, rfl, .inl rfl, HB1.out⟩
  · have HG := Lib.hid (goodI_ok (askI_true.1 hq).1)
    clear hq
    go_enter Try.func28, Try.ntmps28
    go_wp2_with fail
    rw [HW0.out]
    refine HA.out.mono ?_
    rintro e w1 ⟨rfl, hb1⟩
    have HB1 := Lib.hid (HB0.out.trans (hb1.mono (by omega)))
    have hz1 := hb1.size
    have hbx := (hb1.block _ (by omega)).trans HBX.out
    clear hb1 b0 b1
    have b0 := cell_of hbx 0
    have b1 := cell_of hbx 1
    clear hbx
    go_wp2_with fail
    refine (suTake_any A0 n c0 W B true ts lo hi w1 HN.out HG.out (HS.out.below HB1.out hB) (by omega)).mono ?_
    rintro e w2 ⟨A', n', c', rfl, hl, ho, hb2⟩
    have HB2 := Lib.hid (HB1.out.trans (hb2.mono (by omega)))
    have HL := Lib.hid hl
    have HO := Lib.hid ho
    clear b0 b1 hl ho hb2
    go_wp2
    go_ret2
    exact ⟨A', n', c', rfl, HL.out, HO.out.more (by omega) (Nat.le_refl _), HB2.out⟩
end Go.Proofs.Ytjpejhpilfjheab

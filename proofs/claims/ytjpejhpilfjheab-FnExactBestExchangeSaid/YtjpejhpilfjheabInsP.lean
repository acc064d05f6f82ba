/-
  The library's stable sort of at most twelve indices, by whatever comparison is told.
  Conditions: at most twelve indices; the comparison tells which of two comes first.
-/
import Derived.Test.YtjpejhpilfjheabInsG
import Derived.Test.YtjpejhpilfjheabRowI
import Derived.Test.YtjpejhpilfjheabSortOrd
import Derived.Deep.RegionHeld3
import Derived.BigRegion
namespace Go.Proofs.Ytjpejhpilfjheab
set_option linter.unusedVariables false
set_option linter.unusedSimpArgs false
open Go.RowKit

set_option maxHeartbeats 4000000 in
theorem insP_any (up : Int → Int → Bool) (m gc gl g T N n c : Nat) (bs : List Int) (w : World) (HCMP : Hid (∀ (V : World) (i j : Nat), Only (fun b => b = g) w V → i < m → j < m → Calls Try.prog 89 #[.int .i64 (i : Int), .int .i64 (j : Int), .pointer (some ⟨gc, 0, none⟩), .pointer (some ⟨gl, 0, none⟩)] V fun e V' => ∃ r, e = .returned (.int .i64 r) ∧ decide (r < 0) = up (i : Int) (j : Int) ∧ Below V.heap.size V V')) (hbs : ∀ b ∈ bs, 0 ≤ b ∧ b < (m : Int)) (hn : bs.length = n) (hn1 : 1 ≤ n) (hn12 : n ≤ 12) (h : Row w g T N bs) :
    Calls Try.prog 116 #[.slice (some ⟨g, 0, none⟩) n c, .int .i64 0, .int .i64 (n : Int), .func (.func 89) #[] #[.pointer (some ⟨gc, 0, none⟩), .pointer (some ⟨gl, 0, none⟩)]] w fun e w' =>
      e = .returned (.tuple #[]) ∧ Row w' g T N (sortG (up) bs) ∧ Only (fun b => b = g) w w' := by
  have HN := Lib.hid hn
  have HBS := Lib.hid hbs
  have HGW := Lib.hid h.lt
  have hfirst : sortG (up) (bs.take 1) ++ bs.drop 1 = bs := by
    match bs, hn with
    | [], hn => simp at hn; omega
    | b :: bs, hn => rfl
  have H0 := Lib.hid (show Row w g T N (sortG (up) (bs.take 1) ++ bs.drop 1) by rw [hfirst]; exact h)
  clear hn h hfirst hbs
  go_enter Try.func116, Try.ntmps116
  go_wp2
  go_loopw [8, 9] (fun i _ wr => ∃ k : Nat, 1 ≤ k ∧ k ≤ n ∧ i = .int .i64 (k : Int) ∧ Row wr g T N (sortG (up) (bs.take k) ++ bs.drop k) ∧ Only (fun b => b = g) w wr) (fun i _ _ => n - (intOf i).toNat)
  case atStart => exact ⟨1, Nat.le_refl _, hn1, rfl, H0.out, Only.refl _ _⟩
  case round =>
    obtain ⟨k, hk1, hk, rfl, hrow, honly⟩ := hrel
    by_cases hlt : k < n
    · obtain ⟨b, hb⟩ : ∃ b, bs[k]? = some b := ⟨_, List.getElem?_eq_getElem (by rw [HN.out]; exact hlt)⟩
      have hbm := HBS.out b (List.mem_of_getElem? hb)
      have hmem : ∀ x ∈ sortG (up) (bs.take k), 0 ≤ x ∧ x < (m : Int) := sortG_mem (fun x hx => HBS.out x (List.mem_of_mem_take hx))
      have hnext := sortG_next (up) hb
      have hdrop : bs.drop k = b :: bs.drop (k + 1) := by
        obtain ⟨hk', rfl⟩ := List.getElem?_eq_some_iff.1 hb
        exact List.drop_eq_getElem_cons hk'
      have hlen : (sortG (up) (bs.take k)).length = k := by rw [sortG_length, List.length_take, HN.out]; omega
      rw [hdrop] at hrow
      obtain ⟨out, hout⟩ : ∃ out, sortG (up) (bs.take k) = out := ⟨_, rfl⟩
      obtain ⟨rest, hrest⟩ : ∃ rest, bs.drop (k + 1) = rest := ⟨_, rfl⟩
      rw [hout] at hnext hmem hlen hrow
      rw [hrest] at hrow
      rw [← atG_end, hlen] at hrow
      have HNX := Lib.hid hnext
      have HR := Lib.hid hrest
      have HL := Lib.hid hlen
      have HMEM := Lib.hid hmem
      obtain ⟨bn, rfl⟩ : ∃ bn : Nat, b = (bn : Int) := ⟨b.toNat, by omega⟩
      have HROW := Lib.hid hrow
      clear hnext hdrop hmem hlen hrow hout hrest hb
      go_wp2
      go_loopw [9] (fun i wr => ∃ j : Nat, j ≤ k ∧ i = .int .i64 (j : Int) ∧ Row wr g T N (atG out (bn : Int) j ++ rest) ∧ Only (fun b => b = g) w wr ∧ Hid (posG (up) out (bn : Int) j = posG (up) out (bn : Int) k)) (fun i _ => (intOf i).toNat)
      case atStart => exact ⟨k, Nat.le_refl _, rfl, HROW.out, honly, rfl⟩
      case round =>
        obtain ⟨j, hj, rfl, hrow, honly2, hpos⟩ := hrel
        rcases Nat.eq_zero_or_pos j with hj0 | hjp
        · subst hj0
          have HROW0 := Lib.hid hrow
          have hz : insG (up) out (bn : Int) = atG out (bn : Int) 0 := by rw [insG, HL.out, ← hpos.out]; rfl
          have HZ := Lib.hid hz
          clear hz
          go_wp2_with fail
          refine wp_region_held_drew (S := (fun wq => Row wq g T N (atG out (bn : Int) 0 ++ rest) ∧ Only (fun b => b = g) w wq)) (by kernel_rfl) ⟨hrow.keep rfl, honly2.drew⟩ (fun hH0 => ?_)
          refine wpAnyH_take (i := 0) (v := ?_) (ops_at rfl) (by kernel_rfl) (by kernel_rfl) (by kernel_rfl) (fun _ _ _ h => h) (Or.inl ⟨by rfl, ?ya0⟩) (by assumption) ?na0
          case ya0 => (intro wS hSw; (try dsimp only at hSw); go_simp; try rfl)
          try simp only [Act.put, List.setIfInBounds_toArray, List.set_cons_zero, List.set_cons_succ]
          refine wpAnyH_take (i := 1) (v := ?_) (ops_at rfl) (by kernel_rfl) (by kernel_rfl) (by kernel_rfl) (fun _ _ _ h => h) (Or.inl ⟨by rfl, ?ya1⟩) (by assumption) ?na1
          case ya1 => (intro wS hSw; (try dsimp only at hSw); go_simp; try rfl)
          try simp only [Act.put, List.setIfInBounds_toArray, List.set_cons_zero, List.set_cons_succ]
          refine wpAnyH_take (i := 2) (v := ?_) (ops_at rfl) (by kernel_rfl) (by kernel_rfl) (by kernel_rfl) (fun _ _ _ h => h) (Or.inl ⟨by rfl, ?ya2⟩) (by assumption) ?na2
          case ya2 => (intro wS hSw; (try dsimp only at hSw); go_simp; try rfl)
          try simp only [Act.put, List.setIfInBounds_toArray, List.set_cons_zero, List.set_cons_succ]
          refine wpAnyH_take (i := 3) (v := ?_) (ops_at rfl) (by kernel_rfl) (by kernel_rfl) (by kernel_rfl) (fun _ _ _ h => h) (Or.inl ⟨by rfl, ?ya3⟩) (by assumption) ?na3
          case ya3 => (intro wS hSw; (try dsimp only at hSw); go_simp; try rfl)
          try simp only [Act.put, List.setIfInBounds_toArray, List.set_cons_zero, List.set_cons_succ]
          refine wpAnyH_take (i := 4) (v := undef) (ops_at rfl) (by kernel_rfl) (by kernel_rfl) (by kernel_rfl) (fun _ _ _ h => h) (Or.inr ⟨by rfl, rfl⟩) (by assumption) ?_
          try simp only [Act.put, List.setIfInBounds_toArray, List.set_cons_zero, List.set_cons_succ]
          refine wpAnyH_take (i := 5) (v := undef) (ops_at rfl) (by kernel_rfl) (by kernel_rfl) (by kernel_rfl) (fun _ _ _ h => h) (Or.inr ⟨by rfl, rfl⟩) (by assumption) ?_
          try simp only [Act.put, List.setIfInBounds_toArray, List.set_cons_zero, List.set_cons_succ]
          refine wpAnyH_take (i := 6) (v := undef) (ops_at rfl) (by kernel_rfl) (by kernel_rfl) (by kernel_rfl) (fun _ _ _ h => h) (Or.inr ⟨by rfl, rfl⟩) (by assumption) ?_
          try simp only [Act.put, List.setIfInBounds_toArray, List.set_cons_zero, List.set_cons_succ]
          refine wpAnyH_take (i := 7) (v := undef) (ops_at rfl) (by kernel_rfl) (by kernel_rfl) (by kernel_rfl) (fun _ _ _ h => h) (Or.inr ⟨by rfl, rfl⟩) (by assumption) ?_
          try simp only [Act.put, List.setIfInBounds_toArray, List.set_cons_zero, List.set_cons_succ]
          refine wpAnyH_take (i := 8) (v := undef) (ops_at rfl) (by kernel_rfl) (by kernel_rfl) (by kernel_rfl) (fun _ _ _ h => h) (Or.inr ⟨by rfl, rfl⟩) (by assumption) ?_
          try simp only [Act.put, List.setIfInBounds_toArray, List.set_cons_zero, List.set_cons_succ]
          refine wpAnyH_take (i := 9) (v := undef) (ops_at rfl) (by kernel_rfl) (by kernel_rfl) (by kernel_rfl) (fun _ _ _ h => h) (Or.inr ⟨by rfl, rfl⟩) (by assumption) ?_
          try simp only [Act.put, List.setIfInBounds_toArray, List.set_cons_zero, List.set_cons_succ]
          refine wpAnyH_take (i := 10) (v := undef) (ops_at rfl) (by kernel_rfl) (by kernel_rfl) (by kernel_rfl) (fun _ _ _ h => h) (Or.inr ⟨by rfl, rfl⟩) (by assumption) ?_
          try simp only [Act.put, List.setIfInBounds_toArray, List.set_cons_zero, List.set_cons_succ]
          refine wpAnyH_take (i := 11) (v := undef) (ops_at rfl) (by kernel_rfl) (by kernel_rfl) (by kernel_rfl) (fun _ _ _ h => h) (Or.inr ⟨by rfl, rfl⟩) (by assumption) ?_
          try simp only [Act.put, List.setIfInBounds_toArray, List.set_cons_zero, List.set_cons_succ]
          refine wpAnyH_take (i := 12) (v := undef) (ops_at rfl) (by kernel_rfl) (by kernel_rfl) (by kernel_rfl) (fun _ _ _ h => h) (Or.inr ⟨by rfl, rfl⟩) (by assumption) ?_
          try simp only [Act.put, List.setIfInBounds_toArray, List.set_cons_zero, List.set_cons_succ]
          refine wpAnyH_take (i := 13) (v := undef) (ops_at rfl) (by kernel_rfl) (by kernel_rfl) (by kernel_rfl) (fun _ _ _ h => h) (Or.inr ⟨by rfl, rfl⟩) (by assumption) ?_
          try simp only [Act.put, List.setIfInBounds_toArray, List.set_cons_zero, List.set_cons_succ]
          refine wpAnyH_take (i := 14) (v := undef) (ops_at rfl) (by kernel_rfl) (by kernel_rfl) (by kernel_rfl) (fun _ _ _ h => h) (Or.inr ⟨by rfl, rfl⟩) (by assumption) ?_
          try simp only [Act.put, List.setIfInBounds_toArray, List.set_cons_zero, List.set_cons_succ]
          refine wpAnyH_take (i := 15) (v := undef) (ops_at rfl) (by kernel_rfl) (by kernel_rfl) (by kernel_rfl) (fun _ _ _ h => h) (Or.inr ⟨by rfl, rfl⟩) (by assumption) ?_
          try simp only [Act.put, List.setIfInBounds_toArray, List.set_cons_zero, List.set_cons_succ]
          refine wpAnyH_take (i := 16) (v := ?_) (ops_at rfl) (by kernel_rfl) (by kernel_rfl) (by kernel_rfl) (fun _ _ _ h => h) (Or.inl ⟨by rfl, ?ya16⟩) (by assumption) ?na16
          case ya16 => (intro wS hSw; (try dsimp only at hSw); go_simp; try rfl)
          try simp only [Act.put, List.setIfInBounds_toArray, List.set_cons_zero, List.set_cons_succ]
          refine wpAnyH_done (by kernel_rfl) ?_ _
          go_wp2
          go_roundw
          case rel => exact ⟨k + 1, by omega, by omega, by go_num, by rw [HNX.out, HZ.out, HR.out]; exact HROW0.out.keep rfl, honly2.drew⟩
          case measure => simp [intOf]; omega
        · obtain ⟨jj, hjj⟩ : ∃ jj, j = jj + 1 := ⟨j - 1, by omega⟩
          obtain ⟨x, hx⟩ : ∃ x, out[jj]? = some x := ⟨_, List.getElem?_eq_getElem (by rw [HL.out]; omega)⟩
          have hxm := HMEM.out x (List.mem_of_getElem? hx)
          obtain ⟨xn, rfl⟩ : ∃ xn : Nat, x = (xn : Int) := ⟨x.toNat, by omega⟩
          have hher := atG_here (out := out) (b := (bn : Int)) (j := j) (by rw [HL.out]; exact hj) rest
          have hprv : (atG out (bn : Int) j ++ rest)[jj]? = some (xn : Int) := by rw [hjj]; exact atG_prev hx rest
          have q1 := hrow.cell hher
          have q3 := hrow.cell hprv
          have f1 := hrow.frozen j
          have f3 := hrow.frozen jj
          have HX := Lib.hid hx
          have HJJ := Lib.hid hjj
          have HROW1 := Lib.hid hrow
          have hwr : IntKind.i64.wrap ((j : Int) - 1) = (jj : Int) := by
            have h : ((j : Int) - 1) = (jj : Int) := by omega
            rw [h, IntKind.wrap_i64]
            omega
          have hjpos : (0 : Int) < (j : Int) := by omega
          have hjn : (j : Int) < (n : Int) := by omega
          have hjjn : (jj : Int) < (n : Int) := by omega
          have hjj0 : (0 : Int) ≤ (jj : Int) := by omega
          have HBN := Lib.hid (show bn < m by omega)
          have HXN := Lib.hid (show xn < m by omega)
          clear hjj hx hher hprv hrow hxm
          go_wp2_with fail
          refine wp_region_held_drew (S := (fun wq => wq.cell? ⟨g, j, none⟩ = some (.int .i64 (bn : Int)) ∧ wq.cell? ⟨g, jj, none⟩ = some (.int .i64 (xn : Int)) ∧ Only (fun b => b = g) w wq)) (by kernel_rfl) ⟨q1, q3, honly2.drew⟩ (fun hH0 => ?_)
          refine wpAnyH_take (i := 0) (v := ?_) (ops_at rfl) (by kernel_rfl) (by kernel_rfl) (by kernel_rfl) (fun _ _ _ h => h) (Or.inl ⟨by rfl, ?yb0⟩) (by assumption) ?nb0
          case yb0 => (intro wS hSw; (try dsimp only at hSw); go_simp; try rfl)
          try simp only [Act.put, List.setIfInBounds_toArray, List.set_cons_zero, List.set_cons_succ]
          refine wpAnyH_take (i := 1) (v := ?_) (ops_at rfl) (by kernel_rfl) (by kernel_rfl) (by kernel_rfl) (fun _ _ _ h => h) (Or.inl ⟨by rfl, ?yb1⟩) (by assumption) ?nb1
          case yb1 => (intro wS hSw; (try dsimp only at hSw); go_simp; try rfl)
          try simp only [Act.put, List.setIfInBounds_toArray, List.set_cons_zero, List.set_cons_succ]
          refine wpAnyH_take (i := 2) (v := ?_) (ops_at rfl) (by kernel_rfl) (by kernel_rfl) (by kernel_rfl) (fun _ _ _ h => h) (Or.inl ⟨by rfl, ?yb2⟩) (by assumption) ?nb2
          case yb2 => (intro wS hSw; (try dsimp only at hSw); go_simp; try rfl)
          try simp only [Act.put, List.setIfInBounds_toArray, List.set_cons_zero, List.set_cons_succ]
          refine wpAnyH_take (i := 3) (v := ?_) (ops_at rfl) (by kernel_rfl) (by kernel_rfl) (by kernel_rfl) (fun _ _ _ h => h) (Or.inl ⟨by rfl, ?yb3⟩) (by assumption) ?nb3
          case yb3 => (intro wS hSw; (try dsimp only at hSw); go_simp; try rfl)
          try simp only [Act.put, List.setIfInBounds_toArray, List.set_cons_zero, List.set_cons_succ]
          refine wpAnyH_take (i := 4) (v := ?_) (ops_at rfl) (by kernel_rfl) (by kernel_rfl) (by kernel_rfl) (fun _ _ _ h => h) (Or.inl ⟨by rfl, ?yb4⟩) (by assumption) ?nb4
          case yb4 => (intro wS hSw; (try dsimp only at hSw); go_simp; try rfl)
          try simp only [Act.put, List.setIfInBounds_toArray, List.set_cons_zero, List.set_cons_succ]
          refine wpAnyH_take (i := 5) (v := ?_) (ops_at rfl) (by kernel_rfl) (by kernel_rfl) (by kernel_rfl) (fun _ _ _ h => h) (Or.inl ⟨by rfl, ?yb5⟩) (by assumption) ?nb5
          case yb5 => (intro wS hSw; (try dsimp only at hSw); go_simp; try rfl)
          try simp only [Act.put, List.setIfInBounds_toArray, List.set_cons_zero, List.set_cons_succ]
          refine wpAnyH_take (i := 6) (v := ?_) (ops_at rfl) (by kernel_rfl) (by kernel_rfl) (by kernel_rfl) (fun _ _ _ h => h) (Or.inl ⟨by rfl, ?yb6⟩) (by assumption) ?nb6
          case yb6 => (intro wS hSw; (try dsimp only at hSw); go_simp; try rfl)
          try simp only [Act.put, List.setIfInBounds_toArray, List.set_cons_zero, List.set_cons_succ]
          refine wpAnyH_take (i := 7) (v := ?_) (ops_at rfl) (by kernel_rfl) (by kernel_rfl) (by kernel_rfl) (fun _ _ _ h => h) (Or.inl ⟨by rfl, ?yb7⟩) (by assumption) ?nb7
          case yb7 => (intro wS hSw; (try dsimp only at hSw); go_simp; try rfl)
          try simp only [Act.put, List.setIfInBounds_toArray, List.set_cons_zero, List.set_cons_succ]
          refine wpAnyH_take (i := 8) (v := ?_) (ops_at rfl) (by kernel_rfl) (by kernel_rfl) (by kernel_rfl) (fun _ _ _ h => h) (Or.inl ⟨by rfl, ?yb8⟩) (by assumption) ?nb8
          case yb8 => (intro wS hSw; (try dsimp only at hSw); go_simp; try rfl)
          try simp only [Act.put, List.setIfInBounds_toArray, List.set_cons_zero, List.set_cons_succ]
          refine wpAnyH_take (i := 9) (v := ?_) (ops_at rfl) (by kernel_rfl) (by kernel_rfl) (by kernel_rfl) (fun _ _ _ h => h) (Or.inl ⟨by rfl, ?yb9⟩) (by assumption) ?nb9
          case yb9 => (intro wS hSw; (try dsimp only at hSw); go_simp; try rfl)
          try simp only [Act.put, List.setIfInBounds_toArray, List.set_cons_zero, List.set_cons_succ]
          refine wpAnyH_take (i := 10) (v := ?_) (ops_at rfl) (by kernel_rfl) (by kernel_rfl) (by kernel_rfl) (fun _ _ _ h => h) (Or.inl ⟨by rfl, ?yb10⟩) (by assumption) ?nb10
          case yb10 => (intro wS hSw; (try dsimp only at hSw); go_simp; try rfl)
          try simp only [Act.put, List.setIfInBounds_toArray, List.set_cons_zero, List.set_cons_succ]
          refine wpAnyH_take (i := 11) (v := ?_) (ops_at rfl) (by kernel_rfl) (by kernel_rfl) (by kernel_rfl) (fun _ _ _ h => h) (Or.inl ⟨by rfl, ?yb11⟩) (by assumption) ?nb11
          case yb11 => (intro wS hSw; (try dsimp only at hSw); go_simp; try rfl)
          try simp only [Act.put, List.setIfInBounds_toArray, List.set_cons_zero, List.set_cons_succ]
          refine wpAnyH_take (i := 12) (v := ?_) (ops_at rfl) (by kernel_rfl) (by kernel_rfl) (by kernel_rfl) (fun _ _ _ h => h) (Or.inl ⟨by rfl, ?yb12⟩) (by assumption) ?nb12
          case yb12 => (intro wS hSw; (try dsimp only at hSw); go_simp; try rfl)
          try simp only [Act.put, List.setIfInBounds_toArray, List.set_cons_zero, List.set_cons_succ]
          refine wpAnyH_take (i := 13) (v := ?_) (ops_at rfl) (by kernel_rfl) (by kernel_rfl) (by kernel_rfl) (fun _ _ _ h => h) (Or.inl ⟨by rfl, ?yb13⟩) (by assumption) ?nb13
          case yb13 => (intro wS hSw; (try dsimp only at hSw); go_simp; try rfl)
          try simp only [Act.put, List.setIfInBounds_toArray, List.set_cons_zero, List.set_cons_succ]
          refine wpAnyH_ready (rs := [14]) (by kernel_rfl) (by simp) ?_
          refine AllReadyH.cons (ops_at rfl) (fun K hK => ?_) AllReadyH.nil
          go_simp
          refine (HCMP.out _ bn xn hH0.2.2 HBN.out HXN.out).mono ?_
          rintro e w2 ⟨r, rfl, hr, hb2⟩
          refine hK.out _ _ ⟨(hb2.cell (by have := cell_lt hH0.1; exact this)).trans hH0.1, (hb2.cell (by have := cell_lt hH0.2.1; exact this)).trans hH0.2.1, hH0.2.2.trans (Only.of_below hb2 (Nat.le_refl _))⟩ (fun hHb14 => ?_)
          clear hK K
          refine wpAnyH_take (i := 15) (v := ?_) (ops_at rfl) (by kernel_rfl) (by kernel_rfl) (by kernel_rfl) (fun _ _ _ h => h) (Or.inl ⟨by rfl, ?yb15⟩) (by assumption) ?nb15
          case yb15 => (intro wS hSw; (try dsimp only at hSw); go_simp; try rfl)
          try simp only [Act.put, List.setIfInBounds_toArray, List.set_cons_zero, List.set_cons_succ]
          refine wpAnyH_take (i := 16) (v := ?_) (ops_at rfl) (by kernel_rfl) (by kernel_rfl) (by kernel_rfl) (fun _ _ _ h => h) (Or.inl ⟨by rfl, ?yb16⟩) (by assumption) ?nb16
          case yb16 => (intro wS hSw; (try dsimp only at hSw); go_simp; try rfl)
          try simp only [Act.put, List.setIfInBounds_toArray, List.set_cons_zero, List.set_cons_succ]
          refine wpAnyH_done (by kernel_rfl) ?_ _
          have hrow2 := HROW1.out.keep (hb2.block _ HROW1.out.lt)
          have honly3 := honly2.trans (Only.of_below (undrew hb2) (Nat.le_refl _))
          have q1' := (hb2.cell (by have := cell_lt q1; exact this)).trans q1
          have q3' := (hb2.cell (by have := cell_lt q3; exact this)).trans q3
          have f1' := hrow2.frozen j
          have f3' := hrow2.frozen jj
          have HROW2 := Lib.hid hrow2
          clear q1 q3 f1 f3 hrow2
          cases hup : up (bn : Int) (xn : Int)
          · have hdec : ¬ r < 0 := by rw [hup] at hr; simpa using hr
            have HUP := Lib.hid hup
            clear hr hup
            have hstop : insG (up) out (bn : Int) = atG out (bn : Int) j := by
              rw [insG, HL.out, ← hpos.out, HJJ.out, posG_stop HX.out HUP.out]
            have HSTOP := Lib.hid hstop
            clear hstop
            go_wp2
            go_roundw
            case rel => exact ⟨k + 1, by omega, by omega, by go_num, by rw [HNX.out, HSTOP.out, HR.out]; exact HROW2.out, honly3⟩
            case measure => simp [intOf]; omega
          · have hdec : r < 0 := by rw [hup] at hr; simpa using hr
            have HUP := Lib.hid hup
            clear hr hup
            have hset : ((atG out (bn : Int) j ++ rest).set j (xn : Int)).set jj (bn : Int) = atG out (bn : Int) jj ++ rest := by rw [HJJ.out]; exact atG_swap HX.out rest
            have hpos2 : posG (up) out (bn : Int) jj = posG (up) out (bn : Int) k := by rw [← posG_go (b := (bn : Int)) HX.out HUP.out, ← HJJ.out]; exact hpos.out
            have HSET := Lib.hid hset
            have HPOS2 := Lib.hid hpos2
            have hne : ∀ (W : World) (a c : Nat) (v : Value), a ≠ c → (W.setCell ⟨g, a, none⟩ v).cell? ⟨g, c, none⟩ = W.cell? ⟨g, c, none⟩ := fun W a c v h => cell_set_offI W g a c v h
            have e1 := fun W v => hne W j jj v (by have := HJJ.out; omega)
            have e3 := fun W v => hne W jj j v (by have := HJJ.out; omega)
            clear hne
            clear hset hpos2
            go_wp2
            go_region
            all_goals go_wp2
            go_roundw
            case rel =>
              refine ⟨jj, by have := HJJ.out; omega, rfl, ?_, (((honly3).setCell (p := ⟨g, j, none⟩) rfl _).setCell (p := ⟨g, jj, none⟩) rfl _).drew, HPOS2.out⟩
              have hall := ((HROW2.out.set j (xn : Int))).set jj (bn : Int)
              rw [← HSET.out]
              exact hall
            case measure => have := HJJ.out; simp [intOf]; omega
    · obtain rfl : k = n := by omega
      have hfin : Row wr g T N (sortG (up) bs) := by
        rw [List.take_of_length_le (by rw [HN.out]; exact Nat.le_refl _), List.drop_of_length_le (by rw [HN.out]; exact Nat.le_refl _), List.append_nil] at hrow
        exact hrow
      have HFIN := Lib.hid hfin
      clear hrow hfin
      go_wp2
      go_end0
      exact ⟨rfl, HFIN.out, honly⟩

set_option maxHeartbeats 2000000 in
theorem stableP_any (up : Int → Int → Bool) (m gc gl g T N n c : Nat) (bs : List Int) (w : World) (HCMP : Hid (∀ (V : World) (i j : Nat), Only (fun b => b = g) w V → i < m → j < m → Calls Try.prog 89 #[.int .i64 (i : Int), .int .i64 (j : Int), .pointer (some ⟨gc, 0, none⟩), .pointer (some ⟨gl, 0, none⟩)] V fun e V' => ∃ r, e = .returned (.int .i64 r) ∧ decide (r < 0) = up (i : Int) (j : Int) ∧ Below V.heap.size V V')) (hbs : ∀ b ∈ bs, 0 ≤ b ∧ b < (m : Int)) (hn : bs.length = n) (hn1 : 1 ≤ n) (hn12 : n ≤ 12) (h : Row w g T N bs) :
    Calls Try.prog 110 #[.slice (some ⟨g, 0, none⟩) n c, .int .i64 (n : Int), .func (.func 89) #[] #[.pointer (some ⟨gc, 0, none⟩), .pointer (some ⟨gl, 0, none⟩)]] w fun e w' =>
      e = .returned (.tuple #[]) ∧ Row w' g T N (sortG (up) bs) ∧ Only (fun b => b = g) w w' := by
  have HC := Lib.hid (insP_any up m gc gl g T N n c bs w HCMP hbs hn hn1 hn12 h)
  clear hn h hbs HCMP
  go_enter Try.func110, Try.ntmps110
  go_wp2
  go_loopw [7, 8] (fun a b wr => a = .int .i64 0 ∧ b = .int .i64 20 ∧ wr = w) (fun _ _ _ => 0)
  case atStart => exact ⟨rfl, rfl, rfl⟩
  case round =>
    obtain ⟨rfl, rfl, rfl⟩ := hrel
    go_wp2_with fail
    refine HC.out.mono ?_
    rintro e w1 ⟨rfl, hrow, honly⟩
    go_wp2
    go_loopw [6, 7, 8, 9] (fun s _ _ _ wr => s = .int .i64 20 ∧ wr = w1) (fun _ _ _ _ _ => 0)
    case atStart => exact ⟨rfl, rfl⟩
    case round =>
      obtain ⟨rfl, rfl⟩ := hrel
      go_wp2
      go_end0
      exact ⟨rfl, hrow, honly⟩

theorem sortP_any (up : Int → Int → Bool) (m gc gl g T N n c : Nat) (bs : List Int) (w : World) (HCMP : Hid (∀ (V : World) (i j : Nat), Only (fun b => b = g) w V → i < m → j < m → Calls Try.prog 89 #[.int .i64 (i : Int), .int .i64 (j : Int), .pointer (some ⟨gc, 0, none⟩), .pointer (some ⟨gl, 0, none⟩)] V fun e V' => ∃ r, e = .returned (.int .i64 r) ∧ decide (r < 0) = up (i : Int) (j : Int) ∧ Below V.heap.size V V')) (hbs : ∀ b ∈ bs, 0 ≤ b ∧ b < (m : Int)) (hn : bs.length = n) (hn1 : 1 ≤ n) (hn12 : n ≤ 12) (h : Row w g T N bs) :
    Calls Try.prog 88 #[.slice (some ⟨g, 0, none⟩) n c, .func (.func 89) #[] #[.pointer (some ⟨gc, 0, none⟩), .pointer (some ⟨gl, 0, none⟩)]] w fun e w' =>
      e = .returned (.tuple #[]) ∧ Row w' g T N (sortG (up) bs) ∧ Only (fun b => b = g) w w' := by
  have HC := Lib.hid (stableP_any up m gc gl g T N n c bs w HCMP hbs hn hn1 hn12 h)
  clear hn h hbs HCMP
  go_enter Try.func88, Try.ntmps88
  go_wp2_with fail
  refine HC.out.mono ?_
  rintro e w1 ⟨rfl, hrow, honly⟩
  go_wp2
  go_end0
  exact ⟨rfl, hrow, honly⟩
end Go.Proofs.Ytjpejhpilfjheab

/-
  The library's sort of at most twelve bytes.
  Conditions: at most twelve bytes.
-/
import Derived.Test.YtgcljhgpihpfgaaInsG
import Derived.Test.YtgcljhgpihpfgaaRowB
import Derived.Deep.RegionHeld3
import Derived.BigRegion
namespace Go.Proofs.Ytgcljhgpihpfgaa
set_option linter.unusedVariables false
open Go.RowKit

theorem isNaNB_any (a : Int) (w : World) : Calls Try.prog 81 #[.int .u8 a] w fun e w' => e = .returned (.bool false) ∧ w = w' := by
  have h : (a == a) = true := by simp
  go_enter Try.func81, Try.ntmps81
  go_wp2
  go_ret
  first | exact ⟨rfl, rfl⟩ | exact ⟨by simp, rfl⟩

theorem cmpLessB_any (a b : Int) (w : World) (q : Bool) (hq : decide (a < b) = q) : Calls Try.prog 70 #[.int .u8 a, .int .u8 b] w fun e w' => e = .returned (.bool q) ∧ w = w' := by
  go_enter Try.func70, Try.ntmps70
  go_wp2_with fail
  refine (isNaNB_any _ _).mono ?_
  rintro e w1 ⟨rfl, rfl⟩
  go_wp2
  go_ret
  exact ⟨rfl, rfl⟩

theorem cell_set_offB (W : World) (g a c : Nat) (v : Value) (h : a ≠ c) : (W.setCell ⟨g, a, none⟩ v).cell? ⟨g, c, none⟩ = W.cell? ⟨g, c, none⟩ :=
  World.cell?_setCell_other W _ _ v (by intro e; injection e with _ e _; exact h e)

set_option maxHeartbeats 4000000 in
theorem insOrdB_any (g T N n c : Nat) (bs : List Int) (w : World) (hn : bs.length = n) (hn1 : 1 ≤ n) (hn12 : n ≤ 12) (h : RowB w g T N bs) :
    Calls Try.prog 64 #[.slice (some ⟨g, 0, none⟩) n c, .int .i64 0, .int .i64 (n : Int)] w fun e w' =>
      e = .returned (.tuple #[]) ∧ RowB w' g T N (sortG upLt bs) ∧ Only (fun b => b = g) w w' := by
  have HN := Lib.hid hn
  have hfirst : sortG upLt (bs.take 1) ++ bs.drop 1 = bs := by
    match bs, hn with
    | [], hn => simp at hn; omega
    | b :: bs, hn => rfl
  have H0 := Lib.hid (show RowB w g T N (sortG upLt (bs.take 1) ++ bs.drop 1) by rw [hfirst]; exact h)
  clear hn h hfirst
  go_enter Try.func64, Try.ntmps64
  go_wp2
  go_loopw [6, 7] (fun i _ wr => ∃ k : Nat, 1 ≤ k ∧ k ≤ n ∧ i = .int .i64 (k : Int) ∧ RowB wr g T N (sortG upLt (bs.take k) ++ bs.drop k) ∧ Only (fun b => b = g) w wr) (fun i _ _ => n - (intOf i).toNat)
  case atStart => exact ⟨1, Nat.le_refl _, hn1, rfl, H0.out, Only.refl _ _⟩
  case round =>
    obtain ⟨k, hk1, hk, rfl, hrow, honly⟩ := hrel
    by_cases hlt : k < n
    · obtain ⟨b, hb⟩ : ∃ b, bs[k]? = some b := ⟨_, List.getElem?_eq_getElem (by rw [HN.out]; exact hlt)⟩
      have hnext := sortG_next upLt hb
      have hdrop : bs.drop k = b :: bs.drop (k + 1) := by
        obtain ⟨hk', rfl⟩ := List.getElem?_eq_some_iff.1 hb
        exact List.drop_eq_getElem_cons hk'
      have hlen : (sortG upLt (bs.take k)).length = k := by rw [sortG_length, List.length_take, HN.out]; omega
      rw [hdrop] at hrow
      obtain ⟨out, hout⟩ : ∃ out, sortG upLt (bs.take k) = out := ⟨_, rfl⟩
      obtain ⟨rest, hrest⟩ : ∃ rest, bs.drop (k + 1) = rest := ⟨_, rfl⟩
      rw [hout] at hnext hlen hrow
      rw [hrest] at hrow
      rw [← atG_end, hlen] at hrow
      have HNX := Lib.hid hnext
      have HR := Lib.hid hrest
      have HL := Lib.hid hlen
      have HROW := Lib.hid hrow
      clear hnext hdrop hlen hrow hout hrest hb
      go_wp2
      go_loopw [7] (fun i wr => ∃ j : Nat, j ≤ k ∧ i = .int .i64 (j : Int) ∧ RowB wr g T N (atG out b j ++ rest) ∧ Only (fun b => b = g) w wr ∧ Hid (posG upLt out b j = posG upLt out b k)) (fun i _ => (intOf i).toNat)
      case atStart => exact ⟨k, Nat.le_refl _, rfl, HROW.out, honly, rfl⟩
      case round =>
        obtain ⟨j, hj, rfl, hrow, honly2, hpos⟩ := hrel
        rcases Nat.eq_zero_or_pos j with hj0 | hjp
        · subst hj0
          have HROW0 := Lib.hid hrow
          have hz : insG upLt out b = atG out b 0 := by rw [insG, HL.out, ← hpos.out]; rfl
          have HZ := Lib.hid hz
          clear hz
          go_wp2_with fail
          refine wp_region_held_drew (S := (fun wq => RowB wq g T N (atG out b 0 ++ rest) ∧ Only (fun b => b = g) w wq)) (by kernel_rfl) ⟨hrow.keep rfl, honly2.drew⟩ (fun hH0 => ?_)
          refine wpAnyH_take (i := 0) (v := ?_) (ops_at rfl) (by kernel_rfl) (by kernel_rfl) (by kernel_rfl) (fun _ _ _ h => h) (Or.inl ⟨by rfl, ?ya0⟩) (by assumption) ?na0
          case ya0 => (intro wS hSw; (try dsimp only at hSw); go_simp; try rfl)
          try simp only [Act.put, List.setIfInBounds_toArray, List.set_cons_zero, List.set_cons_succ]
          refine wpAnyH_take (i := 1) (v := ?_) (ops_at rfl) (by kernel_rfl) (by kernel_rfl) (by kernel_rfl) (fun _ _ _ h => h) (Or.inl ⟨by rfl, ?ya1⟩) (by assumption) ?na1
          case ya1 => (intro wS hSw; (try dsimp only at hSw); go_simp; try rfl)
          try simp only [Act.put, List.setIfInBounds_toArray, List.set_cons_zero, List.set_cons_succ]
          refine wpAnyH_take (i := 2) (v := ?_) (ops_at rfl) (by kernel_rfl) (by kernel_rfl) (by kernel_rfl) (fun _ _ _ h => h) (Or.inl ⟨by rfl, ?ya2⟩) (by assumption) ?na2
          case ya2 => (intro wS hSw; (try dsimp only at hSw); go_simp; try rfl)
          try simp only [Act.put, List.setIfInBounds_toArray, List.set_cons_zero, List.set_cons_succ]
          refine wpAnyH_take (i := 3) (v := ?_) (ops_at rfl) (by kernel_rfl) (by kernel_rfl) (by kernel_rfl) (fun _ _ _ h => h) (Or.inl ⟨by rfl, ?ya3⟩) (by assumption) ?na3
          case ya3 => (intro wS hSw; (try dsimp only at hSw); go_simp; try rfl)
          try simp only [Act.put, List.setIfInBounds_toArray, List.set_cons_zero, List.set_cons_succ]
          refine wpAnyH_take (i := 4) (v := undef) (ops_at rfl) (by kernel_rfl) (by kernel_rfl) (by kernel_rfl) (fun _ _ _ h => h) (Or.inr ⟨by rfl, rfl⟩) (by assumption) ?_
          try simp only [Act.put, List.setIfInBounds_toArray, List.set_cons_zero, List.set_cons_succ]
          refine wpAnyH_take (i := 5) (v := undef) (ops_at rfl) (by kernel_rfl) (by kernel_rfl) (by kernel_rfl) (fun _ _ _ h => h) (Or.inr ⟨by rfl, rfl⟩) (by assumption) ?_
          try simp only [Act.put, List.setIfInBounds_toArray, List.set_cons_zero, List.set_cons_succ]
          refine wpAnyH_take (i := 6) (v := undef) (ops_at rfl) (by kernel_rfl) (by kernel_rfl) (by kernel_rfl) (fun _ _ _ h => h) (Or.inr ⟨by rfl, rfl⟩) (by assumption) ?_
          try simp only [Act.put, List.setIfInBounds_toArray, List.set_cons_zero, List.set_cons_succ]
          refine wpAnyH_take (i := 7) (v := undef) (ops_at rfl) (by kernel_rfl) (by kernel_rfl) (by kernel_rfl) (fun _ _ _ h => h) (Or.inr ⟨by rfl, rfl⟩) (by assumption) ?_
          try simp only [Act.put, List.setIfInBounds_toArray, List.set_cons_zero, List.set_cons_succ]
          refine wpAnyH_take (i := 8) (v := undef) (ops_at rfl) (by kernel_rfl) (by kernel_rfl) (by kernel_rfl) (fun _ _ _ h => h) (Or.inr ⟨by rfl, rfl⟩) (by assumption) ?_
          try simp only [Act.put, List.setIfInBounds_toArray, List.set_cons_zero, List.set_cons_succ]
          refine wpAnyH_take (i := 9) (v := undef) (ops_at rfl) (by kernel_rfl) (by kernel_rfl) (by kernel_rfl) (fun _ _ _ h => h) (Or.inr ⟨by rfl, rfl⟩) (by assumption) ?_
          try simp only [Act.put, List.setIfInBounds_toArray, List.set_cons_zero, List.set_cons_succ]
          refine wpAnyH_take (i := 10) (v := undef) (ops_at rfl) (by kernel_rfl) (by kernel_rfl) (by kernel_rfl) (fun _ _ _ h => h) (Or.inr ⟨by rfl, rfl⟩) (by assumption) ?_
          try simp only [Act.put, List.setIfInBounds_toArray, List.set_cons_zero, List.set_cons_succ]
          refine wpAnyH_take (i := 11) (v := undef) (ops_at rfl) (by kernel_rfl) (by kernel_rfl) (by kernel_rfl) (fun _ _ _ h => h) (Or.inr ⟨by rfl, rfl⟩) (by assumption) ?_
          try simp only [Act.put, List.setIfInBounds_toArray, List.set_cons_zero, List.set_cons_succ]
          refine wpAnyH_take (i := 12) (v := undef) (ops_at rfl) (by kernel_rfl) (by kernel_rfl) (by kernel_rfl) (fun _ _ _ h => h) (Or.inr ⟨by rfl, rfl⟩) (by assumption) ?_
          try simp only [Act.put, List.setIfInBounds_toArray, List.set_cons_zero, List.set_cons_succ]
          refine wpAnyH_take (i := 13) (v := undef) (ops_at rfl) (by kernel_rfl) (by kernel_rfl) (by kernel_rfl) (fun _ _ _ h => h) (Or.inr ⟨by rfl, rfl⟩) (by assumption) ?_
          try simp only [Act.put, List.setIfInBounds_toArray, List.set_cons_zero, List.set_cons_succ]
          refine wpAnyH_take (i := 14) (v := ?_) (ops_at rfl) (by kernel_rfl) (by kernel_rfl) (by kernel_rfl) (fun _ _ _ h => h) (Or.inl ⟨by rfl, ?ya14⟩) (by assumption) ?na14
          case ya14 => (intro wS hSw; (try dsimp only at hSw); go_simp; try rfl)
          try simp only [Act.put, List.setIfInBounds_toArray, List.set_cons_zero, List.set_cons_succ]
          refine wpAnyH_done (by kernel_rfl) ?_ _
          go_wp2
          go_roundw
          case rel => exact ⟨k + 1, by omega, by omega, by go_num, by rw [HNX.out, HZ.out, HR.out]; exact HROW0.out.keep rfl, honly2.drew⟩
          case measure => simp [intOf]; omega
        · obtain ⟨jj, hjj⟩ : ∃ jj, j = jj + 1 := ⟨j - 1, by omega⟩
          obtain ⟨x, hx⟩ : ∃ x, out[jj]? = some x := ⟨_, List.getElem?_eq_getElem (by rw [HL.out]; omega)⟩
          have hher := atG_here (out := out) (b := b) (j := j) (by rw [HL.out]; exact hj) rest
          have hprv : (atG out b j ++ rest)[jj]? = some x := by rw [hjj]; exact atG_prev hx rest
          have q1 := hrow.cell hher
          have q3 := hrow.cell hprv
          have f1 := hrow.frozen hher
          have f3 := hrow.frozen hprv
          have HX := Lib.hid hx
          have HJJ := Lib.hid hjj
          have HROW1 := Lib.hid hrow
          have hwr : IntKind.i64.wrap ((j : Int) - 1) = (jj : Int) := by
            have h : ((j : Int) - 1) = (jj : Int) := by omega
            rw [h, IntKind.wrap_i64]
            omega
          have hjpos : (0 : Int) < (j : Int) := by omega
          have hjn : (j : Int) < (n : Int) := by omega
          have hjjn : (jj : Int) < (n : Int) := by omega
          have hjj0 : (0 : Int) ≤ (jj : Int) := by omega
          obtain ⟨lb, hlb⟩ : ∃ lb, decide (b < x) = lb := ⟨_, rfl⟩
          have HLB := Lib.hid hlb
          clear hjj hx hher hprv hrow hlb
          go_wp2_with fail
          refine wp_region_held_drew (S := (fun wq => wq.cell? ⟨g, j, none⟩ = some (.int .u8 b) ∧ wq.cell? ⟨g, jj, none⟩ = some (.int .u8 x))) (by kernel_rfl) ⟨q1, q3⟩ (fun hH0 => ?_)
          refine wpAnyH_take (i := 0) (v := ?_) (ops_at rfl) (by kernel_rfl) (by kernel_rfl) (by kernel_rfl) (fun _ _ _ h => h) (Or.inl ⟨by rfl, ?yb0⟩) (by assumption) ?nb0
          case yb0 => (intro wS hSw; (try dsimp only at hSw); go_simp; try rfl)
          try simp only [Act.put, List.setIfInBounds_toArray, List.set_cons_zero, List.set_cons_succ]
          refine wpAnyH_take (i := 1) (v := ?_) (ops_at rfl) (by kernel_rfl) (by kernel_rfl) (by kernel_rfl) (fun _ _ _ h => h) (Or.inl ⟨by rfl, ?yb1⟩) (by assumption) ?nb1
          case yb1 => (intro wS hSw; (try dsimp only at hSw); go_simp; try rfl)
          try simp only [Act.put, List.setIfInBounds_toArray, List.set_cons_zero, List.set_cons_succ]
          refine wpAnyH_take (i := 2) (v := ?_) (ops_at rfl) (by kernel_rfl) (by kernel_rfl) (by kernel_rfl) (fun _ _ _ h => h) (Or.inl ⟨by rfl, ?yb2⟩) (by assumption) ?nb2
          case yb2 => (intro wS hSw; (try dsimp only at hSw); go_simp; try rfl)
          try simp only [Act.put, List.setIfInBounds_toArray, List.set_cons_zero, List.set_cons_succ]
          refine wpAnyH_take (i := 3) (v := ?_) (ops_at rfl) (by kernel_rfl) (by kernel_rfl) (by kernel_rfl) (fun _ _ _ h => h) (Or.inl ⟨by rfl, ?yb3⟩) (by assumption) ?nb3
          case yb3 => (intro wS hSw; (try dsimp only at hSw); go_simp; try rfl)
          try simp only [Act.put, List.setIfInBounds_toArray, List.set_cons_zero, List.set_cons_succ]
          refine wpAnyH_take (i := 4) (v := ?_) (ops_at rfl) (by kernel_rfl) (by kernel_rfl) (by kernel_rfl) (fun _ _ _ h => h) (Or.inl ⟨by rfl, ?yb4⟩) (by assumption) ?nb4
          case yb4 => (intro wS hSw; (try dsimp only at hSw); go_simp; try rfl)
          try simp only [Act.put, List.setIfInBounds_toArray, List.set_cons_zero, List.set_cons_succ]
          refine wpAnyH_take (i := 5) (v := ?_) (ops_at rfl) (by kernel_rfl) (by kernel_rfl) (by kernel_rfl) (fun _ _ _ h => h) (Or.inl ⟨by rfl, ?yb5⟩) (by assumption) ?nb5
          case yb5 => (intro wS hSw; (try dsimp only at hSw); go_simp; try rfl)
          try simp only [Act.put, List.setIfInBounds_toArray, List.set_cons_zero, List.set_cons_succ]
          refine wpAnyH_take (i := 6) (v := ?_) (ops_at rfl) (by kernel_rfl) (by kernel_rfl) (by kernel_rfl) (fun _ _ _ h => h) (Or.inl ⟨by rfl, ?yb6⟩) (by assumption) ?nb6
          case yb6 => (intro wS hSw; (try dsimp only at hSw); go_simp; try rfl)
          try simp only [Act.put, List.setIfInBounds_toArray, List.set_cons_zero, List.set_cons_succ]
          refine wpAnyH_take (i := 7) (v := ?_) (ops_at rfl) (by kernel_rfl) (by kernel_rfl) (by kernel_rfl) (fun _ _ _ h => h) (Or.inl ⟨by rfl, ?yb7⟩) (by assumption) ?nb7
          case yb7 => (intro wS hSw; (try dsimp only at hSw); go_simp; try rfl)
          try simp only [Act.put, List.setIfInBounds_toArray, List.set_cons_zero, List.set_cons_succ]
          refine wpAnyH_take (i := 8) (v := ?_) (ops_at rfl) (by kernel_rfl) (by kernel_rfl) (by kernel_rfl) (fun _ _ _ h => h) (Or.inl ⟨by rfl, ?yb8⟩) (by assumption) ?nb8
          case yb8 => (intro wS hSw; (try dsimp only at hSw); go_simp; try rfl)
          try simp only [Act.put, List.setIfInBounds_toArray, List.set_cons_zero, List.set_cons_succ]
          refine wpAnyH_take (i := 9) (v := ?_) (ops_at rfl) (by kernel_rfl) (by kernel_rfl) (by kernel_rfl) (fun _ _ _ h => h) (Or.inl ⟨by rfl, ?yb9⟩) (by assumption) ?nb9
          case yb9 => (intro wS hSw; (try dsimp only at hSw); go_simp; try rfl)
          try simp only [Act.put, List.setIfInBounds_toArray, List.set_cons_zero, List.set_cons_succ]
          refine wpAnyH_take (i := 10) (v := ?_) (ops_at rfl) (by kernel_rfl) (by kernel_rfl) (by kernel_rfl) (fun _ _ _ h => h) (Or.inl ⟨by rfl, ?yb10⟩) (by assumption) ?nb10
          case yb10 => (intro wS hSw; (try dsimp only at hSw); go_simp; try rfl)
          try simp only [Act.put, List.setIfInBounds_toArray, List.set_cons_zero, List.set_cons_succ]
          refine wpAnyH_take (i := 11) (v := ?_) (ops_at rfl) (by kernel_rfl) (by kernel_rfl) (by kernel_rfl) (fun _ _ _ h => h) (Or.inl ⟨by rfl, ?yb11⟩) (by assumption) ?nb11
          case yb11 => (intro wS hSw; (try dsimp only at hSw); go_simp; try rfl)
          try simp only [Act.put, List.setIfInBounds_toArray, List.set_cons_zero, List.set_cons_succ]
          refine wpAnyH_take (i := 12) (v := ?_) (ops_at rfl) (by kernel_rfl) (by kernel_rfl) (by kernel_rfl) (fun _ _ _ h => h) (Or.inl ⟨by rfl, ?yb12⟩) (by assumption) ?nb12
          case yb12 => (intro wS hSw; (try dsimp only at hSw); go_simp; try rfl)
          try simp only [Act.put, List.setIfInBounds_toArray, List.set_cons_zero, List.set_cons_succ]
          refine wpAnyH_ready (rs := [13]) (by kernel_rfl) (by simp) ?_
          refine AllReadyH.cons (ops_at rfl) (fun K hK => ?_) AllReadyH.nil
          go_simp
          refine (cmpLessB_any _ _ _ _ HLB.out).mono ?_
          rintro e w2 ⟨rfl, rfl⟩
          refine hK.out _ _ ⟨q1, q3⟩ (fun hHb13 => ?_)
          clear hK K
          refine wpAnyH_take (i := 14) (v := ?_) (ops_at rfl) (by kernel_rfl) (by kernel_rfl) (by kernel_rfl) (fun _ _ _ h => h) (Or.inl ⟨by rfl, ?yb14⟩) (by assumption) ?nb14
          case yb14 => (intro wS hSw; (try dsimp only at hSw); go_simp; try rfl)
          try simp only [Act.put, List.setIfInBounds_toArray, List.set_cons_zero, List.set_cons_succ]
          refine wpAnyH_done (by kernel_rfl) ?_ _
          cases lb
          · have hstop : insG upLt out b = atG out b j := by
              rw [insG, HL.out, ← hpos.out, HJJ.out, posG_stop HX.out HLB.out]
            have HSTOP := Lib.hid hstop
            clear hstop
            go_wp2
            go_roundw
            case rel => exact ⟨k + 1, by omega, by omega, by go_num, by rw [HNX.out, HSTOP.out, HR.out]; exact HROW1.out.keep rfl, honly2.drew⟩
            case measure => simp [intOf]; omega
          · have hset : ((atG out b j ++ rest).set j x).set jj b = atG out b jj ++ rest := by rw [HJJ.out]; exact atG_swap HX.out rest
            have hpos2 : posG upLt out b jj = posG upLt out b k := by rw [← posG_go (b := b) HX.out HLB.out, ← HJJ.out]; exact hpos.out
            have HSET := Lib.hid hset
            have HPOS2 := Lib.hid hpos2
            have hne : ∀ (W : World) (a c : Nat) (v : Value), a ≠ c → (W.setCell ⟨g, a, none⟩ v).cell? ⟨g, c, none⟩ = W.cell? ⟨g, c, none⟩ := fun W a c v h => cell_set_offB W g a c v h
            have e1 := fun W v => hne W j jj v (by have := HJJ.out; omega)
            have e3 := fun W v => hne W jj j v (by have := HJJ.out; omega)
            clear hne
            clear hset hpos2
            go_wp2
            go_region
            all_goals go_wp2
            go_roundw
            case rel =>
              refine ⟨jj, by have := HJJ.out; omega, rfl, ?_, (((honly2.drew).setCell (p := ⟨g, j, none⟩) rfl _).setCell (p := ⟨g, jj, none⟩) rfl _).drew, HPOS2.out⟩
              have hall := ((HROW1.out.set j x)).set jj b
              rw [← HSET.out]
              exact hall
            case measure => have := HJJ.out; simp [intOf]; omega
    · obtain rfl : k = n := by omega
      have hfin : RowB wr g T N (sortG upLt bs) := by
        rw [List.take_of_length_le (by rw [HN.out]; exact Nat.le_refl _), List.drop_of_length_le (by rw [HN.out]; exact Nat.le_refl _), List.append_nil] at hrow
        exact hrow
      have HFIN := Lib.hid hfin
      clear hrow hfin
      go_wp2
      go_end0
      exact ⟨rfl, HFIN.out, honly⟩

theorem insOrdB_none (A : Option Addr) (c : Nat) (w : World) :
    Calls Try.prog 64 #[.slice A 0 c, .int .i64 0, .int .i64 0] w fun e w' => e = .returned (.tuple #[]) ∧ w = w' := by
  go_enter Try.func64, Try.ntmps64
  go_wp2
  go_loopw [6, 7] (fun i _ wr => i = .int .i64 1 ∧ wr = w) (fun _ _ _ => 0)
  case atStart => exact ⟨rfl, rfl⟩
  case round =>
    obtain ⟨rfl, rfl⟩ := hrel
    go_wp2
    go_end0
    exact ⟨rfl, rfl⟩

set_option maxHeartbeats 2000000 in
theorem pdqB_any (g T N n c : Nat) (bs : List Int) (lim : Int) (w : World) (hn : bs.length = n) (hn12 : n ≤ 12) (h : RowB w g T N bs) :
    Calls Try.prog 59 #[.slice (some ⟨g, 0, none⟩) n c, .int .i64 0, .int .i64 (n : Int), .int .i64 lim] w fun e w' =>
      e = .returned (.tuple #[]) ∧ RowB w' g T N (sortG upLt bs) ∧ Only (fun b => b = g) w w' := by
  have hc : Calls Try.prog 64 #[.slice (some ⟨g, 0, none⟩) n c, .int .i64 0, .int .i64 (n : Int)] w fun e w' =>
      e = .returned (.tuple #[]) ∧ RowB w' g T N (sortG upLt bs) ∧ Only (fun b => b = g) w w' := by
    rcases Nat.eq_zero_or_pos n with h0 | h1
    · subst h0
      obtain rfl : bs = [] := List.length_eq_zero_iff.1 hn
      refine (insOrdB_none _ _ w).mono ?_
      rintro e w' ⟨rfl, rfl⟩
      exact ⟨rfl, h, Only.refl _ _⟩
    · exact insOrdB_any g T N n c bs w hn h1 hn12 h
  have HC := Lib.hid hc
  clear hc
  have hle : (n : Int) ≤ 12 := by omega
  clear hn h
  go_enter Try.func59, Try.ntmps59
  go_wp2
  go_loopw [1, 2, 3, 8, 9] (fun z m l a b wr => z = .int .i64 0 ∧ m = .int .i64 (n : Int) ∧ l = .int .i64 lim ∧ a = .bool true ∧ b = .bool true ∧ wr = w) (fun _ _ _ _ _ _ => 0)
  case atStart => exact ⟨rfl, rfl, rfl, rfl, rfl, rfl⟩
  case round =>
    obtain ⟨rfl, rfl, rfl, rfl, rfl, rfl⟩ := hrel
    go_wp2_with fail
    refine HC.out.mono ?_
    rintro e w1 ⟨rfl, hrow, honly⟩
    go_wp2
    exact bodyPost_ret (results_none rfl _ _ _) rfl ⟨rfl, hrow, honly⟩

set_option maxRecDepth 100000 in
theorem len64_small (n : Nat) (hn : n ≤ 12) (w : World) : Calls Try.prog 74 #[.int .u64 (n : Int)] w fun e w' => (∃ v, e = .returned (.int .i64 v)) ∧ w = w' := by
  obtain rfl | rfl | rfl | rfl | rfl | rfl | rfl | rfl | rfl | rfl | rfl | rfl | rfl : n = 0 ∨ n = 1 ∨ n = 2 ∨ n = 3 ∨ n = 4 ∨ n = 5 ∨ n = 6 ∨ n = 7 ∨ n = 8 ∨ n = 9 ∨ n = 10 ∨ n = 11 ∨ n = 12 := by omega
  all_goals
    go_enter Try.func74, Try.ntmps74
    go_wp2
    go_ret
    exact ⟨⟨_, rfl⟩, rfl⟩

set_option maxRecDepth 100000 in
theorem bitsLen_small (n : Nat) (hn : n ≤ 12) (w : World) : Calls Try.prog 60 #[.int .u64 (n : Int)] w fun e w' => (∃ v, e = .returned (.int .i64 v)) ∧ w = w' := by
  have HL := Lib.hid (len64_small n hn)
  go_enter Try.func60, Try.ntmps60
  go_wp2_with fail
  refine (HL.out _).mono ?_
  rintro e w1 ⟨⟨v, rfl⟩, rfl⟩
  go_wp2
  go_ret
  exact ⟨⟨_, rfl⟩, rfl⟩

theorem sortB_any (g T N n c : Nat) (bs : List Int) (w : World) (hn : bs.length = n) (hn12 : n ≤ 12) (h : RowB w g T N bs) :
    Calls Try.prog 55 #[.slice (some ⟨g, 0, none⟩) n c] w fun e w' =>
      e = .returned (.tuple #[]) ∧ RowB w' g T N (sortG upLt bs) ∧ Only (fun b => b = g) w w' := by
  have HC := Lib.hid (fun lim => pdqB_any g T N n c bs lim w hn hn12 h)
  have HL := Lib.hid (bitsLen_small n hn12)
  have hu : IntKind.u64.wrap (n : Int) = (n : Int) := by rw [IntKind.wrap_u64]; omega
  clear hn h
  go_enter Try.func55, Try.ntmps55
  go_wp2_with fail
  refine (HL.out _).mono ?_
  rintro e w1 ⟨⟨v, rfl⟩, rfl⟩
  go_wp2_with fail
  refine (HC.out _).mono ?_
  rintro e w1 ⟨rfl, hrow, honly⟩
  go_wp2
  go_end0
  exact ⟨rfl, hrow, honly⟩
end Go.Proofs.Ytgcljhgpihpfgaa

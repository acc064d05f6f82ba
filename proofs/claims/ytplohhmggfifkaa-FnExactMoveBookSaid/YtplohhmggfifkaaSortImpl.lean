/-
  The library's stable sort of at most twelve books, the taller ones first.
  Conditions: at most twelve books.
-/
import Derived.Test.YtplohhmggfifkaaInsM
import Derived.Deep.RegionHeld3
import Derived.BigRegion
namespace Go.Proofs.Ytplohhmggfifkaa
set_option linter.unusedVariables false
open Go.RowKit

theorem cmpTall_any (a b : Int × Int) (w : World) (ha : 0 ≤ a.2 ∧ a.2 ≤ 1000000) (hb : 0 ≤ b.2 ∧ b.2 ≤ 1000000) :
    Calls Try.prog 76 #[bookV a, bookV b] w fun e w' => e = .returned (.int .i64 (b.2 - a.2)) ∧ Below w.heap.size w w' := by
  obtain ⟨a1, a2⟩ := a
  obtain ⟨b1, b2⟩ := b
  simp only at ha hb
  unfold bookV
  go_enter Try.func76, Try.ntmps76
  go_wp2
  go_ret
  exact ⟨rfl, ((Below.refl _ _).alloc (Nat.le_refl _) _).alloc (by simp) _⟩

theorem cell_set_off (W : World) (g a c : Nat) (v : Value) (h : a ≠ c) : (W.setCell ⟨g, a, none⟩ v).cell? ⟨g, c, none⟩ = W.cell? ⟨g, c, none⟩ :=
  World.cell?_setCell_other W _ _ v (by intro e; injection e with _ e _; exact h e)

def TallB (bs : List (Int × Int)) : Prop := bs.length ≤ 12 ∧ ∀ b ∈ bs, 0 ≤ b.2 ∧ b.2 ≤ 1000000

set_option maxHeartbeats 4000000 in
theorem insertion_any (g T N n c : Nat) (bs : List (Int × Int)) (w : World) (hn : bs.length = n) (hn1 : 1 ≤ n) (hg : TallB bs) (h : Row w g T N (flat bs)) :
    Calls Try.prog 86 #[.slice (some ⟨g, 0, none⟩) n c, .int .i64 0, .int .i64 (n : Int), .func (.func 76) #[] #[]] w fun e w' =>
      e = .returned (.tuple #[]) ∧ Row w' g T N (flat (sortK bs)) ∧ Only (fun b => b = g) w w' := by
  have hn12 : n ≤ 12 := by have := hg.1; omega
  have HN := Lib.hid hn
  have HG := Lib.hid hg
  have hfirst : sortK (bs.take 1) ++ bs.drop 1 = bs := by
    match bs, hn with
    | [], hn => simp at hn; omega
    | b :: bs, hn => rfl
  have H0 := Lib.hid (show Row w g T N (flat (sortK (bs.take 1) ++ bs.drop 1)) by rw [hfirst]; exact h)
  clear hn hg h hfirst
  go_enter Try.func86, Try.ntmps86
  go_wp2
  go_loopw [8, 9] (fun i _ wr => ∃ k : Nat, 1 ≤ k ∧ k ≤ n ∧ i = .int .i64 (k : Int) ∧ Row wr g T N (flat (sortK (bs.take k) ++ bs.drop k)) ∧ Only (fun b => b = g) w wr) (fun i _ _ => n - (intOf i).toNat)
  case atStart => exact ⟨1, Nat.le_refl _, hn1, rfl, H0.out, Only.refl _ _⟩
  case round =>
    obtain ⟨k, hk1, hk, rfl, hrow, honly⟩ := hrel
    by_cases hlt : k < n
    · obtain ⟨b, hb⟩ : ∃ b, bs[k]? = some b := ⟨_, List.getElem?_eq_getElem (by rw [HN.out]; exact hlt)⟩
      have hnext := sortK_next hb
      have hdrop : bs.drop k = b :: bs.drop (k + 1) := by
        obtain ⟨hk', rfl⟩ := List.getElem?_eq_some_iff.1 hb
        exact List.drop_eq_getElem_cons hk'
      have hmem : ∀ x ∈ sortK (bs.take k), 0 ≤ x.2 ∧ x.2 ≤ 1000000 := sortK_mem (fun x hx => HG.out.2 x (List.mem_of_mem_take hx))
      have hbm := HG.out.2 b (List.mem_of_getElem? hb)
      have hlen : (sortK (bs.take k)).length = k := by rw [sortK_length, List.length_take, HN.out]; omega
      rw [hdrop] at hrow
      obtain ⟨out, hout⟩ : ∃ out, sortK (bs.take k) = out := ⟨_, rfl⟩
      obtain ⟨rest, hrest⟩ : ∃ rest, bs.drop (k + 1) = rest := ⟨_, rfl⟩
      rw [hout] at hnext hmem hlen hrow
      rw [hrest] at hrow
      rw [← atK_end, hlen] at hrow
      have HNX := Lib.hid hnext
      have HR := Lib.hid hrest
      have HM := Lib.hid hmem
      have HL := Lib.hid hlen
      have HROW := Lib.hid hrow
      clear hnext hdrop hmem hlen hrow hout hrest hb
      go_wp2
      go_loopw [9] (fun i wr => ∃ j : Nat, j ≤ k ∧ i = .int .i64 (j : Int) ∧ Row wr g T N (flat (atK out b j ++ rest)) ∧ Only (fun b => b = g) w wr ∧ Hid (posK out b j = posK out b k)) (fun i _ => (intOf i).toNat)
      case atStart => exact ⟨k, Nat.le_refl _, rfl, HROW.out, honly, rfl⟩
      case round =>
        obtain ⟨j, hj, rfl, hrow, honly2, hpos⟩ := hrel
        rcases Nat.eq_zero_or_pos j with hj0 | hjp
        · subst hj0
          have HROW0 := Lib.hid hrow
          have hz : insK out b = atK out b 0 := by rw [insK, HL.out, ← hpos.out]; rfl
          have HZ := Lib.hid hz
          clear hz
          go_wp2_with fail
          refine wp_region_held_drew (S := (fun wq => Row wq g T N (flat (atK out b 0 ++ rest)) ∧ Only (fun b => b = g) w wq)) (by kernel_rfl) ⟨hrow.keep rfl, honly2.drew⟩ (fun hH0 => ?_)
          refine wpAnyH_take (i := 0) (v := ?_) (ops_at rfl) (by kernel_rfl) (by kernel_rfl) (by kernel_rfl) (fun _ _ _ h => h) (Or.inl ⟨by rfl, ?ya0⟩) (by assumption) ?na0
          case ya0 => (intro wS hSw; (try dsimp only at hSw); go_simp; try rfl)
          try simp only [Act.put, List.setIfInBounds_toArray, List.set_cons_zero, List.set_cons_succ]
          refine wpAnyH_take (i := 1) (v := ?_) (ops_at rfl) (by kernel_rfl) (by kernel_rfl) (by kernel_rfl) (fun _ _ _ h => h) (Or.inl ⟨by rfl, ?ya1⟩) (by assumption) ?na1
          case ya1 => (intro wS hSw; (try dsimp only at hSw); go_simp; try rfl)
          try simp only [Act.put, List.setIfInBounds_toArray, List.set_cons_zero, List.set_cons_succ]
          refine wpAnyH_take (i := 2) (v := ?_) (ops_at rfl) (by kernel_rfl) (by kernel_rfl) (by kernel_rfl) (fun _ _ _ h => h) (Or.inl ⟨by rfl, ?ya2⟩) (by assumption) ?na2
          case ya2 => (intro wS hSw; (try dsimp only at hSw); go_simp; try rfl)
          try simp only [Act.put, List.setIfInBounds_toArray, List.set_cons_zero, List.set_cons_succ]
          refine wpAnyH_take (i := 3) (v := ?_) (ops_at rfl) (by kernel_rfl) (by kernel_rfl) (by kernel_rfl) (fun _ _ _ h => h) (Or.inl ⟨by rfl, ?ya3⟩) (by assumption) ?na3
          case ya3 => (intro wS hSw; (try dsimp only at hSw); go_simp; try rfl)
          try simp only [Act.put, List.setIfInBounds_toArray, List.set_cons_zero, List.set_cons_succ]
          refine wpAnyH_take (i := 4) (v := undef) (ops_at rfl) (by kernel_rfl) (by kernel_rfl) (by kernel_rfl) (fun _ _ _ h => h) (Or.inr ⟨by rfl, rfl⟩) (by assumption) ?_
          try simp only [Act.put, List.setIfInBounds_toArray, List.set_cons_zero, List.set_cons_succ]
          refine wpAnyH_take (i := 5) (v := undef) (ops_at rfl) (by kernel_rfl) (by kernel_rfl) (by kernel_rfl) (fun _ _ _ h => h) (Or.inr ⟨by rfl, rfl⟩) (by assumption) ?_
          try simp only [Act.put, List.setIfInBounds_toArray, List.set_cons_zero, List.set_cons_succ]
          refine wpAnyH_take (i := 6) (v := undef) (ops_at rfl) (by kernel_rfl) (by kernel_rfl) (by kernel_rfl) (fun _ _ _ h => h) (Or.inr ⟨by rfl, rfl⟩) (by assumption) ?_
          try simp only [Act.put, List.setIfInBounds_toArray, List.set_cons_zero, List.set_cons_succ]
          refine wpAnyH_take (i := 7) (v := undef) (ops_at rfl) (by kernel_rfl) (by kernel_rfl) (by kernel_rfl) (fun _ _ _ h => h) (Or.inr ⟨by rfl, rfl⟩) (by assumption) ?_
          try simp only [Act.put, List.setIfInBounds_toArray, List.set_cons_zero, List.set_cons_succ]
          refine wpAnyH_take (i := 8) (v := undef) (ops_at rfl) (by kernel_rfl) (by kernel_rfl) (by kernel_rfl) (fun _ _ _ h => h) (Or.inr ⟨by rfl, rfl⟩) (by assumption) ?_
          try simp only [Act.put, List.setIfInBounds_toArray, List.set_cons_zero, List.set_cons_succ]
          refine wpAnyH_take (i := 9) (v := undef) (ops_at rfl) (by kernel_rfl) (by kernel_rfl) (by kernel_rfl) (fun _ _ _ h => h) (Or.inr ⟨by rfl, rfl⟩) (by assumption) ?_
          try simp only [Act.put, List.setIfInBounds_toArray, List.set_cons_zero, List.set_cons_succ]
          refine wpAnyH_take (i := 10) (v := undef) (ops_at rfl) (by kernel_rfl) (by kernel_rfl) (by kernel_rfl) (fun _ _ _ h => h) (Or.inr ⟨by rfl, rfl⟩) (by assumption) ?_
          try simp only [Act.put, List.setIfInBounds_toArray, List.set_cons_zero, List.set_cons_succ]
          refine wpAnyH_take (i := 11) (v := undef) (ops_at rfl) (by kernel_rfl) (by kernel_rfl) (by kernel_rfl) (fun _ _ _ h => h) (Or.inr ⟨by rfl, rfl⟩) (by assumption) ?_
          try simp only [Act.put, List.setIfInBounds_toArray, List.set_cons_zero, List.set_cons_succ]
          refine wpAnyH_take (i := 12) (v := undef) (ops_at rfl) (by kernel_rfl) (by kernel_rfl) (by kernel_rfl) (fun _ _ _ h => h) (Or.inr ⟨by rfl, rfl⟩) (by assumption) ?_
          try simp only [Act.put, List.setIfInBounds_toArray, List.set_cons_zero, List.set_cons_succ]
          refine wpAnyH_take (i := 13) (v := undef) (ops_at rfl) (by kernel_rfl) (by kernel_rfl) (by kernel_rfl) (fun _ _ _ h => h) (Or.inr ⟨by rfl, rfl⟩) (by assumption) ?_
          try simp only [Act.put, List.setIfInBounds_toArray, List.set_cons_zero, List.set_cons_succ]
          refine wpAnyH_take (i := 14) (v := undef) (ops_at rfl) (by kernel_rfl) (by kernel_rfl) (by kernel_rfl) (fun _ _ _ h => h) (Or.inr ⟨by rfl, rfl⟩) (by assumption) ?_
          try simp only [Act.put, List.setIfInBounds_toArray, List.set_cons_zero, List.set_cons_succ]
          refine wpAnyH_take (i := 15) (v := undef) (ops_at rfl) (by kernel_rfl) (by kernel_rfl) (by kernel_rfl) (fun _ _ _ h => h) (Or.inr ⟨by rfl, rfl⟩) (by assumption) ?_
          try simp only [Act.put, List.setIfInBounds_toArray, List.set_cons_zero, List.set_cons_succ]
          refine wpAnyH_take (i := 16) (v := ?_) (ops_at rfl) (by kernel_rfl) (by kernel_rfl) (by kernel_rfl) (fun _ _ _ h => h) (Or.inl ⟨by rfl, ?ya16⟩) (by assumption) ?na16
          case ya16 => (intro wS hSw; (try dsimp only at hSw); go_simp; try rfl)
          try simp only [Act.put, List.setIfInBounds_toArray, List.set_cons_zero, List.set_cons_succ]
          refine wpAnyH_done (by kernel_rfl) ?_ _
          go_wp2
          go_roundw
          case rel => exact ⟨k + 1, by omega, by omega, by go_num, by rw [HNX.out, HZ.out, HR.out]; exact HROW0.out.keep rfl, honly2.drew⟩
          case measure => simp [intOf]; omega
        · obtain ⟨jj, hjj⟩ : ∃ jj, j = jj + 1 := ⟨j - 1, by omega⟩
          obtain ⟨x, hx⟩ : ∃ x, out[jj]? = some x := ⟨_, List.getElem?_eq_getElem (by rw [HL.out]; omega)⟩
          have hxm := HM.out x (List.mem_of_getElem? hx)
          have hher := atK_here (out := out) (b := b) (j := j) (by rw [HL.out]; exact hj) rest
          have hprv : (atK out b j ++ rest)[jj]? = some x := by rw [hjj]; exact atK_prev hx rest
          obtain ⟨q1, q2⟩ := hrow.book hher
          obtain ⟨q3, q4⟩ := hrow.book hprv
          have f1 := hrow.frozen (j * 2)
          have f2 := hrow.frozen (j * 2 + 1)
          have f3 := hrow.frozen (jj * 2)
          have f4 := hrow.frozen (jj * 2 + 1)
          obtain ⟨b1, b2⟩ := b
          obtain ⟨x1, x2⟩ := x
          simp only at q1 q2 q3 q4 hxm hbm
          have HB := Lib.hid hbm
          have HXB := Lib.hid hxm
          have HX := Lib.hid hx
          have HJJ := Lib.hid hjj
          have HROW1 := Lib.hid hrow
          have hwr : IntKind.i64.wrap ((j : Int) - 1) = (jj : Int) := by
            have h : ((j : Int) - 1) = (jj : Int) := by omega
            rw [h, IntKind.wrap_i64]
            omega
          have hjpos : (0 : Int) < (j : Int) := by omega
          have hjn : (j : Int) < (n : Int) := by omega
          have hjjn : (jj : Int) < (n : Int) := by omega
          have hjj0 : (0 : Int) ≤ (jj : Int) := by omega
          have hwr2 : IntKind.i64.wrap (x2 - b2) = x2 - b2 := by
            rw [IntKind.wrap_i64]
            omega
          clear hjj hx hher hprv hrow
          go_wp2_with fail
          refine wp_region_held_drew (S := (fun wq => wq.cell? ⟨g, j * 2, none⟩ = some (.int .i64 b1) ∧ wq.cell? ⟨g, j * 2 + 1, none⟩ = some (.int .i64 b2) ∧ wq.cell? ⟨g, jj * 2, none⟩ = some (.int .i64 x1) ∧ wq.cell? ⟨g, jj * 2 + 1, none⟩ = some (.int .i64 x2))) (by kernel_rfl) ⟨q1, q2, q3, q4⟩ (fun hH0 => ?_)
          refine wpAnyH_take (i := 0) (v := ?_) (ops_at rfl) (by kernel_rfl) (by kernel_rfl) (by kernel_rfl) (fun _ _ _ h => h) (Or.inl ⟨by rfl, ?yb0⟩) (by assumption) ?nb0
          case yb0 => (intro wS hSw; (try dsimp only at hSw); go_simp; try rfl)
          try simp only [Act.put, List.setIfInBounds_toArray, List.set_cons_zero, List.set_cons_succ]
          refine wpAnyH_take (i := 1) (v := ?_) (ops_at rfl) (by kernel_rfl) (by kernel_rfl) (by kernel_rfl) (fun _ _ _ h => h) (Or.inl ⟨by rfl, ?yb1⟩) (by assumption) ?nb1
          case yb1 => (intro wS hSw; (try dsimp only at hSw); go_simp; try rfl)
          try simp only [Act.put, List.setIfInBounds_toArray, List.set_cons_zero, List.set_cons_succ]
          refine wpAnyH_take (i := 2) (v := ?_) (ops_at rfl) (by kernel_rfl) (by kernel_rfl) (by kernel_rfl) (fun _ _ _ h => h) (Or.inl ⟨by rfl, ?yb2⟩) (by assumption) ?nb2
          case yb2 => (intro wS hSw; (try dsimp only at hSw); go_simp; try rfl)
          try simp only [Act.put, List.setIfInBounds_toArray, List.set_cons_zero, List.set_cons_succ]
          refine wpAnyH_take (i := 3) (v := ?_) (ops_at rfl) (by kernel_rfl) (by kernel_rfl) (by kernel_rfl) (fun _ _ _ h => h) (Or.inl ⟨by rfl, ?yb3⟩) (by assumption) ?nb3
          case yb3 => (intro wS hSw; (try dsimp only at hSw); go_simp; try rfl)
          try simp only [Act.put, List.setIfInBounds_toArray, List.set_cons_zero, List.set_cons_succ]
          refine wpAnyH_take (i := 4) (v := ?_) (ops_at rfl) (by kernel_rfl) (by kernel_rfl) (by kernel_rfl) (fun _ _ _ h => h) (Or.inl ⟨by rfl, ?yb4⟩) (by assumption) ?nb4
          case yb4 => (intro wS hSw; (try dsimp only at hSw); go_simp; try rfl)
          try simp only [Act.put, List.setIfInBounds_toArray, List.set_cons_zero, List.set_cons_succ]
          refine wpAnyH_take (i := 5) (v := ?_) (ops_at rfl) (by kernel_rfl) (by kernel_rfl) (by kernel_rfl) (fun _ _ _ h => h) (Or.inl ⟨by rfl, ?yb5⟩) (by assumption) ?nb5
          case yb5 => (intro wS hSw; (try dsimp only at hSw); go_simp; try rfl)
          try simp only [Act.put, List.setIfInBounds_toArray, List.set_cons_zero, List.set_cons_succ]
          refine wpAnyH_take (i := 6) (v := ?_) (ops_at rfl) (by kernel_rfl) (by kernel_rfl) (by kernel_rfl) (fun _ _ _ h => h) (Or.inl ⟨by rfl, ?yb6⟩) (by assumption) ?nb6
          case yb6 => (intro wS hSw; (try dsimp only at hSw); go_simp; try rfl)
          try simp only [Act.put, List.setIfInBounds_toArray, List.set_cons_zero, List.set_cons_succ]
          refine wpAnyH_take (i := 7) (v := ?_) (ops_at rfl) (by kernel_rfl) (by kernel_rfl) (by kernel_rfl) (fun _ _ _ h => h) (Or.inl ⟨by rfl, ?yb7⟩) (by assumption) ?nb7
          case yb7 => (intro wS hSw; (try dsimp only at hSw); go_simp; try rfl)
          try simp only [Act.put, List.setIfInBounds_toArray, List.set_cons_zero, List.set_cons_succ]
          refine wpAnyH_take (i := 8) (v := ?_) (ops_at rfl) (by kernel_rfl) (by kernel_rfl) (by kernel_rfl) (fun _ _ _ h => h) (Or.inl ⟨by rfl, ?yb8⟩) (by assumption) ?nb8
          case yb8 => (intro wS hSw; (try dsimp only at hSw); go_simp; try rfl)
          try simp only [Act.put, List.setIfInBounds_toArray, List.set_cons_zero, List.set_cons_succ]
          refine wpAnyH_take (i := 9) (v := ?_) (ops_at rfl) (by kernel_rfl) (by kernel_rfl) (by kernel_rfl) (fun _ _ _ h => h) (Or.inl ⟨by rfl, ?yb9⟩) (by assumption) ?nb9
          case yb9 => (intro wS hSw; (try dsimp only at hSw); go_simp; try rfl)
          try simp only [Act.put, List.setIfInBounds_toArray, List.set_cons_zero, List.set_cons_succ]
          refine wpAnyH_take (i := 10) (v := ?_) (ops_at rfl) (by kernel_rfl) (by kernel_rfl) (by kernel_rfl) (fun _ _ _ h => h) (Or.inl ⟨by rfl, ?yb10⟩) (by assumption) ?nb10
          case yb10 => (intro wS hSw; (try dsimp only at hSw); go_simp; try rfl)
          try simp only [Act.put, List.setIfInBounds_toArray, List.set_cons_zero, List.set_cons_succ]
          refine wpAnyH_take (i := 11) (v := ?_) (ops_at rfl) (by kernel_rfl) (by kernel_rfl) (by kernel_rfl) (fun _ _ _ h => h) (Or.inl ⟨by rfl, ?yb11⟩) (by assumption) ?nb11
          case yb11 => (intro wS hSw; (try dsimp only at hSw); go_simp; try rfl)
          try simp only [Act.put, List.setIfInBounds_toArray, List.set_cons_zero, List.set_cons_succ]
          refine wpAnyH_take (i := 12) (v := ?_) (ops_at rfl) (by kernel_rfl) (by kernel_rfl) (by kernel_rfl) (fun _ _ _ h => h) (Or.inl ⟨by rfl, ?yb12⟩) (by assumption) ?nb12
          case yb12 => (intro wS hSw; (try dsimp only at hSw); go_simp; try rfl)
          try simp only [Act.put, List.setIfInBounds_toArray, List.set_cons_zero, List.set_cons_succ]
          refine wpAnyH_take (i := 13) (v := ?_) (ops_at rfl) (by kernel_rfl) (by kernel_rfl) (by kernel_rfl) (fun _ _ _ h => h) (Or.inl ⟨by rfl, ?yb13⟩) (by assumption) ?nb13
          case yb13 => (intro wS hSw; (try dsimp only at hSw); go_simp; try rfl)
          try simp only [Act.put, List.setIfInBounds_toArray, List.set_cons_zero, List.set_cons_succ]
          refine wpAnyH_ready (rs := [14]) (by kernel_rfl) (by simp) ?_
          refine AllReadyH.cons (ops_at rfl) (fun K hK => ?_) AllReadyH.nil
          go_simp
          refine (cmpTall_any (b1, b2) (x1, x2) _ HB.out HXB.out).mono ?_
          rintro e w2 ⟨rfl, hb2⟩
          refine hK.out _ _ ⟨(hb2.cell (by have := cell_lt q1; exact this)).trans q1, (hb2.cell (by have := cell_lt q2; exact this)).trans q2, (hb2.cell (by have := cell_lt q3; exact this)).trans q3, (hb2.cell (by have := cell_lt q4; exact this)).trans q4⟩ (fun hHb14 => ?_)
          clear hK K
          refine wpAnyH_take (i := 15) (v := ?_) (ops_at rfl) (by kernel_rfl) (by kernel_rfl) (by kernel_rfl) (fun _ _ _ h => h) (Or.inl ⟨by rfl, ?yb15⟩) (by assumption) ?nb15
          case yb15 => (intro wS hSw; (try dsimp only at hSw); go_simp; try rfl)
          try simp only [Act.put, List.setIfInBounds_toArray, List.set_cons_zero, List.set_cons_succ]
          refine wpAnyH_take (i := 16) (v := ?_) (ops_at rfl) (by kernel_rfl) (by kernel_rfl) (by kernel_rfl) (fun _ _ _ h => h) (Or.inl ⟨by rfl, ?yb16⟩) (by assumption) ?nb16
          case yb16 => (intro wS hSw; (try dsimp only at hSw); go_simp; try rfl)
          try simp only [Act.put, List.setIfInBounds_toArray, List.set_cons_zero, List.set_cons_succ]
          refine wpAnyH_done (by kernel_rfl) ?_ _
          have hrow2 := HROW1.out.keep (hb2.block _ HROW1.out.lt)
          have honly3 := honly2.trans (Only.of_below (undrew hb2) (Nat.le_refl _))
          by_cases hlow : x2 < b2
          · have hset : ((atK out (b1, b2) j ++ rest).set j (x1, x2)).set jj (b1, b2) = atK out (b1, b2) jj ++ rest := by rw [HJJ.out]; exact atK_swap HX.out rest
            have hpos2 : posK out (b1, b2) jj = posK out (b1, b2) k := by rw [← posK_go (b := (b1, b2)) HX.out hlow, ← HJJ.out]; exact hpos.out
            have HSET := Lib.hid hset
            have HPOS2 := Lib.hid hpos2
            have HROW2 := Lib.hid hrow2
            have q1' := (hb2.cell (by have := cell_lt q1; exact this)).trans q1
            have q2' := (hb2.cell (by have := cell_lt q2; exact this)).trans q2
            have q3' := (hb2.cell (by have := cell_lt q3; exact this)).trans q3
            have q4' := (hb2.cell (by have := cell_lt q4; exact this)).trans q4
            have f1' := hrow2.frozen (j * 2)
            have f2' := hrow2.frozen (j * 2 + 1)
            have f3' := hrow2.frozen (jj * 2)
            have f4' := hrow2.frozen (jj * 2 + 1)
            have hdec : x2 - b2 < 0 := by omega
            have hne : ∀ (W : World) (a c : Nat) (v : Value), a ≠ c → (W.setCell ⟨g, a, none⟩ v).cell? ⟨g, c, none⟩ = W.cell? ⟨g, c, none⟩ := fun W a c v h => cell_set_off W g a c v h
            have e1 := fun W v => hne W (j * 2) (jj * 2) v (by have := HJJ.out; omega)
            have e2 := fun W v => hne W (j * 2 + 1) (jj * 2 + 1) v (by have := HJJ.out; omega)
            have e3 := fun W v => hne W (jj * 2) (j * 2) v (by have := HJJ.out; omega)
            have e4 := fun W v => hne W (jj * 2 + 1) (j * 2 + 1) v (by have := HJJ.out; omega)
            clear hne
            clear hset hpos2 hrow2 q1 q2 q3 q4 f1 f2 f3 f4
            go_wp2
            go_region
            all_goals go_wp2
            go_roundw
            case rel =>
              refine ⟨jj, by have := HJJ.out; omega, rfl, ?_, ((((honly3.setCell (p := ⟨g, j * 2, none⟩) rfl _).setCell (p := ⟨g, j * 2 + 1, none⟩) rfl _).setCell (p := ⟨g, jj * 2, none⟩) rfl _).setCell (p := ⟨g, jj * 2 + 1, none⟩) rfl _).drew, HPOS2.out⟩
              have hall := (((HROW2.out.set (j * 2) x1).set (j * 2 + 1) x2).set (jj * 2) b1).set (jj * 2 + 1) b2
              rw [← HSET.out, flat_set, flat_set]
              exact hall
            case measure => have := HJJ.out; simp [intOf]; omega
          · have hstop : insK out (b1, b2) = atK out (b1, b2) j := by
              rw [insK, HL.out, ← hpos.out, HJJ.out, posK_stop HX.out hlow]
            have HSTOP := Lib.hid hstop
            have HROW2 := Lib.hid hrow2
            have hdec : ¬ x2 - b2 < 0 := by omega
            clear hstop hrow2
            go_wp2
            go_roundw
            case rel => exact ⟨k + 1, by omega, by omega, by go_num, by rw [HNX.out, HSTOP.out, HR.out]; exact HROW2.out, honly3⟩
            case measure => simp [intOf]; omega
    · obtain rfl : k = n := by omega
      have hfin : Row wr g T N (flat (sortK bs)) := by
        rw [List.take_of_length_le (by rw [HN.out]; exact Nat.le_refl _), List.drop_of_length_le (by rw [HN.out]; exact Nat.le_refl _), List.append_nil] at hrow
        exact hrow
      have HFIN := Lib.hid hfin
      clear hrow hfin
      go_wp2
      go_end0
      exact ⟨rfl, HFIN.out, honly⟩

set_option maxHeartbeats 2000000 in
theorem stable_any (g T N n c : Nat) (bs : List (Int × Int)) (w : World) (hn : bs.length = n) (hn1 : 1 ≤ n) (hg : TallB bs) (h : Row w g T N (flat bs)) :
    Calls Try.prog 83 #[.slice (some ⟨g, 0, none⟩) n c, .int .i64 (n : Int), .func (.func 76) #[] #[]] w fun e w' =>
      e = .returned (.tuple #[]) ∧ Row w' g T N (flat (sortK bs)) ∧ Only (fun b => b = g) w w' := by
  have hn12 : n ≤ 12 := by have := hg.1; omega
  have HC := Lib.hid (fun W h => insertion_any g T N n c bs W hn hn1 hg h)
  have H := Lib.hid h
  clear hn hg h
  go_enter Try.func83, Try.ntmps83
  go_wp2
  go_loopw [7, 8] (fun a b wr => a = .int .i64 0 ∧ b = .int .i64 20 ∧ wr = w) (fun _ _ _ => 0)
  case atStart => exact ⟨rfl, rfl, rfl⟩
  case round =>
    obtain ⟨rfl, rfl, rfl⟩ := hrel
    go_wp2_with fail
    refine (HC.out _ H.out).mono ?_
    rintro e w1 ⟨rfl, hrow, honly⟩
    go_wp2
    go_loopw [6, 7, 8, 9] (fun s _ _ _ wr => s = .int .i64 20 ∧ wr = w1) (fun _ _ _ _ _ => 0)
    case atStart => exact ⟨rfl, rfl⟩
    case round =>
      obtain ⟨rfl, rfl⟩ := hrel
      go_wp2
      go_end0
      exact ⟨rfl, hrow, honly⟩

theorem sortStable_any (g T N n c : Nat) (bs : List (Int × Int)) (w : World) (hn : bs.length = n) (hn1 : 1 ≤ n) (hg : TallB bs) (h : Row w g T N (flat bs)) :
    Calls Try.prog 75 #[.slice (some ⟨g, 0, none⟩) n c, .func (.func 76) #[] #[]] w fun e w' =>
      e = .returned (.tuple #[]) ∧ Row w' g T N (flat (sortK bs)) ∧ Only (fun b => b = g) w w' := by
  have HC := Lib.hid (stable_any g T N n c bs w hn hn1 hg h)
  clear hn hn1 hg h
  go_enter Try.func75, Try.ntmps75
  go_wp2_with fail
  refine HC.out.mono ?_
  rintro e w1 ⟨rfl, hrow, honly⟩
  go_wp2
  go_end0
  exact ⟨rfl, hrow, honly⟩
end Go.Proofs.Ytplohhmggfifkaa

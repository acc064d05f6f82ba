/-
  Both programs' books with the taller ones first.
  Conditions: the list has at most 1048576 books.
-/
import Derived.Test.YtplohhmggfifkaaSortImpl
import Derived.Test.YtplohhmggfifkaaAppendK
import Derived.Test.YtplohhmggfifkaaShelfFill
namespace Go.Proofs.Ytplohhmggfifkaa
set_option linter.unusedVariables false
open Go.RowKit

theorem listK_yes {bs ys : List (Int × Int)} (h : goodK bs = true) (hl : ys.length = bs.length) : (listK true ys).length ≤ 1048576 := by
  have := (goodK_at h).2.1
  simp [listK]
  omega

theorem good_tall {bs : List (Int × Int)} (h : goodK bs = true) : TallB bs := ⟨(goodK_at h).2.1, fun b hb => by have := (goodK_at h).2.2 b hb; omega⟩

section
variable (A : Option Addr) (n c : Nat) (bs : List (Int × Int)) (lo hi : Nat) (w : World) (hn : bs.length = n) (hlen : n ≤ 1048576)
    (hs : Seg w lo hi A (flat bs)) (hB : hi ≤ w.heap.size) (q : Bool) (hq : goodK bs = q)
include hn hlen hs hB hq

set_option maxHeartbeats 1000000 in
theorem impl_TallestFirst :
    Calls Try.prog 44 #[.slice A n c] w (RetKL q (listK q (sortK bs)) w) := by
  have HN := Lib.hid hn
  have HQ := Lib.hid hq
  cases q
  · clear hn hq
    go_enter Try.func44, Try.ntmps44
    go_wp2_with fail
    refine (areBooks_any _ _ _ bs lo hi _ HN.out hlen hs hB _ HQ.out).mono ?_
    rintro e w1 ⟨rfl, hb1⟩
    go_wp2
    go_ret2
    exact ⟨_, _, _, rfl, rfl, Own.nil_, hb1⟩
  · have hn1 := (goodK_at hq).1
    rw [hn] at hn1
    obtain ⟨b, off, _, _, rfl, _⟩ := hs.book (k := 0) (by omega)
    clear hn hq
    go_enter Try.func44, Try.ntmps44
    go_wp2_with fail
    refine (areBooks_any _ _ _ bs lo hi _ HN.out hlen hs hB _ HQ.out).mono ?_
    rintro e w1 ⟨rfl, hb1⟩
    go_wp2_with fail
    refine (slicesCloneK_any _ n c bs lo hi _ HN.out hlen (hs.below hb1 hB) (Nat.le_trans hB hb1.size)).mono ?_
    rintro e w2 ⟨v, rfl, hown, hb2⟩
    obtain ⟨g, cap, N, rfl, hg1, hcap, hrow⟩ := row_of_owns hown (by omega)
    have hbb := hb1.trans (hb2.mono hb1.size)
    have hz1 := hb1.size
    go_wp2_with fail
    refine (sortStable_any g _ N n cap bs _ HN.out hn1 (good_tall HQ.out) hrow).mono ?_
    rintro e w3 ⟨rfl, hrow3, honly⟩
    have hfin : Below w.heap.size w w3 := hbb.trans (honly.below hbb.size (fun b hb => by rw [hb]; omega))
    have hown3 := hrow3.own (lo := w.heap.size) (hi := w3.heap.size) (by omega) hrow3.lt
    go_wp2
    go_ret2
    exact ⟨_, _, _, rfl, (sortK_length bs).trans HN.out, hown3, hfin⟩
end

theorem two_cells {wr W : World} {gb T : Nat} {t u : Int} (hz : Below wr.heap.size wr W) (hg : wr.heap[gb]? = some (.cells #[.int .i64 t, .int .i64 u] T (0, 0))) :
    W.cell? ⟨gb, 0, none⟩ = some (.int .i64 t) ∧ W.cell? ⟨gb, 1, none⟩ = some (.int .i64 u) :=
  ⟨cell_of ((hz.block gb (heap_lt hg)).trans hg) 0, cell_of ((hz.block gb (heap_lt hg)).trans hg) 1⟩

theorem row_keep {w w' : World} {base e size n : Nat} {v : Value} {xs : List Value} (h : w.ownsRow base e size v n xs) (hb : Below w.heap.size w w') : w'.ownsRow base e size v n xs :=
  h.kept (row := none) ⟨hb.os, hb.tape, hb.output, hb.size, fun i hi _ => hb.block i hi⟩ (by by_cases h : v.ownBlock = none <;> simp [h])

theorem row_mono {w : World} {base base' T s n : Nat} {v : Value} {xs : List Value} (h : w.ownsRow base T s v n xs) (hb : base' ≤ base) : w.ownsRow base' T s v n xs := by
  obtain ⟨hl, h⟩ := h
  refine ⟨hl, ?_⟩
  rcases h with h | ⟨g, cap, cur, h1, h2, h3⟩
  · exact .inl h
  · exact .inr ⟨g, cap, cur, h1, by omega, h3⟩

theorem seg_take {w : World} {lo hi : Nat} {A : Option Addr} {bs : List (Int × Int)} (h : Seg w lo hi A (flat bs)) (j : Nat) : Seg w lo hi A (flat (bs.take j)) := by
  rcases h with h | ⟨b, off, e, h1, h2, hc⟩
  · have := flat_nil h; subst this; simp [flat]; exact .inl rfl
  · subst e
    have := Seg.cut (.inr ⟨b, off, rfl, h1, h2, hc⟩) 0 j
    simpa using this

theorem seg_drew2 {w : World} {lo hi : Nat} {A : Option Addr} {xs : List Int} (h : Seg w lo hi A xs) : Seg w.drew.drew lo hi A xs := h.keep (fun _ _ _ => rfl)

theorem seg_drop0 {w : World} {lo hi g : Nat} {bs : List (Int × Int)} (h : Seg w lo hi (some ⟨g, 0, none⟩) (flat bs)) (j : Nat) : Seg w lo hi (some ⟨g, j * 2, none⟩) (flat (bs.drop j)) := by
  have := h.cut j bs.length
  rw [List.take_length] at this
  simpa using this

section
variable (A : Option Addr) (n c : Nat) (bs : List (Int × Int)) (lo hi : Nat) (w : World) (hn : bs.length = n) (hlen : n ≤ 1048576)
    (hs : Seg w lo hi A (flat bs)) (hB : hi ≤ w.heap.size) (q : Bool) (hq : goodK bs = q)
include hn hlen hs hB hq

set_option maxRecDepth 100000 in
set_option maxHeartbeats 4000000 in
theorem spec_TallestFirst :
    Calls Try.prog 43 #[.slice A n c] w (RetKL q (listK q (sortK bs)) w) := by
  obtain ⟨i0, hi0, hz0, hz1, hz2⟩ := info_parts book_info
  have HN := Lib.hid hn
  have HQ := Lib.hid hq
  cases q
  · clear hn hq
    go_enter Try.func43, Try.ntmps43
    go_wp2_with fail
    refine (shGood_any _ _ _ bs lo hi _ HN.out hlen hs hB _ HQ.out).mono ?_
    rintro e w1 ⟨rfl, hb1⟩
    go_wp2
    go_ret2
    exact ⟨_, _, _, rfl, rfl, Own.nil_, hb1⟩
  · have hn12 := (goodK_at hq).2.1
    rw [hn] at hn12
    clear hn hq
    go_enter Try.func43, Try.ntmps43
    go_wp2_with fail
    refine (shGood_any _ _ _ bs lo hi _ HN.out hlen hs hB _ HQ.out).mono ?_
    rintro e w1 ⟨rfl, hb1⟩
    have hs1 := hs.below hb1 hB
    have hB1 := Nat.le_trans hB hb1.size
    go_wp2
    go_loopw [4, 6, 7, 8, 14] (fun v _ _ _ i wr => ∃ k : Nat, k ≤ n ∧ i = .int .i64 (k : Int) ∧ Below w1.heap.size w1 wr ∧ wr.ownsRow w1.heap.size 51 2 v k (vals (sortK (bs.take k))) ∧ (k = 0 → v = .slice none 0 0)) (fun _ _ _ _ i _ => n - (intOf i).toNat)
    case atStart => exact ⟨0, Nat.zero_le _, rfl, Below.refl _ _, World.ownsRow_nil _ _ _ _, fun _ => rfl⟩
    case round =>
      obtain ⟨k, hk, rfl, hb, hown, hnil⟩ := hrel
      by_cases hlt : k < n
      · obtain ⟨bq, oq, t, u, rfl, _, hbq, hx, hc0, hc1⟩ := (hs1.below hb hB1).book (k := k) (by rw [HN.out]; exact hlt)
        have hnext := sortK_next hx
        have hol : (sortK (bs.take k)).length = k := by rw [sortK_length, List.length_take, HN.out]; omega
        obtain ⟨out, hout⟩ : ∃ out, sortK (bs.take k) = out := ⟨_, rfl⟩
        rw [hout] at hnext hown hol
        have HNX := Lib.hid hnext
        have HOL := Lib.hid hol
        have hba := hb.alloc hb.size (.cells #[.int .i64 t, .int .i64 u] 51)
        have HGB := Lib.hid (new_at wr (.cells #[.int .i64 t, .int .i64 u] 51) rfl)
        obtain ⟨gb, hgb⟩ : ∃ gb, gb = wr.heap.size := ⟨_, rfl⟩
        have HGBE := Lib.hid hgb
        have HOA := Lib.hid (hown.alloc (.cells #[.int .i64 t, .int .i64 u] 51))
        rcases Nat.eq_zero_or_pos k with hk0 | hkp
        · obtain rfl := hnil hk0
          subst hk0
          have hc00 : wr.cell? ⟨bq, oq, none⟩ = some (.int .i64 t) := by simpa using hc0
          have hc01 : wr.cell? ⟨bq, oq + 1, none⟩ = some (.int .i64 u) := by simpa using hc1
          have hlt0 : (0 : Int) < (n : Int) := by omega
          clear hnext hol hown hx hout hgb hnil hc0 hc1
          go_wp2
          go_loopw [7] (fun i wx => i = .int .i64 0 ∧ Below w1.heap.size w1 wx ∧ wx.heap[gb]? = some (.cells #[.int .i64 t, .int .i64 u] 51 (0, 0))) (fun i _ => (intOf i).toNat)
          case atStart => exact ⟨rfl, hba, by rw [HGBE.out]; exact HGB.out⟩
          case round =>
            obtain ⟨rfl, hbx, hgx⟩ := hrel
            rw [← HGBE.out]
            have HGX := Lib.hid hgx
            have hout0 : out = [] := List.eq_nil_of_length_eq_zero HOL.out
            have hz : insK out (t, u) = atK out (t, u) 0 := by rw [insK, HOL.out]; rfl
            have HZ := Lib.hid hz
            have HO0 := Lib.hid hout0
            clear hz hgx hout0
            go_wp2_with fail
            refine wp_region_held_drew (S := (fun wq => Below w1.heap.size w1 wq)) (by kernel_rfl) hbx.drew (fun hH0 => ?_)
            refine wpAnyH_take (i := 0) (v := ?_) (ops_at rfl) (by kernel_rfl) (by kernel_rfl) (by kernel_rfl) (fun _ _ _ h => h) (Or.inl ⟨by rfl, ?ye0⟩) (by assumption) ?ne0
            case ye0 => (intro wS hSw; (try dsimp only at hSw); go_simp; try rfl)
            try simp only [Act.put, List.setIfInBounds_toArray, List.set_cons_zero, List.set_cons_succ]
            refine wpAnyH_take (i := 1) (v := ?_) (ops_at rfl) (by kernel_rfl) (by kernel_rfl) (by kernel_rfl) (fun _ _ _ h => h) (Or.inl ⟨by rfl, ?ye1⟩) (by assumption) ?ne1
            case ye1 => (intro wS hSw; (try dsimp only at hSw); go_simp; try rfl)
            try simp only [Act.put, List.setIfInBounds_toArray, List.set_cons_zero, List.set_cons_succ]
            refine wpAnyH_take (i := 2) (v := ?_) (ops_at rfl) (by kernel_rfl) (by kernel_rfl) (by kernel_rfl) (fun _ _ _ h => h) (Or.inl ⟨by rfl, ?ye2⟩) (by assumption) ?ne2
            case ye2 => (intro wS hSw; (try dsimp only at hSw); go_simp; try rfl)
            try simp only [Act.put, List.setIfInBounds_toArray, List.set_cons_zero, List.set_cons_succ]
            refine wpAnyH_take (i := 3) (v := undef) (ops_at rfl) (by kernel_rfl) (by kernel_rfl) (by kernel_rfl) (fun _ _ _ h => h) (Or.inr ⟨by rfl, rfl⟩) (by assumption) ?_
            try simp only [Act.put, List.setIfInBounds_toArray, List.set_cons_zero, List.set_cons_succ]
            refine wpAnyH_take (i := 4) (v := undef) (ops_at rfl) (by kernel_rfl) (by kernel_rfl) (by kernel_rfl) (fun _ _ _ h => h) (Or.inr ⟨by rfl, rfl⟩) (by assumption) ?_
            try simp only [Act.put, List.setIfInBounds_toArray, List.set_cons_zero, List.set_cons_succ]
            refine wpAnyH_take (i := 5) (v := undef) (ops_at rfl) (by kernel_rfl) (by kernel_rfl) (by kernel_rfl) (fun _ _ _ h => h) (Or.inr ⟨by rfl, rfl⟩) (by assumption) ?_
            try simp only [Act.put, List.setIfInBounds_toArray, List.set_cons_zero, List.set_cons_succ]
            refine wpAnyH_take (i := 6) (v := undef) (ops_at rfl) (by kernel_rfl) (by kernel_rfl) (by kernel_rfl) (fun _ _ _ h => h) (Or.inr ⟨by rfl, rfl⟩) (by assumption) ?_
            try simp only [Act.put, List.setIfInBounds_toArray, List.set_cons_zero, List.set_cons_succ]
            refine wpAnyH_take (i := 7) (v := undef) (ops_at rfl) (by kernel_rfl) (by kernel_rfl) (by kernel_rfl) (fun _ _ _ h => h) (Or.inr ⟨by rfl, rfl⟩) (by assumption) ?_
            try simp only [Act.put, List.setIfInBounds_toArray, List.set_cons_zero, List.set_cons_succ]
            refine wpAnyH_take (i := 8) (v := undef) (ops_at rfl) (by kernel_rfl) (by kernel_rfl) (by kernel_rfl) (fun _ _ _ h => h) (Or.inr ⟨by rfl, rfl⟩) (by assumption) ?_
            try simp only [Act.put, List.setIfInBounds_toArray, List.set_cons_zero, List.set_cons_succ]
            refine wpAnyH_take (i := 9) (v := undef) (ops_at rfl) (by kernel_rfl) (by kernel_rfl) (by kernel_rfl) (fun _ _ _ h => h) (Or.inr ⟨by rfl, rfl⟩) (by assumption) ?_
            try simp only [Act.put, List.setIfInBounds_toArray, List.set_cons_zero, List.set_cons_succ]
            refine wpAnyH_take (i := 10) (v := undef) (ops_at rfl) (by kernel_rfl) (by kernel_rfl) (by kernel_rfl) (fun _ _ _ h => h) (Or.inr ⟨by rfl, rfl⟩) (by assumption) ?_
            try simp only [Act.put, List.setIfInBounds_toArray, List.set_cons_zero, List.set_cons_succ]
            refine wpAnyH_take (i := 11) (v := undef) (ops_at rfl) (by kernel_rfl) (by kernel_rfl) (by kernel_rfl) (fun _ _ _ h => h) (Or.inr ⟨by rfl, rfl⟩) (by assumption) ?_
            try simp only [Act.put, List.setIfInBounds_toArray, List.set_cons_zero, List.set_cons_succ]
            refine wpAnyH_take (i := 12) (v := ?_) (ops_at rfl) (by kernel_rfl) (by kernel_rfl) (by kernel_rfl) (fun _ _ _ h => h) (Or.inl ⟨by rfl, ?ye12⟩) (by assumption) ?ne12
            case ye12 => (intro wS hSw; (try dsimp only at hSw); go_simp; try rfl)
            try simp only [Act.put, List.setIfInBounds_toArray, List.set_cons_zero, List.set_cons_succ]
            refine wpAnyH_done (by kernel_rfl) ?_ _
            go_wp2
            have HOXX : Hid (Own wr 0 0 none (flat out)) := by show Own _ _ _ _ _; rw [HO0.out]; exact .inl rfl
            refine wp_region_held_drew (S := (fun wq => wq.cell? ⟨gb, 0, none⟩ = some (.int .i64 t) ∧ wq.cell? ⟨gb, 1, none⟩ = some (.int .i64 u))) (by kernel_rfl) (two_cells ((Below.refl wr.heap.size wr).drew.drew) HGX.out) (fun hH0 => ?_)
            refine wpAnyH_take (i := 1) (v := ?_) (ops_at rfl) (by kernel_rfl) (by kernel_rfl) (by kernel_rfl) (fun _ _ _ h => h) (Or.inl ⟨by rfl, ?yz1⟩) (by assumption) ?nz1
            case yz1 => (intro wS hSw; (try dsimp only at hSw); go_simp; try rfl)
            try simp only [Act.put, List.setIfInBounds_toArray, List.set_cons_zero, List.set_cons_succ]
            refine wpAnyH_take (i := 2) (v := ?_) (ops_at rfl) (by kernel_rfl) (by kernel_rfl) (by kernel_rfl) (fun _ _ _ h => h) (Or.inl ⟨by rfl, ?yz2⟩) (by assumption) ?nz2
            case yz2 => (intro wS hSw; (try dsimp only at hSw); go_simp; try rfl)
            try simp only [Act.put, List.setIfInBounds_toArray, List.set_cons_zero, List.set_cons_succ]
            refine wpAnyH_take (i := 3) (v := ?_) (ops_at rfl) (by kernel_rfl) (by kernel_rfl) (by kernel_rfl) (fun _ _ _ h => h) (Or.inl ⟨by rfl, ?yz3⟩) (by assumption) ?nz3
            case yz3 => (intro wS hSw; (try dsimp only at hSw); go_simp; try rfl)
            try simp only [Act.put, List.setIfInBounds_toArray, List.set_cons_zero, List.set_cons_succ]
            refine wpAnyH_take (i := 5) (v := ?_) (ops_at rfl) (by kernel_rfl) (by kernel_rfl) (by kernel_rfl) (fun _ _ _ h => h) (Or.inl ⟨by rfl, ?yz5⟩) (by assumption) ?nz5
            case yz5 => (intro wS hSw; (try dsimp only at hSw); go_simp; try rfl)
            try simp only [Act.put, List.setIfInBounds_toArray, List.set_cons_zero, List.set_cons_succ]
            refine wpAnyH_ready (rs := [0, 6]) (by kernel_rfl) (by simp) ?_
            refine AllReadyH.cons (ops_at rfl) (fun K hK => ?_) (AllReadyH.cons (ops_at rfl) (fun K hK => ?_) AllReadyH.nil)
            · go_simp
              have z0 := (((Below.refl wr.heap.size wr).alloc (Nat.le_refl _) (.cells #[] 51)).drew).drew
              have R0 := World.ownsRow_lit (base := wr.heap.size) (e := 51) (size := 2) wr #[] 0 (Nat.le_refl _) (Nat.zero_le _) rfl
              refine hK.out _ _ (two_cells z0 HGX.out) (fun hHz0 => ?_)
              clear hK K
              refine wpAnyH_ready (rs := [4, 6]) (by kernel_rfl) (by simp) ?_
              refine AllReadyH.cons (ops_at rfl) (fun K hK => ?_) (AllReadyH.cons (ops_at rfl) (fun K hK => ?_) AllReadyH.nil)
              · have sgxa := (seg_take HOXX.out.seg 0).below z0 (by first | exact Nat.le_refl _ | exact Nat.zero_le _)
                refine step_append_flat _ rfl (.tmp 35) (.tmp 38) 25 rfl wr.heap.size 51 i0 Try.underlying25 hi0 hz0 hz1 hz2 _ 0 _ rfl R0 _ 0 _ (out.take 0) _ _ rfl (by rw [List.length_take, HOL.out]; omega) sgxa (by omega) z0.size ?_
                intro vxa xa hoxa hgxa
                have zxa := z0.trans (below_of_grown hgxa (fun g hg => (R0.lt g hg).1) z0.size)
                refine hK.out _ _ (two_cells zxa HGX.out) (fun hHzxa => ?_)
                clear hK K
                refine wpAnyH_ready (rs := [6]) (by kernel_rfl) (by simp) ?_
                refine AllReadyH.cons (ops_at rfl) (fun K hK => ?_) AllReadyH.nil
                go_simp
                have z6 := zxa.alloc zxa.size (.cells #[.int .i64 t, .int .i64 u] 51)
                have R6 := hoxa.alloc (.cells #[.int .i64 t, .int .i64 u] 51)
                have L6 := seg_book xa t u 51
                refine hK.out _ _ (two_cells z6 HGX.out) (fun hHz6 => ?_)
                clear hK K
                refine wpAnyH_ready (rs := [7]) (by kernel_rfl) (by simp) ?_
                refine AllReadyH.cons (ops_at rfl) (fun K hK => ?_) AllReadyH.nil
                refine step_append_flat _ rfl (.tmp 39) (.tmp 41) 25 rfl wr.heap.size 51 i0 Try.underlying25 hi0 hz0 hz1 hz2 _ (0 + 0) _ rfl R6 _ 1 1 [(t, u)] _ _ rfl rfl L6 (by omega) z6.size ?_
                intro vxb xb hoxb hgxb
                have zxb := z6.trans (below_of_grown hgxb (fun g hg => (R6.lt g hg).1) z6.size)
                refine hK.out _ _ (two_cells zxb HGX.out) (fun hHzxb => ?_)
                clear hK K
                have hF : xb.ownsRow wr.heap.size 51 2 vxb (0 + 1) (vals (out.take 0 ++ [(t, u)])) := by rw [vals_append]; simpa using hoxb
                have HF := Lib.hid hF
                clear hF hoxb
                refine wpAnyH_take (i := 8) (v := ?_) (ops_at rfl) (by kernel_rfl) (by kernel_rfl) (by kernel_rfl) (fun _ _ _ h => h) (Or.inl ⟨by rfl, ?yzp8⟩) (by assumption) ?nzp8
                case yzp8 => (intro wS hSw; (try dsimp only at hSw); go_simp; try rfl)
                try simp only [Act.put, List.setIfInBounds_toArray, List.set_cons_zero, List.set_cons_succ]
                refine wpAnyH_done (by kernel_rfl) ?_ _
                go_wp2_with (at_builtin; refine wpList_append_flat _ rfl _ _ 25 rfl wr.heap.size 51 i0 Try.underlying25 hi0 hz0 hz1 hz2 _ (0 + 1) _ rfl HF.out _ 0 _ (out.drop 0) _ _ rfl (by rw [HO0.out]; rfl) (show Seg xb 0 0 none (flat (out.drop 0)) by rw [HO0.out]; exact .inl rfl) (by omega) zxb.size ?_; intro vc xc hoc hgc; have zc : Below wr.heap.size wr xc := zxb.trans (below_of_grown hgc (fun g hg => (HF.out.lt g hg).1) zxb.size))
                go_roundw
                case rel => exact ⟨0 + 1, by omega, by go_num, hbx.trans (zc.mono hbx.size), row_mono (by rw [HNX.out, HZ.out]; have e : vals (atK out (t, u) 0) = vals (out.take 0 ++ [(t, u)]) ++ vals (out.drop 0) := (by rw [← vals_append]; unfold atK; simp); rw [e]; have e2 : 0 + 1 = 0 + 1 + 0 := (by omega); rw [e2]; exact hoc) hbx.size, fun h => by omega⟩
                case measure => simp [intOf]; omega
              · go_simp
                have z6 := ((((Below.refl wr.heap.size wr).alloc (Nat.le_refl _) (.cells #[] 51)).alloc (by simp) (.cells #[.int .i64 t, .int .i64 u] 51)).drew).drew
                have R6 := R0.alloc (.cells #[.int .i64 t, .int .i64 u] 51)
                have L6 : Seg ((wr.alloc (.cells #[] 51)).alloc (.cells #[.int .i64 t, .int .i64 u] 51)) (wr.heap.size + 1) (wr.heap.size + 1 + 1) (some ⟨wr.heap.size + 1, 0, none⟩) (flat [(t, u)]) := by simpa using seg_book (wr.alloc (.cells #[] 51)) t u 51
                refine hK.out _ _ (two_cells z6 HGX.out) (fun hHz6 => ?_)
                clear hK K
                refine wpAnyH_ready (rs := [4]) (by kernel_rfl) (by simp) ?_
                refine AllReadyH.cons (ops_at rfl) (fun K hK => ?_) AllReadyH.nil
                have sgxa := (seg_take HOXX.out.seg 0).below z6 (by first | exact Nat.le_refl _ | exact Nat.zero_le _)
                refine step_append_flat _ rfl (.tmp 35) (.tmp 38) 25 rfl wr.heap.size 51 i0 Try.underlying25 hi0 hz0 hz1 hz2 _ 0 _ rfl R6 _ 0 _ (out.take 0) _ _ rfl (by rw [List.length_take, HOL.out]; omega) sgxa (by omega) z6.size ?_
                intro vxa xa hoxa hgxa
                have zxa := z6.trans (below_of_grown hgxa (fun g hg => (R6.lt g hg).1) z6.size)
                have L7 := (seg_drew2 L6).grown hgxa (by show _ ≤ ((wr.alloc _).alloc _).heap.size; simp) (fun g hg => Or.inl (by have := (R0.lt g hg).2; simp at this; omega))
                refine hK.out _ _ (two_cells zxa HGX.out) (fun hHzxa => ?_)
                clear hK K
                refine wpAnyH_ready (rs := [7]) (by kernel_rfl) (by simp) ?_
                refine AllReadyH.cons (ops_at rfl) (fun K hK => ?_) AllReadyH.nil
                refine step_append_flat _ rfl (.tmp 39) (.tmp 41) 25 rfl wr.heap.size 51 i0 Try.underlying25 hi0 hz0 hz1 hz2 _ (0 + 0) _ rfl hoxa _ 1 1 [(t, u)] _ _ rfl rfl L7 (by omega) zxa.size ?_
                intro vxb xb hoxb hgxb
                have zxb := zxa.trans (below_of_grown hgxb (fun g hg => (hoxa.lt g hg).1) zxa.size)
                refine hK.out _ _ (two_cells zxb HGX.out) (fun hHzxb => ?_)
                clear hK K
                have hF : xb.ownsRow wr.heap.size 51 2 vxb (0 + 1) (vals (out.take 0 ++ [(t, u)])) := by rw [vals_append]; simpa using hoxb
                have HF := Lib.hid hF
                clear hF hoxb
                refine wpAnyH_take (i := 8) (v := ?_) (ops_at rfl) (by kernel_rfl) (by kernel_rfl) (by kernel_rfl) (fun _ _ _ h => h) (Or.inl ⟨by rfl, ?yzq8⟩) (by assumption) ?nzq8
                case yzq8 => (intro wS hSw; (try dsimp only at hSw); go_simp; try rfl)
                try simp only [Act.put, List.setIfInBounds_toArray, List.set_cons_zero, List.set_cons_succ]
                refine wpAnyH_done (by kernel_rfl) ?_ _
                go_wp2_with (at_builtin; refine wpList_append_flat _ rfl _ _ 25 rfl wr.heap.size 51 i0 Try.underlying25 hi0 hz0 hz1 hz2 _ (0 + 1) _ rfl HF.out _ 0 _ (out.drop 0) _ _ rfl (by rw [HO0.out]; rfl) (show Seg xb 0 0 none (flat (out.drop 0)) by rw [HO0.out]; exact .inl rfl) (by omega) zxb.size ?_; intro vc xc hoc hgc; have zc : Below wr.heap.size wr xc := zxb.trans (below_of_grown hgc (fun g hg => (HF.out.lt g hg).1) zxb.size))
                go_roundw
                case rel => exact ⟨0 + 1, by omega, by go_num, hbx.trans (zc.mono hbx.size), row_mono (by rw [HNX.out, HZ.out]; have e : vals (atK out (t, u) 0) = vals (out.take 0 ++ [(t, u)]) ++ vals (out.drop 0) := (by rw [← vals_append]; unfold atK; simp); rw [e]; have e2 : 0 + 1 = 0 + 1 + 0 := (by omega); rw [e2]; exact hoc) hbx.size, fun h => by omega⟩
                case measure => simp [intOf]; omega
            · go_simp
              have z6 := (((Below.refl wr.heap.size wr).alloc (Nat.le_refl _) (.cells #[.int .i64 t, .int .i64 u] 51)).drew).drew
              have L6 := seg_book wr t u 51
              refine hK.out _ _ (two_cells z6 HGX.out) (fun hHz6 => ?_)
              clear hK K
              refine wpAnyH_ready (rs := [0]) (by kernel_rfl) (by simp) ?_
              refine AllReadyH.cons (ops_at rfl) (fun K hK => ?_) AllReadyH.nil
              go_simp
              have z0 := ((((Below.refl wr.heap.size wr).alloc (Nat.le_refl _) (.cells #[.int .i64 t, .int .i64 u] 51)).alloc (by simp) (.cells #[] 51)).drew).drew
              have R0 : ((wr.alloc (.cells #[.int .i64 t, .int .i64 u] 51)).alloc (.cells #[] 51)).ownsRow wr.heap.size 51 2 (.slice (some ⟨wr.heap.size + 1, 0, none⟩) 0 0) 0 [] := by simpa using World.ownsRow_lit (base := wr.heap.size) (e := 51) (size := 2) (wr.alloc (.cells #[.int .i64 t, .int .i64 u] 51)) #[] 0 (by simp) (Nat.zero_le _) rfl
              have L0 := L6.below ((Below.refl _ _).alloc (Nat.le_refl _) (.cells #[] 51)) (by simp)
              refine hK.out _ _ (two_cells z0 HGX.out) (fun hHz0 => ?_)
              clear hK K
              refine wpAnyH_ready (rs := [4]) (by kernel_rfl) (by simp) ?_
              refine AllReadyH.cons (ops_at rfl) (fun K hK => ?_) AllReadyH.nil
              have sgxa := (seg_take HOXX.out.seg 0).below z0 (by first | exact Nat.le_refl _ | exact Nat.zero_le _)
              refine step_append_flat _ rfl (.tmp 35) (.tmp 38) 25 rfl wr.heap.size 51 i0 Try.underlying25 hi0 hz0 hz1 hz2 _ 0 _ rfl R0 _ 0 _ (out.take 0) _ _ rfl (by rw [List.length_take, HOL.out]; omega) sgxa (by omega) z0.size ?_
              intro vxa xa hoxa hgxa
              have zxa := z0.trans (below_of_grown hgxa (fun g hg => (R0.lt g hg).1) z0.size)
              have L7 := (seg_drew2 L0).grown hgxa (by show _ ≤ ((wr.alloc _).alloc _).heap.size; simp) (fun g hg => Or.inr (by have hg2 : some (wr.heap.size + 1) = some g := hg; injection hg2 with hg2; omega))
              refine hK.out _ _ (two_cells zxa HGX.out) (fun hHzxa => ?_)
              clear hK K
              refine wpAnyH_ready (rs := [7]) (by kernel_rfl) (by simp) ?_
              refine AllReadyH.cons (ops_at rfl) (fun K hK => ?_) AllReadyH.nil
              refine step_append_flat _ rfl (.tmp 39) (.tmp 41) 25 rfl wr.heap.size 51 i0 Try.underlying25 hi0 hz0 hz1 hz2 _ (0 + 0) _ rfl hoxa _ 1 1 [(t, u)] _ _ rfl rfl L7 (by omega) zxa.size ?_
              intro vxb xb hoxb hgxb
              have zxb := zxa.trans (below_of_grown hgxb (fun g hg => (hoxa.lt g hg).1) zxa.size)
              refine hK.out _ _ (two_cells zxb HGX.out) (fun hHzxb => ?_)
              clear hK K
              have hF : xb.ownsRow wr.heap.size 51 2 vxb (0 + 1) (vals (out.take 0 ++ [(t, u)])) := by rw [vals_append]; simpa using hoxb
              have HF := Lib.hid hF
              clear hF hoxb
              refine wpAnyH_take (i := 8) (v := ?_) (ops_at rfl) (by kernel_rfl) (by kernel_rfl) (by kernel_rfl) (fun _ _ _ h => h) (Or.inl ⟨by rfl, ?yzr8⟩) (by assumption) ?nzr8
              case yzr8 => (intro wS hSw; (try dsimp only at hSw); go_simp; try rfl)
              try simp only [Act.put, List.setIfInBounds_toArray, List.set_cons_zero, List.set_cons_succ]
              refine wpAnyH_done (by kernel_rfl) ?_ _
              go_wp2_with (at_builtin; refine wpList_append_flat _ rfl _ _ 25 rfl wr.heap.size 51 i0 Try.underlying25 hi0 hz0 hz1 hz2 _ (0 + 1) _ rfl HF.out _ 0 _ (out.drop 0) _ _ rfl (by rw [HO0.out]; rfl) (show Seg xb 0 0 none (flat (out.drop 0)) by rw [HO0.out]; exact .inl rfl) (by omega) zxb.size ?_; intro vc xc hoc hgc; have zc : Below wr.heap.size wr xc := zxb.trans (below_of_grown hgc (fun g hg => (HF.out.lt g hg).1) zxb.size))
              go_roundw
              case rel => exact ⟨0 + 1, by omega, by go_num, hbx.trans (zc.mono hbx.size), row_mono (by rw [HNX.out, HZ.out]; have e : vals (atK out (t, u) 0) = vals (out.take 0 ++ [(t, u)]) ++ vals (out.drop 0) := (by rw [← vals_append]; unfold atK; simp); rw [e]; have e2 : 0 + 1 = 0 + 1 + 0 := (by omega); rw [e2]; exact hoc) hbx.size, fun h => by omega⟩
              case measure => simp [intOf]; omega
        · obtain ⟨gx, co, Nx, rfl, hgx1, hoc, hrow0⟩ := row_of_owns (ys := flat out) hown hkp
          clear hnext hol hx hout hgb hnil hrow0
          go_wp2
          go_loopw [7] (fun i wx => ∃ j : Nat, j ≤ k ∧ i = .int .i64 (j : Int) ∧ Below w1.heap.size w1 wx ∧ wx.heap[gb]? = some (.cells #[.int .i64 t, .int .i64 u] 51 (0, 0)) ∧ wx.ownsRow w1.heap.size 51 2 (.slice (some ⟨gx, 0, none⟩) k co) k (vals out) ∧ Hid (posK out (t, u) j = posK out (t, u) k)) (fun i _ => (intOf i).toNat)
          case atStart => exact ⟨k, Nat.le_refl _, rfl, hba, by rw [HGBE.out]; exact HGB.out, HOA.out, rfl⟩
          case round =>
            obtain ⟨j, hj, rfl, hbx, hgx, hownx, hpos⟩ := hrel
            rw [← HGBE.out]
            have HGX := Lib.hid hgx
            have HOWNX := Lib.hid hownx
            rcases Nat.eq_zero_or_pos j with hj0 | hjp
            · have hz : insK out (t, u) = atK out (t, u) j := by rw [insK, HOL.out, ← hpos.out, hj0]; rfl
              have HZ := Lib.hid hz
              subst hj0
              clear hz hgx hownx
              go_wp2_with fail
              refine wp_region_held_drew (S := (fun wq => Below w1.heap.size w1 wq)) (by kernel_rfl) hbx.drew (fun hH0 => ?_)
              refine wpAnyH_take (i := 0) (v := ?_) (ops_at rfl) (by kernel_rfl) (by kernel_rfl) (by kernel_rfl) (fun _ _ _ h => h) (Or.inl ⟨by rfl, ?ya0⟩) (by assumption) ?na0
              case ya0 => (intro wS hSw; (try dsimp only at hSw); go_simp; try rfl)
              try simp only [Act.put, List.setIfInBounds_toArray, List.set_cons_zero, List.set_cons_succ]
              refine wpAnyH_take (i := 1) (v := ?_) (ops_at rfl) (by kernel_rfl) (by kernel_rfl) (by kernel_rfl) (fun _ _ _ h => h) (Or.inl ⟨by rfl, ?ya1⟩) (by assumption) ?na1
              case ya1 => (intro wS hSw; (try dsimp only at hSw); go_simp; try rfl)
              try simp only [Act.put, List.setIfInBounds_toArray, List.set_cons_zero, List.set_cons_succ]
              refine wpAnyH_take (i := 2) (v := ?_) (ops_at rfl) (by kernel_rfl) (by kernel_rfl) (by kernel_rfl) (fun _ _ _ h => h) (Or.inl ⟨by rfl, ?ya2⟩) (by assumption) ?na2
              case ya2 => (intro wS hSw; (try dsimp only at hSw); go_simp; try rfl)
              try simp only [Act.put, List.setIfInBounds_toArray, List.set_cons_zero, List.set_cons_succ]
              refine wpAnyH_take (i := 3) (v := undef) (ops_at rfl) (by kernel_rfl) (by kernel_rfl) (by kernel_rfl) (fun _ _ _ h => h) (Or.inr ⟨by rfl, rfl⟩) (by assumption) ?_
              try simp only [Act.put, List.setIfInBounds_toArray, List.set_cons_zero, List.set_cons_succ]
              refine wpAnyH_take (i := 4) (v := undef) (ops_at rfl) (by kernel_rfl) (by kernel_rfl) (by kernel_rfl) (fun _ _ _ h => h) (Or.inr ⟨by rfl, rfl⟩) (by assumption) ?_
              try simp only [Act.put, List.setIfInBounds_toArray, List.set_cons_zero, List.set_cons_succ]
              refine wpAnyH_take (i := 5) (v := undef) (ops_at rfl) (by kernel_rfl) (by kernel_rfl) (by kernel_rfl) (fun _ _ _ h => h) (Or.inr ⟨by rfl, rfl⟩) (by assumption) ?_
              try simp only [Act.put, List.setIfInBounds_toArray, List.set_cons_zero, List.set_cons_succ]
              refine wpAnyH_take (i := 6) (v := undef) (ops_at rfl) (by kernel_rfl) (by kernel_rfl) (by kernel_rfl) (fun _ _ _ h => h) (Or.inr ⟨by rfl, rfl⟩) (by assumption) ?_
              try simp only [Act.put, List.setIfInBounds_toArray, List.set_cons_zero, List.set_cons_succ]
              refine wpAnyH_take (i := 7) (v := undef) (ops_at rfl) (by kernel_rfl) (by kernel_rfl) (by kernel_rfl) (fun _ _ _ h => h) (Or.inr ⟨by rfl, rfl⟩) (by assumption) ?_
              try simp only [Act.put, List.setIfInBounds_toArray, List.set_cons_zero, List.set_cons_succ]
              refine wpAnyH_take (i := 8) (v := undef) (ops_at rfl) (by kernel_rfl) (by kernel_rfl) (by kernel_rfl) (fun _ _ _ h => h) (Or.inr ⟨by rfl, rfl⟩) (by assumption) ?_
              try simp only [Act.put, List.setIfInBounds_toArray, List.set_cons_zero, List.set_cons_succ]
              refine wpAnyH_take (i := 9) (v := undef) (ops_at rfl) (by kernel_rfl) (by kernel_rfl) (by kernel_rfl) (fun _ _ _ h => h) (Or.inr ⟨by rfl, rfl⟩) (by assumption) ?_
              try simp only [Act.put, List.setIfInBounds_toArray, List.set_cons_zero, List.set_cons_succ]
              refine wpAnyH_take (i := 10) (v := undef) (ops_at rfl) (by kernel_rfl) (by kernel_rfl) (by kernel_rfl) (fun _ _ _ h => h) (Or.inr ⟨by rfl, rfl⟩) (by assumption) ?_
              try simp only [Act.put, List.setIfInBounds_toArray, List.set_cons_zero, List.set_cons_succ]
              refine wpAnyH_take (i := 11) (v := undef) (ops_at rfl) (by kernel_rfl) (by kernel_rfl) (by kernel_rfl) (fun _ _ _ h => h) (Or.inr ⟨by rfl, rfl⟩) (by assumption) ?_
              try simp only [Act.put, List.setIfInBounds_toArray, List.set_cons_zero, List.set_cons_succ]
              refine wpAnyH_take (i := 12) (v := ?_) (ops_at rfl) (by kernel_rfl) (by kernel_rfl) (by kernel_rfl) (fun _ _ _ h => h) (Or.inl ⟨by rfl, ?ya12⟩) (by assumption) ?na12
              case ya12 => (intro wS hSw; (try dsimp only at hSw); go_simp; try rfl)
              try simp only [Act.put, List.setIfInBounds_toArray, List.set_cons_zero, List.set_cons_succ]
              refine wpAnyH_done (by kernel_rfl) ?_ _
              go_wp2
              obtain ⟨Aq, cq, hvq, _, _, hoq⟩ := seg_of_row HOWNX.out
              obtain ⟨rfl, rfl⟩ : Aq = some ⟨gx, 0, none⟩ ∧ co = cq := by injection hvq with h1 h2 h3; exact ⟨h1.symm, h3⟩
              have HOXX := Lib.hid hoq
              clear hoq hvq
              refine wp_region_held_drew (S := (fun wq => wq.cell? ⟨gb, 0, none⟩ = some (.int .i64 t) ∧ wq.cell? ⟨gb, 1, none⟩ = some (.int .i64 u))) (by kernel_rfl) (two_cells ((Below.refl wr.heap.size wr).drew.drew) HGX.out) (fun hH0 => ?_)
              refine wpAnyH_take (i := 1) (v := ?_) (ops_at rfl) (by kernel_rfl) (by kernel_rfl) (by kernel_rfl) (fun _ _ _ h => h) (Or.inl ⟨by rfl, ?yc1⟩) (by assumption) ?nc1
              case yc1 => (intro wS hSw; (try dsimp only at hSw); go_simp; try rfl)
              try simp only [Act.put, List.setIfInBounds_toArray, List.set_cons_zero, List.set_cons_succ]
              refine wpAnyH_take (i := 2) (v := ?_) (ops_at rfl) (by kernel_rfl) (by kernel_rfl) (by kernel_rfl) (fun _ _ _ h => h) (Or.inl ⟨by rfl, ?yc2⟩) (by assumption) ?nc2
              case yc2 => (intro wS hSw; (try dsimp only at hSw); go_simp; try rfl)
              try simp only [Act.put, List.setIfInBounds_toArray, List.set_cons_zero, List.set_cons_succ]
              refine wpAnyH_take (i := 3) (v := ?_) (ops_at rfl) (by kernel_rfl) (by kernel_rfl) (by kernel_rfl) (fun _ _ _ h => h) (Or.inl ⟨by rfl, ?yc3⟩) (by assumption) ?nc3
              case yc3 => (intro wS hSw; (try dsimp only at hSw); go_simp; try rfl)
              try simp only [Act.put, List.setIfInBounds_toArray, List.set_cons_zero, List.set_cons_succ]
              refine wpAnyH_take (i := 5) (v := ?_) (ops_at rfl) (by kernel_rfl) (by kernel_rfl) (by kernel_rfl) (fun _ _ _ h => h) (Or.inl ⟨by rfl, ?yc5⟩) (by assumption) ?nc5
              case yc5 => (intro wS hSw; (try dsimp only at hSw); go_simp; try rfl)
              try simp only [Act.put, List.setIfInBounds_toArray, List.set_cons_zero, List.set_cons_succ]
              refine wpAnyH_ready (rs := [0, 6]) (by kernel_rfl) (by simp) ?_
              refine AllReadyH.cons (ops_at rfl) (fun K hK => ?_) (AllReadyH.cons (ops_at rfl) (fun K hK => ?_) AllReadyH.nil)
              · go_simp
                have z0 := (((Below.refl wr.heap.size wr).alloc (Nat.le_refl _) (.cells #[] 51)).drew).drew
                have R0 := World.ownsRow_lit (base := wr.heap.size) (e := 51) (size := 2) wr #[] 0 (Nat.le_refl _) (Nat.zero_le _) rfl
                refine hK.out _ _ (two_cells z0 HGX.out) (fun hHz0 => ?_)
                clear hK K
                refine wpAnyH_ready (rs := [4, 6]) (by kernel_rfl) (by simp) ?_
                refine AllReadyH.cons (ops_at rfl) (fun K hK => ?_) (AllReadyH.cons (ops_at rfl) (fun K hK => ?_) AllReadyH.nil)
                · have sgxa := (seg_take HOXX.out.seg 0).below z0 (by first | exact Nat.le_refl _ | exact Nat.zero_le _)
                  refine step_append_flat _ rfl (.tmp 35) (.tmp 38) 25 rfl wr.heap.size 51 i0 Try.underlying25 hi0 hz0 hz1 hz2 _ 0 _ rfl R0 _ 0 _ (out.take 0) _ _ rfl (by rw [List.length_take, HOL.out]; omega) sgxa (by omega) z0.size ?_
                  intro vxa xa hoxa hgxa
                  have zxa := z0.trans (below_of_grown hgxa (fun g hg => (R0.lt g hg).1) z0.size)
                  refine hK.out _ _ (two_cells zxa HGX.out) (fun hHzxa => ?_)
                  clear hK K
                  refine wpAnyH_ready (rs := [6]) (by kernel_rfl) (by simp) ?_
                  refine AllReadyH.cons (ops_at rfl) (fun K hK => ?_) AllReadyH.nil
                  go_simp
                  have z6 := zxa.alloc zxa.size (.cells #[.int .i64 t, .int .i64 u] 51)
                  have R6 := hoxa.alloc (.cells #[.int .i64 t, .int .i64 u] 51)
                  have L6 := seg_book xa t u 51
                  refine hK.out _ _ (two_cells z6 HGX.out) (fun hHz6 => ?_)
                  clear hK K
                  refine wpAnyH_ready (rs := [7]) (by kernel_rfl) (by simp) ?_
                  refine AllReadyH.cons (ops_at rfl) (fun K hK => ?_) AllReadyH.nil
                  refine step_append_flat _ rfl (.tmp 39) (.tmp 41) 25 rfl wr.heap.size 51 i0 Try.underlying25 hi0 hz0 hz1 hz2 _ (0 + 0) _ rfl R6 _ 1 1 [(t, u)] _ _ rfl rfl L6 (by omega) z6.size ?_
                  intro vxb xb hoxb hgxb
                  have zxb := z6.trans (below_of_grown hgxb (fun g hg => (R6.lt g hg).1) z6.size)
                  refine hK.out _ _ (two_cells zxb HGX.out) (fun hHzxb => ?_)
                  clear hK K
                  have hF : xb.ownsRow wr.heap.size 51 2 vxb (0 + 1) (vals (out.take 0 ++ [(t, u)])) := by rw [vals_append]; simpa using hoxb
                  have HF := Lib.hid hF
                  clear hF hoxb
                  refine wpAnyH_take (i := 8) (v := ?_) (ops_at rfl) (by kernel_rfl) (by kernel_rfl) (by kernel_rfl) (fun _ _ _ h => h) (Or.inl ⟨by rfl, ?ycp8⟩) (by assumption) ?ncp8
                  case ycp8 => (intro wS hSw; (try dsimp only at hSw); go_simp; try rfl)
                  try simp only [Act.put, List.setIfInBounds_toArray, List.set_cons_zero, List.set_cons_succ]
                  refine wpAnyH_done (by kernel_rfl) ?_ _
                  go_wp2_with (at_builtin; refine wpList_append_flat _ rfl _ _ 25 rfl wr.heap.size 51 i0 Try.underlying25 hi0 hz0 hz1 hz2 _ (0 + 1) _ rfl HF.out _ k _ (out.drop 0) _ _ rfl (by rw [List.drop_zero, HOL.out]) ((HOXX.out.seg.below zxb (Nat.le_refl _))) (by omega) zxb.size ?_; intro vc xc hoc hgc; have zc : Below wr.heap.size wr xc := zxb.trans (below_of_grown hgc (fun g hg => (HF.out.lt g hg).1) zxb.size))
                  go_roundw
                  case rel => exact ⟨k + 1, by omega, by go_num, hbx.trans (zc.mono hbx.size), row_mono (by rw [HNX.out, HZ.out]; have e : vals (atK out (t, u) 0) = vals (out.take 0 ++ [(t, u)]) ++ vals (out.drop 0) := (by rw [← vals_append]; unfold atK; simp); rw [e]; have e2 : k + 1 = 0 + 1 + k := (by omega); rw [e2]; exact hoc) hbx.size, fun h => by omega⟩
                  case measure => simp [intOf]; omega
                · go_simp
                  have z6 := ((((Below.refl wr.heap.size wr).alloc (Nat.le_refl _) (.cells #[] 51)).alloc (by simp) (.cells #[.int .i64 t, .int .i64 u] 51)).drew).drew
                  have R6 := R0.alloc (.cells #[.int .i64 t, .int .i64 u] 51)
                  have L6 : Seg ((wr.alloc (.cells #[] 51)).alloc (.cells #[.int .i64 t, .int .i64 u] 51)) (wr.heap.size + 1) (wr.heap.size + 1 + 1) (some ⟨wr.heap.size + 1, 0, none⟩) (flat [(t, u)]) := by simpa using seg_book (wr.alloc (.cells #[] 51)) t u 51
                  refine hK.out _ _ (two_cells z6 HGX.out) (fun hHz6 => ?_)
                  clear hK K
                  refine wpAnyH_ready (rs := [4]) (by kernel_rfl) (by simp) ?_
                  refine AllReadyH.cons (ops_at rfl) (fun K hK => ?_) AllReadyH.nil
                  have sgxa := (seg_take HOXX.out.seg 0).below z6 (by first | exact Nat.le_refl _ | exact Nat.zero_le _)
                  refine step_append_flat _ rfl (.tmp 35) (.tmp 38) 25 rfl wr.heap.size 51 i0 Try.underlying25 hi0 hz0 hz1 hz2 _ 0 _ rfl R6 _ 0 _ (out.take 0) _ _ rfl (by rw [List.length_take, HOL.out]; omega) sgxa (by omega) z6.size ?_
                  intro vxa xa hoxa hgxa
                  have zxa := z6.trans (below_of_grown hgxa (fun g hg => (R6.lt g hg).1) z6.size)
                  have L7 := (seg_drew2 L6).grown hgxa (by show _ ≤ ((wr.alloc _).alloc _).heap.size; simp) (fun g hg => Or.inl (by have := (R0.lt g hg).2; simp at this; omega))
                  refine hK.out _ _ (two_cells zxa HGX.out) (fun hHzxa => ?_)
                  clear hK K
                  refine wpAnyH_ready (rs := [7]) (by kernel_rfl) (by simp) ?_
                  refine AllReadyH.cons (ops_at rfl) (fun K hK => ?_) AllReadyH.nil
                  refine step_append_flat _ rfl (.tmp 39) (.tmp 41) 25 rfl wr.heap.size 51 i0 Try.underlying25 hi0 hz0 hz1 hz2 _ (0 + 0) _ rfl hoxa _ 1 1 [(t, u)] _ _ rfl rfl L7 (by omega) zxa.size ?_
                  intro vxb xb hoxb hgxb
                  have zxb := zxa.trans (below_of_grown hgxb (fun g hg => (hoxa.lt g hg).1) zxa.size)
                  refine hK.out _ _ (two_cells zxb HGX.out) (fun hHzxb => ?_)
                  clear hK K
                  have hF : xb.ownsRow wr.heap.size 51 2 vxb (0 + 1) (vals (out.take 0 ++ [(t, u)])) := by rw [vals_append]; simpa using hoxb
                  have HF := Lib.hid hF
                  clear hF hoxb
                  refine wpAnyH_take (i := 8) (v := ?_) (ops_at rfl) (by kernel_rfl) (by kernel_rfl) (by kernel_rfl) (fun _ _ _ h => h) (Or.inl ⟨by rfl, ?ycq8⟩) (by assumption) ?ncq8
                  case ycq8 => (intro wS hSw; (try dsimp only at hSw); go_simp; try rfl)
                  try simp only [Act.put, List.setIfInBounds_toArray, List.set_cons_zero, List.set_cons_succ]
                  refine wpAnyH_done (by kernel_rfl) ?_ _
                  go_wp2_with (at_builtin; refine wpList_append_flat _ rfl _ _ 25 rfl wr.heap.size 51 i0 Try.underlying25 hi0 hz0 hz1 hz2 _ (0 + 1) _ rfl HF.out _ k _ (out.drop 0) _ _ rfl (by rw [List.drop_zero, HOL.out]) ((HOXX.out.seg.below zxb (Nat.le_refl _))) (by omega) zxb.size ?_; intro vc xc hoc hgc; have zc : Below wr.heap.size wr xc := zxb.trans (below_of_grown hgc (fun g hg => (HF.out.lt g hg).1) zxb.size))
                  go_roundw
                  case rel => exact ⟨k + 1, by omega, by go_num, hbx.trans (zc.mono hbx.size), row_mono (by rw [HNX.out, HZ.out]; have e : vals (atK out (t, u) 0) = vals (out.take 0 ++ [(t, u)]) ++ vals (out.drop 0) := (by rw [← vals_append]; unfold atK; simp); rw [e]; have e2 : k + 1 = 0 + 1 + k := (by omega); rw [e2]; exact hoc) hbx.size, fun h => by omega⟩
                  case measure => simp [intOf]; omega
              · go_simp
                have z6 := (((Below.refl wr.heap.size wr).alloc (Nat.le_refl _) (.cells #[.int .i64 t, .int .i64 u] 51)).drew).drew
                have L6 := seg_book wr t u 51
                refine hK.out _ _ (two_cells z6 HGX.out) (fun hHz6 => ?_)
                clear hK K
                refine wpAnyH_ready (rs := [0]) (by kernel_rfl) (by simp) ?_
                refine AllReadyH.cons (ops_at rfl) (fun K hK => ?_) AllReadyH.nil
                go_simp
                have z0 := ((((Below.refl wr.heap.size wr).alloc (Nat.le_refl _) (.cells #[.int .i64 t, .int .i64 u] 51)).alloc (by simp) (.cells #[] 51)).drew).drew
                have R0 : ((wr.alloc (.cells #[.int .i64 t, .int .i64 u] 51)).alloc (.cells #[] 51)).ownsRow wr.heap.size 51 2 (.slice (some ⟨wr.heap.size + 1, 0, none⟩) 0 0) 0 [] := by simpa using World.ownsRow_lit (base := wr.heap.size) (e := 51) (size := 2) (wr.alloc (.cells #[.int .i64 t, .int .i64 u] 51)) #[] 0 (by simp) (Nat.zero_le _) rfl
                have L0 := L6.below ((Below.refl _ _).alloc (Nat.le_refl _) (.cells #[] 51)) (by simp)
                refine hK.out _ _ (two_cells z0 HGX.out) (fun hHz0 => ?_)
                clear hK K
                refine wpAnyH_ready (rs := [4]) (by kernel_rfl) (by simp) ?_
                refine AllReadyH.cons (ops_at rfl) (fun K hK => ?_) AllReadyH.nil
                have sgxa := (seg_take HOXX.out.seg 0).below z0 (by first | exact Nat.le_refl _ | exact Nat.zero_le _)
                refine step_append_flat _ rfl (.tmp 35) (.tmp 38) 25 rfl wr.heap.size 51 i0 Try.underlying25 hi0 hz0 hz1 hz2 _ 0 _ rfl R0 _ 0 _ (out.take 0) _ _ rfl (by rw [List.length_take, HOL.out]; omega) sgxa (by omega) z0.size ?_
                intro vxa xa hoxa hgxa
                have zxa := z0.trans (below_of_grown hgxa (fun g hg => (R0.lt g hg).1) z0.size)
                have L7 := (seg_drew2 L0).grown hgxa (by show _ ≤ ((wr.alloc _).alloc _).heap.size; simp) (fun g hg => Or.inr (by have hg2 : some (wr.heap.size + 1) = some g := hg; injection hg2 with hg2; omega))
                refine hK.out _ _ (two_cells zxa HGX.out) (fun hHzxa => ?_)
                clear hK K
                refine wpAnyH_ready (rs := [7]) (by kernel_rfl) (by simp) ?_
                refine AllReadyH.cons (ops_at rfl) (fun K hK => ?_) AllReadyH.nil
                refine step_append_flat _ rfl (.tmp 39) (.tmp 41) 25 rfl wr.heap.size 51 i0 Try.underlying25 hi0 hz0 hz1 hz2 _ (0 + 0) _ rfl hoxa _ 1 1 [(t, u)] _ _ rfl rfl L7 (by omega) zxa.size ?_
                intro vxb xb hoxb hgxb
                have zxb := zxa.trans (below_of_grown hgxb (fun g hg => (hoxa.lt g hg).1) zxa.size)
                refine hK.out _ _ (two_cells zxb HGX.out) (fun hHzxb => ?_)
                clear hK K
                have hF : xb.ownsRow wr.heap.size 51 2 vxb (0 + 1) (vals (out.take 0 ++ [(t, u)])) := by rw [vals_append]; simpa using hoxb
                have HF := Lib.hid hF
                clear hF hoxb
                refine wpAnyH_take (i := 8) (v := ?_) (ops_at rfl) (by kernel_rfl) (by kernel_rfl) (by kernel_rfl) (fun _ _ _ h => h) (Or.inl ⟨by rfl, ?ycr8⟩) (by assumption) ?ncr8
                case ycr8 => (intro wS hSw; (try dsimp only at hSw); go_simp; try rfl)
                try simp only [Act.put, List.setIfInBounds_toArray, List.set_cons_zero, List.set_cons_succ]
                refine wpAnyH_done (by kernel_rfl) ?_ _
                go_wp2_with (at_builtin; refine wpList_append_flat _ rfl _ _ 25 rfl wr.heap.size 51 i0 Try.underlying25 hi0 hz0 hz1 hz2 _ (0 + 1) _ rfl HF.out _ k _ (out.drop 0) _ _ rfl (by rw [List.drop_zero, HOL.out]) ((HOXX.out.seg.below zxb (Nat.le_refl _))) (by omega) zxb.size ?_; intro vc xc hoc hgc; have zc : Below wr.heap.size wr xc := zxb.trans (below_of_grown hgc (fun g hg => (HF.out.lt g hg).1) zxb.size))
                go_roundw
                case rel => exact ⟨k + 1, by omega, by go_num, hbx.trans (zc.mono hbx.size), row_mono (by rw [HNX.out, HZ.out]; have e : vals (atK out (t, u) 0) = vals (out.take 0 ++ [(t, u)]) ++ vals (out.drop 0) := (by rw [← vals_append]; unfold atK; simp); rw [e]; have e2 : k + 1 = 0 + 1 + k := (by omega); rw [e2]; exact hoc) hbx.size, fun h => by omega⟩
                case measure => simp [intOf]; omega
            · obtain ⟨jj, hjj⟩ : ∃ jj, j = jj + 1 := ⟨j - 1, by omega⟩
              obtain ⟨x, hx⟩ : ∃ x, out[jj]? = some x := ⟨_, List.getElem?_eq_getElem (by rw [HOL.out]; omega)⟩
              obtain ⟨gx2, capx, Nx2, hvx, _, _, hrx⟩ := row_of_owns (ys := flat out) hownx hkp
              obtain ⟨rfl, rfl⟩ : gx = gx2 ∧ co = capx := by injection hvx with h1 h2 h3; injection h1 with h1; injection h1 with h1; exact ⟨h1, h3⟩
              obtain ⟨hcx1, hcx⟩ := hrx.book hx
              obtain ⟨hcb0, hcb⟩ := two_cells (Below.refl wr.heap.size wr) HGX.out
              obtain ⟨x1, x2⟩ := x
              simp only at hcx
              have HX := Lib.hid hx
              have HJJ := Lib.hid hjj
              have hwr : IntKind.i64.wrap ((j : Int) - 1) = (jj : Int) := by
                have h : ((j : Int) - 1) = (jj : Int) := by omega
                rw [h, IntKind.wrap_i64]
                omega
              have hjpos : (0 : Int) < (j : Int) := by omega
              have hjk : (jj : Int) < (k : Int) := by omega
              have hjj0 : (0 : Int) ≤ (jj : Int) := by omega
              clear hjj hx hgx hownx hvx hrx hcx1 hcb0
              go_wp2_with fail
              refine wp_region_held_drew (S := (fun wq => wq.cell? ⟨gb, 1, none⟩ = some (.int .i64 u) ∧ wq.cell? ⟨gx, jj * 2 + 1, none⟩ = some (.int .i64 x2))) (by kernel_rfl) ⟨hcb, hcx⟩ (fun hH0 => ?_)
              refine wpAnyH_take (i := 0) (v := ?_) (ops_at rfl) (by kernel_rfl) (by kernel_rfl) (by kernel_rfl) (fun _ _ _ h => h) (Or.inl ⟨by rfl, ?yb0⟩) (by assumption) ?nb0
              case yb0 => (intro wS hSw; (try dsimp only at hSw); go_simp; try rfl)
              try simp only [Act.put, List.setIfInBounds_toArray, List.set_cons_zero, List.set_cons_succ]
              refine wpAnyH_take (i := 1) (v := ?_) (ops_at rfl) (by kernel_rfl) (by kernel_rfl) (by kernel_rfl) (fun _ _ _ h => h) (Or.inl ⟨by rfl, ?yb1⟩) (by assumption) ?nb1
              case yb1 => (intro wS hSw; (try dsimp only at hSw); go_simp; try rfl)
              try simp only [Act.put, List.setIfInBounds_toArray, List.set_cons_zero, List.set_cons_succ]
              refine wpAnyH_take (i := 2) (v := ?_) (ops_at rfl) (by kernel_rfl) (by kernel_rfl) (by kernel_rfl) (fun _ _ _ h => h) (Or.inl ⟨by rfl, ?yb2⟩) (by assumption) ?nb2
              case yb2 => (intro wS hSw; (try dsimp only at hSw); go_simp; try rfl)
              try simp only [Act.put, List.setIfInBounds_toArray, List.set_cons_zero, List.set_cons_succ]
              refine wpAnyH_take (i := 3) (v := ?_) (ops_at rfl) (by kernel_rfl) (by kernel_rfl) (by kernel_rfl) (fun _ _ _ h => h) (Or.inl ⟨by rfl, ?yb3⟩) (by assumption) ?nb3
              case yb3 => (intro wS hSw; (try dsimp only at hSw); go_simp; try rfl)
              try simp only [Act.put, List.setIfInBounds_toArray, List.set_cons_zero, List.set_cons_succ]
              refine wpAnyH_take (i := 4) (v := ?_) (ops_at rfl) (by kernel_rfl) (by kernel_rfl) (by kernel_rfl) (fun _ _ _ h => h) (Or.inl ⟨by rfl, ?yb4⟩) (by assumption) ?nb4
              case yb4 => (intro wS hSw; (try dsimp only at hSw); go_simp; try rfl)
              try simp only [Act.put, List.setIfInBounds_toArray, List.set_cons_zero, List.set_cons_succ]
              refine wpAnyH_take (i := 5) (v := ?_) (ops_at rfl) (by kernel_rfl) (by kernel_rfl) (by kernel_rfl) (fun _ _ _ h => h) (Or.inl ⟨by rfl, ?yb5⟩) (by assumption) ?nb5
              case yb5 => (intro wS hSw; (try dsimp only at hSw); go_simp; try rfl)
              try simp only [Act.put, List.setIfInBounds_toArray, List.set_cons_zero, List.set_cons_succ]
              refine wpAnyH_take (i := 6) (v := ?_) (ops_at rfl) (by kernel_rfl) (by kernel_rfl) (by kernel_rfl) (fun _ _ _ h => h) (Or.inl ⟨by rfl, ?yb6⟩) (by assumption) ?nb6
              case yb6 => (intro wS hSw; (try dsimp only at hSw); go_simp; try rfl)
              try simp only [Act.put, List.setIfInBounds_toArray, List.set_cons_zero, List.set_cons_succ]
              refine wpAnyH_take (i := 7) (v := ?_) (ops_at rfl) (by kernel_rfl) (by kernel_rfl) (by kernel_rfl) (fun _ _ _ h => h) (Or.inl ⟨by rfl, ?yb7⟩) (by assumption) ?nb7
              case yb7 => (intro wS hSw; (try dsimp only at hSw); go_simp; try rfl)
              try simp only [Act.put, List.setIfInBounds_toArray, List.set_cons_zero, List.set_cons_succ]
              refine wpAnyH_take (i := 8) (v := ?_) (ops_at rfl) (by kernel_rfl) (by kernel_rfl) (by kernel_rfl) (fun _ _ _ h => h) (Or.inl ⟨by rfl, ?yb8⟩) (by assumption) ?nb8
              case yb8 => (intro wS hSw; (try dsimp only at hSw); go_simp; try rfl)
              try simp only [Act.put, List.setIfInBounds_toArray, List.set_cons_zero, List.set_cons_succ]
              refine wpAnyH_take (i := 9) (v := ?_) (ops_at rfl) (by kernel_rfl) (by kernel_rfl) (by kernel_rfl) (fun _ _ _ h => h) (Or.inl ⟨by rfl, ?yb9⟩) (by assumption) ?nb9
              case yb9 => (intro wS hSw; (try dsimp only at hSw); go_simp; try rfl)
              try simp only [Act.put, List.setIfInBounds_toArray, List.set_cons_zero, List.set_cons_succ]
              refine wpAnyH_take (i := 10) (v := ?_) (ops_at rfl) (by kernel_rfl) (by kernel_rfl) (by kernel_rfl) (fun _ _ _ h => h) (Or.inl ⟨by rfl, ?yb10⟩) (by assumption) ?nb10
              case yb10 => (intro wS hSw; (try dsimp only at hSw); go_simp; try rfl)
              try simp only [Act.put, List.setIfInBounds_toArray, List.set_cons_zero, List.set_cons_succ]
              refine wpAnyH_take (i := 11) (v := ?_) (ops_at rfl) (by kernel_rfl) (by kernel_rfl) (by kernel_rfl) (fun _ _ _ h => h) (Or.inl ⟨by rfl, ?yb11⟩) (by assumption) ?nb11
              case yb11 => (intro wS hSw; (try dsimp only at hSw); go_simp; try rfl)
              try simp only [Act.put, List.setIfInBounds_toArray, List.set_cons_zero, List.set_cons_succ]
              refine wpAnyH_take (i := 12) (v := ?_) (ops_at rfl) (by kernel_rfl) (by kernel_rfl) (by kernel_rfl) (fun _ _ _ h => h) (Or.inl ⟨by rfl, ?yb12⟩) (by assumption) ?nb12
              case yb12 => (intro wS hSw; (try dsimp only at hSw); go_simp; try rfl)
              try simp only [Act.put, List.setIfInBounds_toArray, List.set_cons_zero, List.set_cons_succ]
              refine wpAnyH_done (by kernel_rfl) ?_ _
              by_cases hlow : x2 < u
              · have hpos2 : posK out (t, u) jj = posK out (t, u) k := by rw [← posK_go (b := (t, u)) HX.out hlow, ← HJJ.out]; exact hpos.out
                have HPOS2 := Lib.hid hpos2
                clear hpos2
                go_wp2
                go_roundw
                case rel => exact ⟨jj, by have := HJJ.out; omega, rfl, hbx.drew, HGX.out, HOWNX.out, HPOS2.out⟩
                case measure => have := HJJ.out; simp [intOf]; omega
              · have hz : insK out (t, u) = atK out (t, u) j := by rw [insK, HOL.out, ← hpos.out, HJJ.out, posK_stop HX.out hlow]
                have HZ := Lib.hid hz
                clear hz hcx hcb
                go_wp2
                obtain ⟨Aq, cq, hvq, _, _, hoq⟩ := seg_of_row HOWNX.out
                obtain ⟨rfl, rfl⟩ : Aq = some ⟨gx, 0, none⟩ ∧ co = cq := by injection hvq with h1 h2 h3; exact ⟨h1.symm, h3⟩
                have HOXX := Lib.hid hoq
                clear hoq hvq
                have hjc : j ≤ co := Nat.le_trans hj hoc
                refine wp_region_held_drew (S := (fun wq => wq.cell? ⟨gb, 0, none⟩ = some (.int .i64 t) ∧ wq.cell? ⟨gb, 1, none⟩ = some (.int .i64 u))) (by kernel_rfl) (two_cells ((Below.refl wr.heap.size wr).drew.drew) HGX.out) (fun hH0 => ?_)
                refine wpAnyH_take (i := 1) (v := ?_) (ops_at rfl) (by kernel_rfl) (by kernel_rfl) (by kernel_rfl) (fun _ _ _ h => h) (Or.inl ⟨by rfl, ?yd1⟩) (by assumption) ?nd1
                case yd1 => (intro wS hSw; (try dsimp only at hSw); go_simp; try rfl)
                try simp only [Act.put, List.setIfInBounds_toArray, List.set_cons_zero, List.set_cons_succ]
                refine wpAnyH_take (i := 2) (v := ?_) (ops_at rfl) (by kernel_rfl) (by kernel_rfl) (by kernel_rfl) (fun _ _ _ h => h) (Or.inl ⟨by rfl, ?yd2⟩) (by assumption) ?nd2
                case yd2 => (intro wS hSw; (try dsimp only at hSw); go_simp; try rfl)
                try simp only [Act.put, List.setIfInBounds_toArray, List.set_cons_zero, List.set_cons_succ]
                refine wpAnyH_take (i := 3) (v := ?_) (ops_at rfl) (by kernel_rfl) (by kernel_rfl) (by kernel_rfl) (fun _ _ _ h => h) (Or.inl ⟨by rfl, ?yd3⟩) (by assumption) ?nd3
                case yd3 => (intro wS hSw; (try dsimp only at hSw); go_simp; try rfl)
                try simp only [Act.put, List.setIfInBounds_toArray, List.set_cons_zero, List.set_cons_succ]
                refine wpAnyH_take (i := 5) (v := ?_) (ops_at rfl) (by kernel_rfl) (by kernel_rfl) (by kernel_rfl) (fun _ _ _ h => h) (Or.inl ⟨by rfl, ?yd5⟩) (by assumption) ?nd5
                case yd5 => (intro wS hSw; (try dsimp only at hSw); go_simp; try rfl)
                try simp only [Act.put, List.setIfInBounds_toArray, List.set_cons_zero, List.set_cons_succ]
                refine wpAnyH_ready (rs := [0, 6]) (by kernel_rfl) (by simp) ?_
                refine AllReadyH.cons (ops_at rfl) (fun K hK => ?_) (AllReadyH.cons (ops_at rfl) (fun K hK => ?_) AllReadyH.nil)
                · go_simp
                  have z0 := (((Below.refl wr.heap.size wr).alloc (Nat.le_refl _) (.cells #[] 51)).drew).drew
                  have R0 := World.ownsRow_lit (base := wr.heap.size) (e := 51) (size := 2) wr #[] 0 (Nat.le_refl _) (Nat.zero_le _) rfl
                  refine hK.out _ _ (two_cells z0 HGX.out) (fun hHz0 => ?_)
                  clear hK K
                  refine wpAnyH_ready (rs := [4, 6]) (by kernel_rfl) (by simp) ?_
                  refine AllReadyH.cons (ops_at rfl) (fun K hK => ?_) (AllReadyH.cons (ops_at rfl) (fun K hK => ?_) AllReadyH.nil)
                  · have sgxa := (seg_take HOXX.out.seg j).below z0 (by first | exact Nat.le_refl _ | exact Nat.zero_le _)
                    refine step_append_flat _ rfl (.tmp 35) (.tmp 38) 25 rfl wr.heap.size 51 i0 Try.underlying25 hi0 hz0 hz1 hz2 _ 0 _ rfl R0 _ j _ (out.take j) _ _ rfl (by rw [List.length_take, HOL.out]; omega) sgxa (by omega) z0.size ?_
                    intro vxa xa hoxa hgxa
                    have zxa := z0.trans (below_of_grown hgxa (fun g hg => (R0.lt g hg).1) z0.size)
                    refine hK.out _ _ (two_cells zxa HGX.out) (fun hHzxa => ?_)
                    clear hK K
                    refine wpAnyH_ready (rs := [6]) (by kernel_rfl) (by simp) ?_
                    refine AllReadyH.cons (ops_at rfl) (fun K hK => ?_) AllReadyH.nil
                    go_simp
                    have z6 := zxa.alloc zxa.size (.cells #[.int .i64 t, .int .i64 u] 51)
                    have R6 := hoxa.alloc (.cells #[.int .i64 t, .int .i64 u] 51)
                    have L6 := seg_book xa t u 51
                    refine hK.out _ _ (two_cells z6 HGX.out) (fun hHz6 => ?_)
                    clear hK K
                    refine wpAnyH_ready (rs := [7]) (by kernel_rfl) (by simp) ?_
                    refine AllReadyH.cons (ops_at rfl) (fun K hK => ?_) AllReadyH.nil
                    refine step_append_flat _ rfl (.tmp 39) (.tmp 41) 25 rfl wr.heap.size 51 i0 Try.underlying25 hi0 hz0 hz1 hz2 _ (0 + j) _ rfl R6 _ 1 1 [(t, u)] _ _ rfl rfl L6 (by omega) z6.size ?_
                    intro vxb xb hoxb hgxb
                    have zxb := z6.trans (below_of_grown hgxb (fun g hg => (R6.lt g hg).1) z6.size)
                    refine hK.out _ _ (two_cells zxb HGX.out) (fun hHzxb => ?_)
                    clear hK K
                    have hF : xb.ownsRow wr.heap.size 51 2 vxb (j + 1) (vals (out.take j ++ [(t, u)])) := by rw [vals_append]; simpa using hoxb
                    have HF := Lib.hid hF
                    clear hF hoxb
                    refine wpAnyH_take (i := 8) (v := ?_) (ops_at rfl) (by kernel_rfl) (by kernel_rfl) (by kernel_rfl) (fun _ _ _ h => h) (Or.inl ⟨by rfl, ?ydp8⟩) (by assumption) ?ndp8
                    case ydp8 => (intro wS hSw; (try dsimp only at hSw); go_simp; try rfl)
                    try simp only [Act.put, List.setIfInBounds_toArray, List.set_cons_zero, List.set_cons_succ]
                    refine wpAnyH_done (by kernel_rfl) ?_ _
                    by_cases hcj : co = j
                    · have hdn : out.drop j = [] := List.drop_of_length_le (by rw [HOL.out]; omega)
                      have HDN := Lib.hid hdn
                      clear hdn
                      go_wp2_with (at_builtin; refine wpList_append_flat _ rfl _ _ 25 rfl wr.heap.size 51 i0 Try.underlying25 hi0 hz0 hz1 hz2 _ (j + 1) _ rfl HF.out _ (k - j) _ (out.drop j) _ _ rfl (by rw [List.length_drop, HOL.out]) (show Seg xb 0 0 _ (flat (out.drop j)) by rw [HDN.out]; exact .inl rfl) (by omega) zxb.size ?_; intro vc xc hoc hgc; have zc : Below wr.heap.size wr xc := zxb.trans (below_of_grown hgc (fun g hg => (HF.out.lt g hg).1) zxb.size))
                      go_roundw
                      case rel => exact ⟨k + 1, by omega, by go_num, hbx.trans (zc.mono hbx.size), row_mono (by rw [HNX.out, HZ.out]; have e : vals (atK out (t, u) j) = vals (out.take j ++ [(t, u)]) ++ vals (out.drop j) := (by rw [← vals_append]; unfold atK; simp); rw [e]; have e2 : k + 1 = j + 1 + (k - j) := (by omega); rw [e2]; exact hoc) hbx.size, fun h => by omega⟩
                      case measure => simp [intOf]; omega
                    · have sgd := (seg_drop0 HOXX.out.seg j).below zxb (Nat.le_refl _)
                      go_wp2_with (at_builtin; refine wpList_append_flat _ rfl _ _ 25 rfl wr.heap.size 51 i0 Try.underlying25 hi0 hz0 hz1 hz2 _ (j + 1) _ rfl HF.out _ (k - j) _ (out.drop j) _ _ rfl (by rw [List.length_drop, HOL.out]) sgd (by omega) zxb.size ?_; intro vc xc hoc hgc; have zc : Below wr.heap.size wr xc := zxb.trans (below_of_grown hgc (fun g hg => (HF.out.lt g hg).1) zxb.size))
                      go_roundw
                      case rel => exact ⟨k + 1, by omega, by go_num, hbx.trans (zc.mono hbx.size), row_mono (by rw [HNX.out, HZ.out]; have e : vals (atK out (t, u) j) = vals (out.take j ++ [(t, u)]) ++ vals (out.drop j) := (by rw [← vals_append]; unfold atK; simp); rw [e]; have e2 : k + 1 = j + 1 + (k - j) := (by omega); rw [e2]; exact hoc) hbx.size, fun h => by omega⟩
                      case measure => simp [intOf]; omega
                  · go_simp
                    have z6 := ((((Below.refl wr.heap.size wr).alloc (Nat.le_refl _) (.cells #[] 51)).alloc (by simp) (.cells #[.int .i64 t, .int .i64 u] 51)).drew).drew
                    have R6 := R0.alloc (.cells #[.int .i64 t, .int .i64 u] 51)
                    have L6 : Seg ((wr.alloc (.cells #[] 51)).alloc (.cells #[.int .i64 t, .int .i64 u] 51)) (wr.heap.size + 1) (wr.heap.size + 1 + 1) (some ⟨wr.heap.size + 1, 0, none⟩) (flat [(t, u)]) := by simpa using seg_book (wr.alloc (.cells #[] 51)) t u 51
                    refine hK.out _ _ (two_cells z6 HGX.out) (fun hHz6 => ?_)
                    clear hK K
                    refine wpAnyH_ready (rs := [4]) (by kernel_rfl) (by simp) ?_
                    refine AllReadyH.cons (ops_at rfl) (fun K hK => ?_) AllReadyH.nil
                    have sgxa := (seg_take HOXX.out.seg j).below z6 (by first | exact Nat.le_refl _ | exact Nat.zero_le _)
                    refine step_append_flat _ rfl (.tmp 35) (.tmp 38) 25 rfl wr.heap.size 51 i0 Try.underlying25 hi0 hz0 hz1 hz2 _ 0 _ rfl R6 _ j _ (out.take j) _ _ rfl (by rw [List.length_take, HOL.out]; omega) sgxa (by omega) z6.size ?_
                    intro vxa xa hoxa hgxa
                    have zxa := z6.trans (below_of_grown hgxa (fun g hg => (R6.lt g hg).1) z6.size)
                    have L7 := (seg_drew2 L6).grown hgxa (by show _ ≤ ((wr.alloc _).alloc _).heap.size; simp) (fun g hg => Or.inl (by have := (R0.lt g hg).2; simp at this; omega))
                    refine hK.out _ _ (two_cells zxa HGX.out) (fun hHzxa => ?_)
                    clear hK K
                    refine wpAnyH_ready (rs := [7]) (by kernel_rfl) (by simp) ?_
                    refine AllReadyH.cons (ops_at rfl) (fun K hK => ?_) AllReadyH.nil
                    refine step_append_flat _ rfl (.tmp 39) (.tmp 41) 25 rfl wr.heap.size 51 i0 Try.underlying25 hi0 hz0 hz1 hz2 _ (0 + j) _ rfl hoxa _ 1 1 [(t, u)] _ _ rfl rfl L7 (by omega) zxa.size ?_
                    intro vxb xb hoxb hgxb
                    have zxb := zxa.trans (below_of_grown hgxb (fun g hg => (hoxa.lt g hg).1) zxa.size)
                    refine hK.out _ _ (two_cells zxb HGX.out) (fun hHzxb => ?_)
                    clear hK K
                    have hF : xb.ownsRow wr.heap.size 51 2 vxb (j + 1) (vals (out.take j ++ [(t, u)])) := by rw [vals_append]; simpa using hoxb
                    have HF := Lib.hid hF
                    clear hF hoxb
                    refine wpAnyH_take (i := 8) (v := ?_) (ops_at rfl) (by kernel_rfl) (by kernel_rfl) (by kernel_rfl) (fun _ _ _ h => h) (Or.inl ⟨by rfl, ?ydq8⟩) (by assumption) ?ndq8
                    case ydq8 => (intro wS hSw; (try dsimp only at hSw); go_simp; try rfl)
                    try simp only [Act.put, List.setIfInBounds_toArray, List.set_cons_zero, List.set_cons_succ]
                    refine wpAnyH_done (by kernel_rfl) ?_ _
                    by_cases hcj : co = j
                    · have hdn : out.drop j = [] := List.drop_of_length_le (by rw [HOL.out]; omega)
                      have HDN := Lib.hid hdn
                      clear hdn
                      go_wp2_with (at_builtin; refine wpList_append_flat _ rfl _ _ 25 rfl wr.heap.size 51 i0 Try.underlying25 hi0 hz0 hz1 hz2 _ (j + 1) _ rfl HF.out _ (k - j) _ (out.drop j) _ _ rfl (by rw [List.length_drop, HOL.out]) (show Seg xb 0 0 _ (flat (out.drop j)) by rw [HDN.out]; exact .inl rfl) (by omega) zxb.size ?_; intro vc xc hoc hgc; have zc : Below wr.heap.size wr xc := zxb.trans (below_of_grown hgc (fun g hg => (HF.out.lt g hg).1) zxb.size))
                      go_roundw
                      case rel => exact ⟨k + 1, by omega, by go_num, hbx.trans (zc.mono hbx.size), row_mono (by rw [HNX.out, HZ.out]; have e : vals (atK out (t, u) j) = vals (out.take j ++ [(t, u)]) ++ vals (out.drop j) := (by rw [← vals_append]; unfold atK; simp); rw [e]; have e2 : k + 1 = j + 1 + (k - j) := (by omega); rw [e2]; exact hoc) hbx.size, fun h => by omega⟩
                      case measure => simp [intOf]; omega
                    · have sgd := (seg_drop0 HOXX.out.seg j).below zxb (Nat.le_refl _)
                      go_wp2_with (at_builtin; refine wpList_append_flat _ rfl _ _ 25 rfl wr.heap.size 51 i0 Try.underlying25 hi0 hz0 hz1 hz2 _ (j + 1) _ rfl HF.out _ (k - j) _ (out.drop j) _ _ rfl (by rw [List.length_drop, HOL.out]) sgd (by omega) zxb.size ?_; intro vc xc hoc hgc; have zc : Below wr.heap.size wr xc := zxb.trans (below_of_grown hgc (fun g hg => (HF.out.lt g hg).1) zxb.size))
                      go_roundw
                      case rel => exact ⟨k + 1, by omega, by go_num, hbx.trans (zc.mono hbx.size), row_mono (by rw [HNX.out, HZ.out]; have e : vals (atK out (t, u) j) = vals (out.take j ++ [(t, u)]) ++ vals (out.drop j) := (by rw [← vals_append]; unfold atK; simp); rw [e]; have e2 : k + 1 = j + 1 + (k - j) := (by omega); rw [e2]; exact hoc) hbx.size, fun h => by omega⟩
                      case measure => simp [intOf]; omega
                · go_simp
                  have z6 := (((Below.refl wr.heap.size wr).alloc (Nat.le_refl _) (.cells #[.int .i64 t, .int .i64 u] 51)).drew).drew
                  have L6 := seg_book wr t u 51
                  refine hK.out _ _ (two_cells z6 HGX.out) (fun hHz6 => ?_)
                  clear hK K
                  refine wpAnyH_ready (rs := [0]) (by kernel_rfl) (by simp) ?_
                  refine AllReadyH.cons (ops_at rfl) (fun K hK => ?_) AllReadyH.nil
                  go_simp
                  have z0 := ((((Below.refl wr.heap.size wr).alloc (Nat.le_refl _) (.cells #[.int .i64 t, .int .i64 u] 51)).alloc (by simp) (.cells #[] 51)).drew).drew
                  have R0 : ((wr.alloc (.cells #[.int .i64 t, .int .i64 u] 51)).alloc (.cells #[] 51)).ownsRow wr.heap.size 51 2 (.slice (some ⟨wr.heap.size + 1, 0, none⟩) 0 0) 0 [] := by simpa using World.ownsRow_lit (base := wr.heap.size) (e := 51) (size := 2) (wr.alloc (.cells #[.int .i64 t, .int .i64 u] 51)) #[] 0 (by simp) (Nat.zero_le _) rfl
                  have L0 := L6.below ((Below.refl _ _).alloc (Nat.le_refl _) (.cells #[] 51)) (by simp)
                  refine hK.out _ _ (two_cells z0 HGX.out) (fun hHz0 => ?_)
                  clear hK K
                  refine wpAnyH_ready (rs := [4]) (by kernel_rfl) (by simp) ?_
                  refine AllReadyH.cons (ops_at rfl) (fun K hK => ?_) AllReadyH.nil
                  have sgxa := (seg_take HOXX.out.seg j).below z0 (by first | exact Nat.le_refl _ | exact Nat.zero_le _)
                  refine step_append_flat _ rfl (.tmp 35) (.tmp 38) 25 rfl wr.heap.size 51 i0 Try.underlying25 hi0 hz0 hz1 hz2 _ 0 _ rfl R0 _ j _ (out.take j) _ _ rfl (by rw [List.length_take, HOL.out]; omega) sgxa (by omega) z0.size ?_
                  intro vxa xa hoxa hgxa
                  have zxa := z0.trans (below_of_grown hgxa (fun g hg => (R0.lt g hg).1) z0.size)
                  have L7 := (seg_drew2 L0).grown hgxa (by show _ ≤ ((wr.alloc _).alloc _).heap.size; simp) (fun g hg => Or.inr (by have hg2 : some (wr.heap.size + 1) = some g := hg; injection hg2 with hg2; omega))
                  refine hK.out _ _ (two_cells zxa HGX.out) (fun hHzxa => ?_)
                  clear hK K
                  refine wpAnyH_ready (rs := [7]) (by kernel_rfl) (by simp) ?_
                  refine AllReadyH.cons (ops_at rfl) (fun K hK => ?_) AllReadyH.nil
                  refine step_append_flat _ rfl (.tmp 39) (.tmp 41) 25 rfl wr.heap.size 51 i0 Try.underlying25 hi0 hz0 hz1 hz2 _ (0 + j) _ rfl hoxa _ 1 1 [(t, u)] _ _ rfl rfl L7 (by omega) zxa.size ?_
                  intro vxb xb hoxb hgxb
                  have zxb := zxa.trans (below_of_grown hgxb (fun g hg => (hoxa.lt g hg).1) zxa.size)
                  refine hK.out _ _ (two_cells zxb HGX.out) (fun hHzxb => ?_)
                  clear hK K
                  have hF : xb.ownsRow wr.heap.size 51 2 vxb (j + 1) (vals (out.take j ++ [(t, u)])) := by rw [vals_append]; simpa using hoxb
                  have HF := Lib.hid hF
                  clear hF hoxb
                  refine wpAnyH_take (i := 8) (v := ?_) (ops_at rfl) (by kernel_rfl) (by kernel_rfl) (by kernel_rfl) (fun _ _ _ h => h) (Or.inl ⟨by rfl, ?ydr8⟩) (by assumption) ?ndr8
                  case ydr8 => (intro wS hSw; (try dsimp only at hSw); go_simp; try rfl)
                  try simp only [Act.put, List.setIfInBounds_toArray, List.set_cons_zero, List.set_cons_succ]
                  refine wpAnyH_done (by kernel_rfl) ?_ _
                  by_cases hcj : co = j
                  · have hdn : out.drop j = [] := List.drop_of_length_le (by rw [HOL.out]; omega)
                    have HDN := Lib.hid hdn
                    clear hdn
                    go_wp2_with (at_builtin; refine wpList_append_flat _ rfl _ _ 25 rfl wr.heap.size 51 i0 Try.underlying25 hi0 hz0 hz1 hz2 _ (j + 1) _ rfl HF.out _ (k - j) _ (out.drop j) _ _ rfl (by rw [List.length_drop, HOL.out]) (show Seg xb 0 0 _ (flat (out.drop j)) by rw [HDN.out]; exact .inl rfl) (by omega) zxb.size ?_; intro vc xc hoc hgc; have zc : Below wr.heap.size wr xc := zxb.trans (below_of_grown hgc (fun g hg => (HF.out.lt g hg).1) zxb.size))
                    go_roundw
                    case rel => exact ⟨k + 1, by omega, by go_num, hbx.trans (zc.mono hbx.size), row_mono (by rw [HNX.out, HZ.out]; have e : vals (atK out (t, u) j) = vals (out.take j ++ [(t, u)]) ++ vals (out.drop j) := (by rw [← vals_append]; unfold atK; simp); rw [e]; have e2 : k + 1 = j + 1 + (k - j) := (by omega); rw [e2]; exact hoc) hbx.size, fun h => by omega⟩
                    case measure => simp [intOf]; omega
                  · have sgd := (seg_drop0 HOXX.out.seg j).below zxb (Nat.le_refl _)
                    go_wp2_with (at_builtin; refine wpList_append_flat _ rfl _ _ 25 rfl wr.heap.size 51 i0 Try.underlying25 hi0 hz0 hz1 hz2 _ (j + 1) _ rfl HF.out _ (k - j) _ (out.drop j) _ _ rfl (by rw [List.length_drop, HOL.out]) sgd (by omega) zxb.size ?_; intro vc xc hoc hgc; have zc : Below wr.heap.size wr xc := zxb.trans (below_of_grown hgc (fun g hg => (HF.out.lt g hg).1) zxb.size))
                    go_roundw
                    case rel => exact ⟨k + 1, by omega, by go_num, hbx.trans (zc.mono hbx.size), row_mono (by rw [HNX.out, HZ.out]; have e : vals (atK out (t, u) j) = vals (out.take j ++ [(t, u)]) ++ vals (out.drop j) := (by rw [← vals_append]; unfold atK; simp); rw [e]; have e2 : k + 1 = j + 1 + (k - j) := (by omega); rw [e2]; exact hoc) hbx.size, fun h => by omega⟩
                    case measure => simp [intOf]; omega
      · obtain rfl : k = n := by omega
        obtain ⟨Ao, co, rfl, hol, hoc, hoo⟩ := seg_of_row hown
        rw [List.take_of_length_le (by rw [HN.out]; exact Nat.le_refl _)] at hol hoo
        have HOL := Lib.hid hol
        have HOO := Lib.hid hoo
        clear hol hoo hown hnil
        go_wp2
        go_ret2
        exact ⟨_, _, _, rfl, HOL.out, HOO.out.more hb1.size (Nat.le_refl _), hb1.trans (hb.mono hb1.size)⟩
end
end Go.Proofs.Ytplohhmggfifkaa

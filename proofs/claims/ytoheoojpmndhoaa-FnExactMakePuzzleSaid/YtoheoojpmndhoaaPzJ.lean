/-
  A puzzle is made, as the checking program does it.
  Conditions: none.
-/
import Derived.Test.YtoheoojpmndhoaaPzK
import Derived.Test.YtoheoojpmndhoaaAppendFlat4
import Derived.Test.YtoheoojpmndhoaaMem
namespace Go.Proofs.Ytoheoojpmndhoaa
set_option linter.unusedVariables false
set_option linter.unusedSimpArgs false
open Go.RowKit

theorem row_keep4 {w w' : World} {base e size n : Nat} {v : Value} {xs : List Value} (h : w.ownsRow base e size v n xs) (hb : Below w.heap.size w w') : w'.ownsRow base e size v n xs :=
  h.kept (row := none) ⟨hb.os, hb.tape, hb.output, hb.size, fun i hi _ => hb.block i hi⟩ (by by_cases h : v.ownBlock = none <;> simp [h])
theorem row_form5 {w : World} {base T n : Nat} {v : Value} {xs : List Value} (h : w.ownsRow base T 4 v n xs) : ∃ A c, v = .slice A n c := by
  rcases h.2 with ⟨hv, rfl⟩ | ⟨g, cap, cur, hv, _⟩
  · exact ⟨none, 0, hv⟩
  · exact ⟨_, cap, hv⟩
theorem only_of_grown {S : Nat → Prop} {w w' : World} {row : Option Nat} (h : w.grownBy w' row) (hS : ∀ g, row = some g → S g) : Only S w w' :=
  ⟨h.os, h.tape, h.output, h.size, fun k hk hs => h.block k hk (fun e => hs (hS k e.symm))⟩

def makeB (xs : List Int) (j z : Int) : Bool := hidB xs && (inB j 0 6 && inB z 0 9999)

set_option maxHeartbeats 4000000 in
set_option maxRecDepth 100000 in
theorem spec_MakePuzzle (A : Option Addr) (n c : Nat) (j z : Int) (xs : List Int) (lo hi : Nat) (w : World) (hn : xs.length = n) (hlen : n ≤ 1048576) (hs : Seg w lo hi A xs) (hB : hi ≤ w.heap.size) (hj : -9223372036854775808 ≤ j ∧ j ≤ 9223372036854775807) (hz : -9223372036854775808 ≤ z ∧ z ≤ 9223372036854775807) (q : Bool) (hq : makeB xs j z = q) :
    Calls Try.prog 59 #[.slice A n c, .int .i64 j, .int .i64 z] w (RetU q (intU q n) (listU q (mkL xs j.toNat z)) w) := by
  obtain ⟨u, hu⟩ : ∃ u, hidB xs = u := ⟨_, rfl⟩
  obtain ⟨v, hv⟩ : ∃ v, inB j 0 6 = v := ⟨_, rfl⟩
  obtain ⟨x, hx⟩ : ∃ x, inB z 0 9999 = x := ⟨_, rfl⟩
  have hqq : q = (u && (v && x)) := by rw [← hq, makeB, hu, hv, hx]
  obtain ⟨W, hW⟩ : ∃ W, w.alloc (.cells #[.int .i64 0, .slice none 0 0] 35) = W := ⟨_, rfl⟩
  have z0 : Below w.heap.size w W := by rw [← hW]; exact (Below.refl _ _).alloc (Nat.le_refl _) _
  have r0 : W.heap[w.heap.size]? = some (.cells #[.int .i64 0, .slice none 0 0] 35 (0, 0)) := by rw [← hW]; exact new_at _ _ rfl
  have hsz := heap_lt r0
  have sW := hs.below z0 hB
  have HW := Lib.hid hW
  have HN := Lib.hid hn
  have HU := Lib.hid hu
  have HV := Lib.hid hv
  have HX := Lib.hid hx
  clear hW hn hu hv hx hq
  go_enter Try.func59, Try.ntmps59
  go_wp2_with fail
  rw [HW.out]
  refine (pzHidden_any A n c xs lo hi _ HN.out hlen sW u HU.out).mono ?_
  rintro e v1 ⟨rfl, rfl⟩
  cases u
  · have c0 := cell_of r0 0
    have c1 := cell_of r0 1
    have f0 := frozen_of r0 0
    have f1 := frozen_of r0 1
    simp only [List.getElem?_toArray, List.getElem?_cons_zero, List.getElem?_cons_succ] at c0 c1
    go_wp2_with fail
    have e : q = false := by rw [hqq]; simp
    subst e
    refine bodyPost_ret (v := .tuple #[pzV 0 none 0 0, .bool false]) (by simp [results, Try.results59, go_sem, c0, c1]) rfl ⟨none, 0, 0, rfl, rfl, .inl rfl, ?_⟩
    exact (z0.setCell (p := ⟨w.heap.size, 0, none⟩) (by simp) _).setCell (p := ⟨w.heap.size, 1, none⟩) (by simp) _
  go_wp2_with fail
  refine (l1In_any j 0 6 v HV.out _).mono ?_
  rintro e v1 ⟨rfl, rfl⟩
  cases v
  · have c0 := cell_of r0 0
    have c1 := cell_of r0 1
    have f0 := frozen_of r0 0
    have f1 := frozen_of r0 1
    simp only [List.getElem?_toArray, List.getElem?_cons_zero, List.getElem?_cons_succ] at c0 c1
    go_wp2_with fail
    have e : q = false := by rw [hqq]; simp
    subst e
    refine bodyPost_ret (v := .tuple #[pzV 0 none 0 0, .bool false]) (by simp [results, Try.results59, go_sem, c0, c1]) rfl ⟨none, 0, 0, rfl, rfl, .inl rfl, ?_⟩
    exact (z0.setCell (p := ⟨w.heap.size, 0, none⟩) (by simp) _).setCell (p := ⟨w.heap.size, 1, none⟩) (by simp) _
  go_wp2_with fail
  refine (l1In_any z 0 9999 x HX.out _).mono ?_
  rintro e v1 ⟨rfl, rfl⟩
  cases x
  · have c0 := cell_of r0 0
    have c1 := cell_of r0 1
    have f0 := frozen_of r0 0
    have f1 := frozen_of r0 1
    simp only [List.getElem?_toArray, List.getElem?_cons_zero, List.getElem?_cons_succ] at c0 c1
    go_wp2_with fail
    have e : q = false := by rw [hqq]; simp
    subst e
    refine bodyPost_ret (v := .tuple #[pzV 0 none 0 0, .bool false]) (by simp [results, Try.results59, go_sem, c0, c1]) rfl ⟨none, 0, 0, rfl, rfl, .inl rfl, ?_⟩
    exact (z0.setCell (p := ⟨w.heap.size, 0, none⟩) (by simp) _).setCell (p := ⟨w.heap.size, 1, none⟩) (by simp) _
  have j1 := inB_true.1 HV.out
  have z1 := inB_true.1 HX.out
  obtain ⟨h2, h4, hx6⟩ := hidB_at HU.out
  rw [HN.out] at h2 h4
  clear hx6
  obtain ⟨J, rfl⟩ : ∃ J : Nat, j = (J : Int) := ⟨j.toNat, by omega⟩
  have e : q = true := by rw [hqq]; rfl
  subst e
  clear hqq
  go_wp2
  have hb00 : Below W.heap.size W (W.alloc (.cells #[.int .i64 (n : Int), .slice none 0 0] 35)) := (Below.refl _ _).alloc (Nat.le_refl _) _
  have hp00 : (W.alloc (.cells #[.int .i64 (n : Int), .slice none 0 0] 35)).heap[W.heap.size]? = some (.cells #[.int .i64 (n : Int), .slice none 0 0] 35 (0, 0)) := new_at _ _ rfl
  obtain ⟨i0, hi0, hz0', hz1', hz2'⟩ := info_parts clue_infoI
  go_loopw [1, 9, 10] (fun i zz _ wr => ∃ d : Nat, d ≤ J ∧ i = .int .i64 ((J : Int) - (d : Int)) ∧ zz = .int .i64 (mkZ d z) ∧ ∃ A' c', Below W.heap.size W wr ∧ wr.heap[W.heap.size]? = some (.cells #[.int .i64 (n : Int), .slice A' d c'] 35 (0, 0)) ∧ wr.ownsRow (W.heap.size + 1) 25 4 (.slice A' d c') d (vals4 (mkL xs d z))) (fun i _ _ _ => (intOf i).toNat)
  case atStart => exact ⟨0, Nat.zero_le _, by simp, rfl, none, 0, hb00, hp00, World.ownsRow_nil _ _ _ _⟩
  case round =>
    obtain ⟨d, hd, rfl, rfl, A', c', hb, hp, hR⟩ := hrel
    clear hb00 hp00
    have hbz := z0.trans (hb.mono (by omega))
    have hpz := heap_lt hp
    by_cases hlt : d < J
    · have m0 := mkZ_in (z := z) (by omega) d
      obtain ⟨m, hm⟩ : ∃ m, mkZ d z = m := ⟨_, rfl⟩
      rw [hm] at m0 ⊢
      have n1 := nxtZ_in m
      have n2 := nxtZ_in (nxtZ m)
      obtain ⟨k, hk⟩ : ∃ k, nxtZ m % 6 = k := ⟨_, rfl⟩
      have k1 : 0 ≤ k ∧ k ≤ 5 := by omega
      have t6 : Int.tmod (nxtZ m) 6 = k := by rw [tmod6 n1.1, hk]
      have w6 : IntKind.i64.wrap k = k := IntWalk.i64_in _ (by omega)
      have h0 : (0 : Int) < (J : Int) - (d : Int) := by omega
      obtain ⟨y, hy⟩ : ∃ y, nxtZ (nxtZ m) = y := ⟨_, rfl⟩
      rw [hy] at n2
      obtain ⟨a, ha⟩ : ∃ a, mkA (n : Int) k y = a := ⟨_, rfl⟩
      obtain ⟨b, hb'⟩ : ∃ b, mkB (n : Int) k y = b := ⟨_, rfl⟩
      obtain ⟨t, ht⟩ : ∃ t, toldK k a b xs = t := ⟨_, rfl⟩
      have hC : mkC xs k y = (k, a, b, t) := by rw [mkC, HN.out, ha, hb', ht]
      have hL : mkL xs (d + 1) z = mkL xs d z ++ [(k, a, b, t)] := by rw [mkL_succ, hm, hk, hy, hC]
      have HA := Lib.hid ha
      have HB' := Lib.hid hb'
      have HT := Lib.hid ht
      have hZ : mkZ (d + 1) z = y := by rw [mkZ_succ, hm, hy]
      have HK := Lib.hid hk
      have HY := Lib.hid hy
      have HL := Lib.hid hL
      have HZ := Lib.hid hZ
      clear hk hy hL hZ hC hm ha hb' ht
      go_wp2_with fail
      refine (pzNext_any m (by omega) _).mono ?_
      rintro e v1 ⟨rfl, rfl⟩
      go_wp2_with fail
      refine (pzNext_any (nxtZ m) n1 _).mono ?_
      rintro e v1 ⟨rfl, rfl⟩
      rw [HY.out]
      go_wp2_with fail
      refine wp_region_held_drew (S := fun wq => True) (by kernel_rfl) trivial (fun hH0 => ?_)
      refine wpAnyH_take (i := 0) (v := ?_) (ops_at rfl) (by kernel_rfl) (by kernel_rfl) (by kernel_rfl) (fun _ _ _ h => h) (Or.inl ⟨by rfl, ?ys0⟩) (by assumption) ?ns0
      case ys0 => (intro wS hSw; go_simp; try rfl)
      try simp only [Act.put, List.setIfInBounds_toArray, List.set_cons_zero, List.set_cons_succ]
      refine wpAnyH_take (i := 2) (v := ?_) (ops_at rfl) (by kernel_rfl) (by kernel_rfl) (by kernel_rfl) (fun _ _ _ h => h) (Or.inl ⟨by rfl, ?ys2⟩) (by assumption) ?ns2
      case ys2 => (intro wS hSw; go_simp; try rfl)
      try simp only [Act.put, List.setIfInBounds_toArray, List.set_cons_zero, List.set_cons_succ]
      refine wpAnyH_take (i := 3) (v := ?_) (ops_at rfl) (by kernel_rfl) (by kernel_rfl) (by kernel_rfl) (fun _ _ _ h => h) (Or.inl ⟨by rfl, ?ys3⟩) (by assumption) ?ns3
      case ys3 => (intro wS hSw; go_simp; try rfl)
      try simp only [Act.put, List.setIfInBounds_toArray, List.set_cons_zero, List.set_cons_succ]
      refine wpAnyH_take (i := 4) (v := ?_) (ops_at rfl) (by kernel_rfl) (by kernel_rfl) (by kernel_rfl) (fun _ _ _ h => h) (Or.inl ⟨by rfl, ?ys4⟩) (by assumption) ?ns4
      case ys4 => (intro wS hSw; go_simp; try rfl)
      try simp only [Act.put, List.setIfInBounds_toArray, List.set_cons_zero, List.set_cons_succ]
      obtain ⟨v0, hv0⟩ : ∃ v, wr.drew = v := ⟨_, rfl⟩
      have hb0 : Below wr.heap.size wr v0 := by rw [← hv0]; exact (Below.refl _ _).drew
      rw [hv0]
      clear hv0 hH0
      have hz0 := hb0.size
      have p0 := (hb0.block _ (by omega)).trans hp
      have R0 := row_keep4 hR hb0
      have y0 := hbz.trans (hb0.mono (by omega))
      have W0 := hb.trans (hb0.mono (by omega))
      refine wpAnyH_ready (rs := [1, 5]) (by kernel_rfl) (by simp) ?_
      refine AllReadyH.cons (ops_at rfl) (fun K hK => ?_) (AllReadyH.cons (ops_at rfl) (fun K hK => ?_) AllReadyH.nil)
      · have q0 := cell_of p0 1
        simp only [List.getElem?_toArray, List.getElem?_cons_zero, List.getElem?_cons_succ] at q0
        go_simp
        refine hK.out _ _ trivial (fun _ => ?_)
        clear hK K q0
        refine wpAnyH_ready (rs := [5]) (by kernel_rfl) (by simp) ?_
        refine AllReadyH.cons (ops_at rfl) (fun K hK => ?_) AllReadyH.nil
        go_simp
        refine (pzOf_any A n c k y xs lo hi _ HN.out HU.out k1 n2 (hs.below y0 hB) (by omega)).mono ?_
        rintro e v1 ⟨he, hb1⟩
        rw [HA.out, HB'.out, HT.out] at he
        subst he
        have hz1 := hb1.size
        have p0_5 := (hb1.block _ (by omega)).trans p0
        have R0_5 := row_keep4 R0 hb1
        have y0_5 := y0.trans (hb1.mono (by omega))
        have W0_5 := W0.trans (hb1.mono (by omega))
        refine hK.out _ _ trivial (fun _ => ?_)
        clear hK K
        refine wpAnyH_ready (rs := [6]) (by kernel_rfl) (by simp) ?_
        refine AllReadyH.cons (ops_at rfl) (fun K hK => ?_) AllReadyH.nil
        go_simp
        obtain ⟨v2, hv2⟩ : ∃ v, v1.alloc (.cells #[.int .i64 k, .int .i64 a, .int .i64 b, .int .i64 t] 25) = v := ⟨_, rfl⟩
        have hb2 : Below v1.heap.size v1 v2 := by rw [← hv2]; exact (Below.refl _ _).alloc (Nat.le_refl _) _
        have G0_5_6 : Seg v2 v1.heap.size (v1.heap.size + 1) (some ⟨v1.heap.size, 0, none⟩) (flat4 [(k, a, b, t)]) := by rw [← hv2]; exact seg_clue v1 k a b t _
        have gz : v1.heap.size + 1 ≤ v2.heap.size := by rw [← hv2]; simp
        rw [hv2]
        clear hv2
        have hz2 := hb2.size
        have p0_5_6 := (hb2.block _ (by omega)).trans p0_5
        have R0_5_6 := row_keep4 R0_5 hb2
        have y0_5_6 := y0_5.trans (hb2.mono (by omega))
        have W0_5_6 := W0_5.trans (hb2.mono (by omega))
        refine hK.out _ _ trivial (fun _ => ?_)
        clear hK K
        refine wpAnyH_ready (rs := [7]) (by kernel_rfl) (by simp) ?_
        refine AllReadyH.cons (ops_at rfl) (fun K hK => ?_) AllReadyH.nil
        refine step_append_flat4 _ rfl (.tmp 40) (.tmp 45) 33 rfl (W.heap.size + 1) 25 i0 Try.underlying33 hi0 hz0' hz1' hz2' _ d _ rfl R0_5_6 _ 1 1 [(k, a, b, t)] _ _ rfl rfl G0_5_6 (by omega) (by omega) ?_
        intro v3' v3 ho3 hg3
        have lt3 := R0_5_6.lt
        have hb3 : Below (W.heap.size + 1) v2 v3 := below_of_grown4 hg3 (fun g hg => (lt3 g hg).1) (by omega)
        have hz3 := hb3.size
        have p3 := (hb3.block _ (by omega)).trans p0_5_6
        have hWz : Below W.heap.size W v3 := W0_5_6.trans (hb3.mono (by omega))
        refine hK.out _ _ trivial (fun _ => ?_)
        clear hK K
        have hF : v3.ownsRow (W.heap.size + 1) 25 4 v3' (d + 1) (vals4 (mkL xs (d + 1) z)) := by rw [HL.out, vals4_append]; exact ho3
        obtain ⟨A3, c3, rfl⟩ := row_form5 hF
        clear ho3 hg3 lt3
        refine wpAnyH_take (i := 8) (v := ?_) (ops_at rfl) (by kernel_rfl) (by kernel_rfl) (by kernel_rfl) (fun _ _ _ h => h) (Or.inl ⟨by rfl, ?yt18⟩) (by assumption) ?nt18
        case yt18 => (intro wS hSw; go_simp; try rfl)
        try simp only [Act.put, List.setIfInBounds_toArray, List.set_cons_zero, List.set_cons_succ]
        have c1 := cell_of p3 1
        have f1 := frozen_of p3 1
        simp only [List.getElem?_toArray, List.getElem?_cons_zero, List.getElem?_cons_succ] at c1
        have P4 := set_self p3 1 (.slice A3 (d + 1) c3)
        have R4 : (v3.setCell ⟨W.heap.size, 1, none⟩ (.slice A3 (d + 1) c3)).ownsRow (W.heap.size + 1) 25 4 (.slice A3 (d + 1) c3) (d + 1) (vals4 (mkL xs (d + 1) z)) := ownsRow_setCell_below hF (show W.heap.size < W.heap.size + 1 by omega) _
        have y4 : Below W.heap.size W (v3.setCell ⟨W.heap.size, 1, none⟩ (.slice A3 (d + 1) c3)) := hWz.setCell (p := ⟨W.heap.size, 1, none⟩) (Nat.le_refl _) _
        refine wpAnyH_ready (rs := [9]) (by kernel_rfl) (by simp) ?_
        refine AllReadyH.cons (ops_at rfl) (fun K hK => ?_) AllReadyH.nil
        go_simp
        refine hK.out _ _ trivial (fun _ => ?_)
        clear hK K
        refine wpAnyH_done (by kernel_rfl) ?_ _
        go_wp2
        go_roundw
        case rel => exact ⟨d + 1, by omega, by go_num, by rw [HZ.out], A3, c3, y4, by simpa using P4, R4⟩
        case measure => simp [intOf]; omega
      · go_simp
        refine (pzOf_any A n c k y xs lo hi _ HN.out HU.out k1 n2 (hs.below y0 hB) (by omega)).mono ?_
        rintro e v1 ⟨he, hb1⟩
        rw [HA.out, HB'.out, HT.out] at he
        subst he
        have hz1 := hb1.size
        have p0_5 := (hb1.block _ (by omega)).trans p0
        have R0_5 := row_keep4 R0 hb1
        have y0_5 := y0.trans (hb1.mono (by omega))
        have W0_5 := W0.trans (hb1.mono (by omega))
        refine hK.out _ _ trivial (fun _ => ?_)
        clear hK K
        refine wpAnyH_ready (rs := [1, 6]) (by kernel_rfl) (by simp) ?_
        refine AllReadyH.cons (ops_at rfl) (fun K hK => ?_) (AllReadyH.cons (ops_at rfl) (fun K hK => ?_) AllReadyH.nil)
        · have q0 := cell_of p0_5 1
          simp only [List.getElem?_toArray, List.getElem?_cons_zero, List.getElem?_cons_succ] at q0
          go_simp
          refine hK.out _ _ trivial (fun _ => ?_)
          clear hK K q0
          refine wpAnyH_ready (rs := [6]) (by kernel_rfl) (by simp) ?_
          refine AllReadyH.cons (ops_at rfl) (fun K hK => ?_) AllReadyH.nil
          go_simp
          obtain ⟨v2, hv2⟩ : ∃ v, v1.alloc (.cells #[.int .i64 k, .int .i64 a, .int .i64 b, .int .i64 t] 25) = v := ⟨_, rfl⟩
          have hb2 : Below v1.heap.size v1 v2 := by rw [← hv2]; exact (Below.refl _ _).alloc (Nat.le_refl _) _
          have G0_5_6 : Seg v2 v1.heap.size (v1.heap.size + 1) (some ⟨v1.heap.size, 0, none⟩) (flat4 [(k, a, b, t)]) := by rw [← hv2]; exact seg_clue v1 k a b t _
          have gz : v1.heap.size + 1 ≤ v2.heap.size := by rw [← hv2]; simp
          rw [hv2]
          clear hv2
          have hz2 := hb2.size
          have p0_5_6 := (hb2.block _ (by omega)).trans p0_5
          have R0_5_6 := row_keep4 R0_5 hb2
          have y0_5_6 := y0_5.trans (hb2.mono (by omega))
          have W0_5_6 := W0_5.trans (hb2.mono (by omega))
          refine hK.out _ _ trivial (fun _ => ?_)
          clear hK K
          refine wpAnyH_ready (rs := [7]) (by kernel_rfl) (by simp) ?_
          refine AllReadyH.cons (ops_at rfl) (fun K hK => ?_) AllReadyH.nil
          refine step_append_flat4 _ rfl (.tmp 40) (.tmp 45) 33 rfl (W.heap.size + 1) 25 i0 Try.underlying33 hi0 hz0' hz1' hz2' _ d _ rfl R0_5_6 _ 1 1 [(k, a, b, t)] _ _ rfl rfl G0_5_6 (by omega) (by omega) ?_
          intro v3' v3 ho3 hg3
          have lt3 := R0_5_6.lt
          have hb3 : Below (W.heap.size + 1) v2 v3 := below_of_grown4 hg3 (fun g hg => (lt3 g hg).1) (by omega)
          have hz3 := hb3.size
          have p3 := (hb3.block _ (by omega)).trans p0_5_6
          have hWz : Below W.heap.size W v3 := W0_5_6.trans (hb3.mono (by omega))
          refine hK.out _ _ trivial (fun _ => ?_)
          clear hK K
          have hF : v3.ownsRow (W.heap.size + 1) 25 4 v3' (d + 1) (vals4 (mkL xs (d + 1) z)) := by rw [HL.out, vals4_append]; exact ho3
          obtain ⟨A3, c3, rfl⟩ := row_form5 hF
          clear ho3 hg3 lt3
          refine wpAnyH_take (i := 8) (v := ?_) (ops_at rfl) (by kernel_rfl) (by kernel_rfl) (by kernel_rfl) (fun _ _ _ h => h) (Or.inl ⟨by rfl, ?yt28⟩) (by assumption) ?nt28
          case yt28 => (intro wS hSw; go_simp; try rfl)
          try simp only [Act.put, List.setIfInBounds_toArray, List.set_cons_zero, List.set_cons_succ]
          have c1 := cell_of p3 1
          have f1 := frozen_of p3 1
          simp only [List.getElem?_toArray, List.getElem?_cons_zero, List.getElem?_cons_succ] at c1
          have P4 := set_self p3 1 (.slice A3 (d + 1) c3)
          have R4 : (v3.setCell ⟨W.heap.size, 1, none⟩ (.slice A3 (d + 1) c3)).ownsRow (W.heap.size + 1) 25 4 (.slice A3 (d + 1) c3) (d + 1) (vals4 (mkL xs (d + 1) z)) := ownsRow_setCell_below hF (show W.heap.size < W.heap.size + 1 by omega) _
          have y4 : Below W.heap.size W (v3.setCell ⟨W.heap.size, 1, none⟩ (.slice A3 (d + 1) c3)) := hWz.setCell (p := ⟨W.heap.size, 1, none⟩) (Nat.le_refl _) _
          refine wpAnyH_ready (rs := [9]) (by kernel_rfl) (by simp) ?_
          refine AllReadyH.cons (ops_at rfl) (fun K hK => ?_) AllReadyH.nil
          go_simp
          refine hK.out _ _ trivial (fun _ => ?_)
          clear hK K
          refine wpAnyH_done (by kernel_rfl) ?_ _
          go_wp2
          go_roundw
          case rel => exact ⟨d + 1, by omega, by go_num, by rw [HZ.out], A3, c3, y4, by simpa using P4, R4⟩
          case measure => simp [intOf]; omega
        · go_simp
          obtain ⟨v2, hv2⟩ : ∃ v, v1.alloc (.cells #[.int .i64 k, .int .i64 a, .int .i64 b, .int .i64 t] 25) = v := ⟨_, rfl⟩
          have hb2 : Below v1.heap.size v1 v2 := by rw [← hv2]; exact (Below.refl _ _).alloc (Nat.le_refl _) _
          have G0_5_6 : Seg v2 v1.heap.size (v1.heap.size + 1) (some ⟨v1.heap.size, 0, none⟩) (flat4 [(k, a, b, t)]) := by rw [← hv2]; exact seg_clue v1 k a b t _
          have gz : v1.heap.size + 1 ≤ v2.heap.size := by rw [← hv2]; simp
          rw [hv2]
          clear hv2
          have hz2 := hb2.size
          have p0_5_6 := (hb2.block _ (by omega)).trans p0_5
          have R0_5_6 := row_keep4 R0_5 hb2
          have y0_5_6 := y0_5.trans (hb2.mono (by omega))
          have W0_5_6 := W0_5.trans (hb2.mono (by omega))
          refine hK.out _ _ trivial (fun _ => ?_)
          clear hK K
          refine wpAnyH_ready (rs := [1]) (by kernel_rfl) (by simp) ?_
          refine AllReadyH.cons (ops_at rfl) (fun K hK => ?_) AllReadyH.nil
          have q0 := cell_of p0_5_6 1
          simp only [List.getElem?_toArray, List.getElem?_cons_zero, List.getElem?_cons_succ] at q0
          go_simp
          refine hK.out _ _ trivial (fun _ => ?_)
          clear hK K q0
          refine wpAnyH_ready (rs := [7]) (by kernel_rfl) (by simp) ?_
          refine AllReadyH.cons (ops_at rfl) (fun K hK => ?_) AllReadyH.nil
          refine step_append_flat4 _ rfl (.tmp 40) (.tmp 45) 33 rfl (W.heap.size + 1) 25 i0 Try.underlying33 hi0 hz0' hz1' hz2' _ d _ rfl R0_5_6 _ 1 1 [(k, a, b, t)] _ _ rfl rfl G0_5_6 (by omega) (by omega) ?_
          intro v3' v3 ho3 hg3
          have lt3 := R0_5_6.lt
          have hb3 : Below (W.heap.size + 1) v2 v3 := below_of_grown4 hg3 (fun g hg => (lt3 g hg).1) (by omega)
          have hz3 := hb3.size
          have p3 := (hb3.block _ (by omega)).trans p0_5_6
          have hWz : Below W.heap.size W v3 := W0_5_6.trans (hb3.mono (by omega))
          refine hK.out _ _ trivial (fun _ => ?_)
          clear hK K
          have hF : v3.ownsRow (W.heap.size + 1) 25 4 v3' (d + 1) (vals4 (mkL xs (d + 1) z)) := by rw [HL.out, vals4_append]; exact ho3
          obtain ⟨A3, c3, rfl⟩ := row_form5 hF
          clear ho3 hg3 lt3
          refine wpAnyH_take (i := 8) (v := ?_) (ops_at rfl) (by kernel_rfl) (by kernel_rfl) (by kernel_rfl) (fun _ _ _ h => h) (Or.inl ⟨by rfl, ?yt38⟩) (by assumption) ?nt38
          case yt38 => (intro wS hSw; go_simp; try rfl)
          try simp only [Act.put, List.setIfInBounds_toArray, List.set_cons_zero, List.set_cons_succ]
          have c1 := cell_of p3 1
          have f1 := frozen_of p3 1
          simp only [List.getElem?_toArray, List.getElem?_cons_zero, List.getElem?_cons_succ] at c1
          have P4 := set_self p3 1 (.slice A3 (d + 1) c3)
          have R4 : (v3.setCell ⟨W.heap.size, 1, none⟩ (.slice A3 (d + 1) c3)).ownsRow (W.heap.size + 1) 25 4 (.slice A3 (d + 1) c3) (d + 1) (vals4 (mkL xs (d + 1) z)) := ownsRow_setCell_below hF (show W.heap.size < W.heap.size + 1 by omega) _
          have y4 : Below W.heap.size W (v3.setCell ⟨W.heap.size, 1, none⟩ (.slice A3 (d + 1) c3)) := hWz.setCell (p := ⟨W.heap.size, 1, none⟩) (Nat.le_refl _) _
          refine wpAnyH_ready (rs := [9]) (by kernel_rfl) (by simp) ?_
          refine AllReadyH.cons (ops_at rfl) (fun K hK => ?_) AllReadyH.nil
          go_simp
          refine hK.out _ _ trivial (fun _ => ?_)
          clear hK K
          refine wpAnyH_done (by kernel_rfl) ?_ _
          go_wp2
          go_roundw
          case rel => exact ⟨d + 1, by omega, by go_num, by rw [HZ.out], A3, c3, y4, by simpa using P4, R4⟩
          case measure => simp [intOf]; omega
    · obtain rfl : d = J := by omega
      have c0 := cell_of hp 0
      have c1 := cell_of hp 1
      have R1 := (hb.block _ hsz).trans r0
      have u0 := cell_of R1 0
      have u1 := cell_of R1 1
      have g0 := frozen_of R1 0
      have g1 := frozen_of R1 1
      simp only [List.getElem?_toArray, List.getElem?_cons_zero, List.getElem?_cons_succ] at c0 c1 u0 u1
      obtain ⟨A4, c4, e4, l4, _, o4⟩ := seg_of_row4 hR
      injection e4 with eA en ec
      subst eA ec
      have ne : W.heap.size ≠ w.heap.size := by omega
      have ne2 : w.heap.size ≠ W.heap.size := by omega
      go_wp2
      refine bodyPost_ret (v := .tuple #[pzV n A' d c', .bool true]) (by simp [results, Try.results59, go_sem, u0, u1]) rfl ⟨A', d, c', rfl, by simpa [listU] using l4, ?_, (hbz.setCell (p := ⟨w.heap.size, 0, none⟩) (by simp) _).setCell (p := ⟨w.heap.size, 1, none⟩) (by simp) _⟩
      simp only [World.size_setCell]
      have o5 := (o4.keep (w' := (wr.setCell ⟨w.heap.size, 0, none⟩ (.int .i64 (n : Int))).setCell ⟨w.heap.size, 1, none⟩ (.slice A' d c')) fun b hb1 hb2 => (set_far _ (by simp; omega) _).trans (set_far _ (by simp; omega) _)).more (show w.heap.size ≤ W.heap.size + 1 by omega) (Nat.le_refl _)
      simpa [listU] using o5
end Go.Proofs.Ytoheoojpmndhoaa

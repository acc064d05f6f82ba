/-
  The written program's table of the best cuts.
  Conditions: one to sixty prices from 0 to 1000, a rod of 1 to 60.
-/
import Derived.Test.YthlhpddfifpkeabCutsI
namespace Go.Proofs.Ythlhpddfifpkeab
set_option linter.unusedVariables false
open Go.RowKit

theorem field_worth (v : Int) (A : Option Addr) (n c : Nat) (cnt : Int) (W : World) : (Instr.field 94 (.agg #[.int .i64 v, .slice A n c, .int .i64 cnt]) 0).run Try.prog W = .ok (.int .i64 v) W := by kernel_rfl
theorem field_first (v : Int) (A : Option Addr) (n c : Nat) (cnt : Int) (W : World) : (Instr.field 94 (.agg #[.int .i64 v, .slice A n c, .int .i64 cnt]) 1).run Try.prog W = .ok (.slice A n c) W := by kernel_rfl
theorem field_count (v : Int) (A : Option Addr) (n c : Nat) (cnt : Int) (W : World) : (Instr.field 94 (.agg #[.int .i64 v, .slice A n c, .int .i64 cnt]) 2).run Try.prog W = .ok (.int .i64 cnt) W := by kernel_rfl

theorem set_far3 {w : World} {h : Nat} {o : Obj} (hb : w.heap[h]? = some o) {g k : Nat} (hne : h ≠ g) (v0 v1 v2 : Value) : (((w.setCell ⟨g, k, none⟩ v0).setCell ⟨g, k + 1, none⟩ v1).setCell ⟨g, k + 2, none⟩ v2).heap[h]? = some o :=
  (set_far _ (p := ⟨g, k + 2, none⟩) hne _).trans ((set_far _ (p := ⟨g, k + 1, none⟩) hne _).trans ((set_far _ (p := ⟨g, k, none⟩) hne _).trans hb))

theorem price_far {w : World} {b o : Nat} {u : Value} (hb : w.cell? ⟨b, o, none⟩ = some u) {g k : Nat} (hne : b < g) (v0 v1 v2 : Value) : (((w.setCell ⟨g, k, none⟩ v0).setCell ⟨g, k + 1, none⟩ v1).setCell ⟨g, k + 2, none⟩ v2).cell? ⟨b, o, none⟩ = some u := by
  have hn : b ≠ g := by omega
  refine Eq.trans (World.cell?_of_block (w := w) ?_) hb
  exact (set_far _ (p := ⟨g, k + 2, none⟩) hn _).trans ((set_far _ (p := ⟨g, k + 1, none⟩) hn _).trans (set_far _ (p := ⟨g, k, none⟩) hn _))

theorem ent_far {w : World} {g T r : Nat} {E : Nat → Ent} (ht : TabAt w g T r E) {k m : Nat} (hkm : k ≠ m) {v : Int} {A : Option Addr} {n c : Nat} {cnt : Int} (h : Ent3 w g k v A n c cnt) (v0 v1 v2 : Value) :
    Ent3 (((w.setCell ⟨g, m * 3, none⟩ v0).setCell ⟨g, m * 3 + 1, none⟩ v1).setCell ⟨g, m * 3 + 2, none⟩ v2) g k v A n c cnt := by
  obtain ⟨cs, hb, _⟩ := ht
  have hb3 := set_self (set_self (set_self hb (m * 3) v0) (m * 3 + 1) v1) (m * 3 + 2) v2
  have e : ∀ o, o ≠ m * 3 → o ≠ m * 3 + 1 → o ≠ m * 3 + 2 → (((w.setCell ⟨g, m * 3, none⟩ v0).setCell ⟨g, m * 3 + 1, none⟩ v1).setCell ⟨g, m * 3 + 2, none⟩ v2).cell? ⟨g, o, none⟩ = w.cell? ⟨g, o, none⟩ := fun o h0 h1 h2 => by
    rw [cell_of hb3, cell_of hb, Array.getElem?_setIfInBounds_ne (by omega), Array.getElem?_setIfInBounds_ne (by omega), Array.getElem?_setIfInBounds_ne (by omega)]
  exact ⟨(e _ (by omega) (by omega) (by omega)).trans h.1, (e _ (by omega) (by omega) (by omega)).trans h.2.1, (e _ (by omega) (by omega) (by omega)).trans h.2.2⟩

set_option maxRecDepth 100000 in
set_option maxHeartbeats 4000000 in
theorem bestCutsOf_any (A : Option Addr) (n c : Nat) (ps : List Int) (r : Nat) (lo hi : Nat) (w : World) (hn : ps.length = n) (hn1 : 1 ≤ n) (hn60 : n ≤ 60) (hs : Seg w lo hi A ps) (hB : hi ≤ w.heap.size) (hp : ∀ (k : Nat) u, ps[k]? = some u → 0 ≤ u ∧ u ≤ 1000) (hr : r ≤ 60) :
    Calls Try.prog 79 #[.slice A n c, .int .i64 (r : Int)] w (RetB3 (fromE ps 1 r).worth (fromE ps 1 r).first (fromE ps 1 r).count w) := by
  have hmk := fun W : World => (show (Instr.makeSlice 143 (.int .i64 ((r : Int) + 1)) (.int .i64 ((r : Int) + 1))).run Try.prog W = .ok (.slice (some ⟨W.heap.size, 0, none⟩) (r + 1) (r + 1)) (W.alloc (.cells (madeCells #[.int .i64 0, .slice none 0 0, .int .i64 0] ((r + 1) * 3)) 94)) from make_cuts (r + 1) (by omega) W)
  have HN := Lib.hid hn
  have HP := Lib.hid hp
  have hblk := heap_alloc_new (w.alloc (.cells #[.int .i64 0, .slice none 0 0, .int .i64 0] 94)) (.cells (madeCells #[.int .i64 0, .slice none 0 0, .int .i64 0] ((r + 1) * 3)) 94)
  rw [World.size_alloc] at hblk
  have HTN := Lib.hid (show TabAt ((w.alloc (.cells #[.int .i64 0, .slice none 0 0, .int .i64 0] 94)).alloc (.cells ((madeCells #[.int .i64 0, .slice none 0 0, .int .i64 0] ((r + 1) * 3)).setIfInBounds 2 (.int .i64 1)) 94)) (w.heap.size + 1) 94 r (fromE ps (n + 1)) by
    have h := tab_new (w.alloc (.cells #[.int .i64 0, .slice none 0 0, .int .i64 0] 94)) 94 r ps
    rw [World.size_alloc] at h
    unfold fromE
    rw [hn, Nat.sub_self]
    exact h)
  have HBN := Lib.hid (((Below.refl w.heap.size w).alloc (Nat.le_refl _) (.cells #[.int .i64 0, .slice none 0 0, .int .i64 0] 94)).alloc (by simp) (.cells ((madeCells #[.int .i64 0, .slice none 0 0, .int .i64 0] ((r + 1) * 3)).setIfInBounds 2 (.int .i64 1)) 94))
  have HRN := Lib.hid (show ((w.alloc (.cells #[.int .i64 0, .slice none 0 0, .int .i64 0] 94)).alloc (.cells ((madeCells #[.int .i64 0, .slice none 0 0, .int .i64 0] ((r + 1) * 3)).setIfInBounds 2 (.int .i64 1)) 94)).heap[w.heap.size]? = some (.cells #[.int .i64 0, .slice none 0 0, .int .i64 0] 94 (0, 0)) from
    (alloc_old _ (by simp) _).trans (new_at _ _ rfl))
  have hc2 : ((w.alloc (.cells #[.int .i64 0, .slice none 0 0, .int .i64 0] 94)).alloc (.cells (madeCells #[.int .i64 0, .slice none 0 0, .int .i64 0] ((r + 1) * 3)) 94)).cell? ⟨w.heap.size + 1, 2, none⟩ = some (.int .i64 0) := by
    rw [cell_of hblk]
    simp [madeCells, show 2 < (r + 1) * 3 by omega]
  have hf2 := frozen_of hblk 2
  clear hn hp hblk
  go_enter Try.func79, Try.ntmps79
  go_wp2
  clear hmk hc2 hf2
  go_loopw [6] (fun i wr => ∃ k : Nat, k ≤ n ∧ i = .int .i64 k ∧ Below w.heap.size w wr ∧ TabAt wr (w.heap.size + 1) 94 r (fromE ps (k + 1)) ∧ wr.heap[w.heap.size]? = some (.cells #[.int .i64 0, .slice none 0 0, .int .i64 0] 94 (0, 0))) (fun i _ => (intOf i).toNat)
  case atStart => exact ⟨n, Nat.le_refl _, rfl, HBN.out, HTN.out, HRN.out⟩
  case round =>
    obtain ⟨k, hk, rfl, hb, htab, hres⟩ := hrel
    by_cases hlt : 1 ≤ k
    · obtain ⟨j, rfl⟩ : ∃ j, k = j + 1 := ⟨k - 1, by omega⟩
      obtain ⟨bp, op, p, rfl, _, hbp, hx, hcx⟩ := hs.at_ (k := j) (by rw [HN.out]; omega)
      have hpb := HP.out j p hx
      have hT0 : fromE ps (j + 1) = cutE p (j + 1) (fromE ps (j + 1 + 1)) := by
        rw [fromE_step (by omega) (by rw [HN.out]; omega)]
        have e : ps.getD (j + 1 - 1) 0 = p := by simp [List.getD, hx]
        rw [e]
      have hG0 : ∀ i, GoodE (j + 1 + 1) i (fromE ps (j + 1 + 1) i) := fun i => by
        have h := GoodE.tab HP.out (ps.length + 1 - (j + 1 + 1)) (by omega) i
        have e : ps.length + 1 - (ps.length + 1 - (j + 1 + 1)) = j + 1 + 1 := by have := HN.out; omega
        rw [e] at h
        exact h
      obtain ⟨T, hT⟩ : ∃ T, fromE ps (j + 1 + 1) = T := ⟨_, rfl⟩
      rw [hT] at hT0 hG0 htab
      have HG := Lib.hid (fun i => GoodE.cut (p := p) (q := j + 1) hpb (by omega) hG0 i)
      have HT := Lib.hid hT0
      have HGT := Lib.hid hG0
      rw [← partE_first p (j + 1) T] at htab
      have h1j : decide (1 ≤ (j : Int) + 1) = true := by rw [decide_eq_true_iff]; omega
      clear hT hT0 hG0 hx
      go_wp2
      try rw [h1j]
      go_loopw [7] (fun i wr => ∃ m : Nat, j + 1 ≤ m ∧ (m ≤ r + 1 ∨ m = j + 1) ∧ i = .int .i64 m ∧ Below w.heap.size w wr ∧ TabAt wr (w.heap.size + 1) 94 r (partE p (j + 1) T m) ∧ wr.heap[w.heap.size]? = some (.cells #[.int .i64 0, .slice none 0 0, .int .i64 0] 94 (0, 0))) (fun i _ => r + 1 - (intOf i).toNat)
      case atStart => exact ⟨j + 1, Nat.le_refl _, .inr rfl, rfl, hb, htab, hres⟩
      clear hb htab hres
      case round =>
        obtain ⟨m, hm1, hm2, rfl, hb, htab, hres⟩ := hrel
        by_cases hm : m ≤ r
        · obtain ⟨d, rfl⟩ : ∃ d, m = j + 1 + d := ⟨m - (j + 1), by omega⟩
          have hcp := (hb.cell (p := ⟨bp, op + j, none⟩) (by exact Nat.lt_of_lt_of_le hbp hB)).trans hcx
          obtain ⟨AA, ka, ea0, ea1, ea2, oa⟩ := htab.at_ (n := d) (by omega)
          obtain ⟨AB, kb, eb0, eb1, eb2, ob⟩ := htab.at_ (n := j + 1 + d) hm
          rw [partE_less (by omega)] at ea0 ea1 ea2 oa
          rw [partE_not (Nat.le_refl _)] at eb0 eb1 eb2 ob
          have hga := HG.out d
          have hgb := HGT.out (j + 1 + d)
          have hcm := (HG.out (j + 1 + d)).2
          have hce := cutE_at (p := p) (T := T) (q := j + 1) (n := j + 1 + d) (by omega) (by omega)
          rw [Nat.add_sub_cancel_left] at hce
          obtain ⟨t, x, y, hx1, hx2, hf1, hf2, hah⟩ := step_and hce hga hgb hpb.1
          have HX1 := Lib.hid hx1
          have HX2 := Lib.hid hx2
          have HF1 := Lib.hid hf1
          have HF2 := Lib.hid hf2
          have hcb1 := cb_max (q := j + 1) (n := d) (by omega) (by omega)
          have hcb2 := cb_max (q := j + 1) (n := j + 1 + d) (by omega) (by omega)
          have hcb3 := cb_sum (q := j + 1) (n := j + 1 + d) (by omega) (by omega)
          rw [Nat.add_sub_cancel_left] at hcb3
          have hbds : (0 ≤ wz (cutE p (j + 1) T d) ∧ wz (cutE p (j + 1) T d) ≤ 60000) ∧ (cutE p (j + 1) T d).first.length ≤ 60 ∧ 0 ≤ (cutE p (j + 1) T d).count ∧ 0 ≤ (T (j + 1 + d)).count := by
            have g1 := hga.1
            have g2 := hgb.1
            unfold wz
            rcases g1 with ⟨g3, g4, g5⟩ | ⟨g3, g4, g5, g6⟩
            · rw [if_pos (by omega), g5]
              exact ⟨by omega, by simp, by omega, by omega⟩
            · rw [if_neg (by omega)]
              exact ⟨by omega, by omega, by omega, by omega⟩
          obtain ⟨hvab, hna, hca0, hcb0⟩ := hbds
          have hcsum : 0 ≤ (cutE p (j + 1) T d).count ∧ 0 ≤ (T (j + 1 + d)).count ∧ (cutE p (j + 1) T d).count + (T (j + 1 + d)).count ≤ 1152921504606846976 := by
            have g1 := hga.2
            have g2 := hgb.2
            omega
          clear hx1 hx2 hf1 hf2 hcb1 hcb2 hcb3 hca0 hcb0 hce hgb hga hcm
          obtain ⟨va, hva⟩ : ∃ va, wz (cutE p (j + 1) T d) = va := ⟨_, rfl⟩
          obtain ⟨ca, hca⟩ : ∃ ca, (cutE p (j + 1) T d).count = ca := ⟨_, rfl⟩
          obtain ⟨fla, hfla⟩ : ∃ fla, (cutE p (j + 1) T d).first = fla := ⟨_, rfl⟩
          obtain ⟨na, hna'⟩ : ∃ na, fla.length = na := ⟨_, rfl⟩
          obtain ⟨vb, hvb⟩ : ∃ vb, wz (T (j + 1 + d)) = vb := ⟨_, rfl⟩
          obtain ⟨cb2, hcb⟩ : ∃ cb2, (T (j + 1 + d)).count = cb2 := ⟨_, rfl⟩
          obtain ⟨nb, hnb⟩ : ∃ nb, (T (j + 1 + d)).first.length = nb := ⟨_, rfl⟩
          rw [hva] at ea0 hvab hah
          rw [hca] at ea2 hcsum hah
          rw [hfla] at ea1 oa hna HF2
          rw [hna'] at ea1 hna
          rw [hvb] at eb0 hah
          rw [hcb] at eb2 hcsum hah
          rw [hnb] at eb1
          have HAH := Lib.hid hah
          have HLA := Lib.hid hna'
          have HLB := Lib.hid hnb
          have HSA := Lib.hid oa.seg
          have HOB := Lib.hid ob
          have HTAB := Lib.hid htab
          have HRB := Lib.hid hres
          have HG0 := Lib.hid htab.lt
          have HG1 := Lib.hid hb.size
          have HBP := Lib.hid (show bp < wr.heap.size from Nat.lt_of_lt_of_le (Nat.lt_of_lt_of_le hbp hB) hb.size)
          have HEA := Lib.hid (show Ent3 wr (w.heap.size + 1) d va AA na ka ca from ⟨ea0, ea1, ea2⟩)
          have HEB := Lib.hid (show Ent3 wr (w.heap.size + 1) (j + 1 + d) vb AB nb kb cb2 from ⟨eb0, eb1, eb2⟩)
          have HPC := Lib.hid hcp
          have HBG := Lib.hid (show bp < w.heap.size + 1 by omega)
          have HRL := Lib.hid (heap_lt hres)
          have hsb1 : IntKind.i64.wrap ((j : Int) + 1 + (d : Int) - ((j : Int) + 1)) = (d : Int) := by rw [IntWalk.i64_in _ (by omega)]; omega
          have hsb2 : IntKind.i64.wrap ((j : Int) + 1 - 1) = (j : Int) := by rw [IntWalk.i64_in _ (by omega)]; omega
          have hsb3 : IntKind.i64.wrap (j : Int) = (j : Int) := IntWalk.i64_in _ (by omega)
          have hjn : (j : Int) < (n : Int) := by omega
          have htn : ((j : Int) + 1 + (d : Int)).toNat = j + 1 + d := by omega
          have hd1 : (d : Int) < (r : Int) + 1 := by omega
          have hd2 : (j : Int) + 1 + (d : Int) < (r : Int) + 1 := by omega
          clear ea0 ea1 ea2 eb0 eb1 eb2 oa ob hva hca hfla hna' hvb hcb hnb hah htab hres hcp
          go_wp2
          refine wp_region_held_drew (S := (fun wq => Ent3 wq (w.heap.size + 1) d va AA na ka ca ∧ wq.cell? ⟨bp, op + j, none⟩ = some (.int .i64 p))) (by kernel_rfl) ⟨HEA.out, HPC.out⟩ (fun hH0 => ?_)
          refine wpAnyH_take (i := 0) (v := ?_) (ops_at rfl) (by kernel_rfl) (by kernel_rfl) (by kernel_rfl) (fun _ _ _ h => h) (Or.inl ⟨by rfl, ?yp0⟩) (by assumption) ?np0
          case yp0 => (intro wS hSw; (try dsimp only [Ent3] at hSw); go_simp; try rfl)
          try simp only [Act.put, List.setIfInBounds_toArray, List.set_cons_zero, List.set_cons_succ]
          refine wpAnyH_take (i := 1) (v := ?_) (ops_at rfl) (by kernel_rfl) (by kernel_rfl) (by kernel_rfl) (fun _ _ _ h => h) (Or.inl ⟨by rfl, ?yp1⟩) (by assumption) ?np1
          case yp1 => (intro wS hSw; (try dsimp only [Ent3] at hSw); go_simp; try rfl)
          try simp only [Act.put, List.setIfInBounds_toArray, List.set_cons_zero, List.set_cons_succ]
          refine wpAnyH_take (i := 2) (v := ?_) (ops_at rfl) (by kernel_rfl) (by kernel_rfl) (by kernel_rfl) (fun _ _ _ h => h) (Or.inl ⟨by rfl, ?yp2⟩) (by assumption) ?np2
          case yp2 => (intro wS hSw; (try dsimp only [Ent3] at hSw); go_simp; try rfl)
          try simp only [Act.put, List.setIfInBounds_toArray, List.set_cons_zero, List.set_cons_succ]
          refine wpAnyH_take (i := 3) (v := ?_) (ops_at rfl) (by kernel_rfl) (by kernel_rfl) (by kernel_rfl) (fun _ _ _ h => h) (Or.inl ⟨by rfl, ?yp3⟩) (by assumption) ?np3
          case yp3 => (intro wS hSw; (try dsimp only [Ent3] at hSw); go_simp; try rfl)
          try simp only [Act.put, List.setIfInBounds_toArray, List.set_cons_zero, List.set_cons_succ]
          refine wpAnyH_take (i := 4) (v := ?_) (ops_at rfl) (by kernel_rfl) (by kernel_rfl) (by kernel_rfl) (fun _ _ _ h => h) (Or.inl ⟨by rfl, ?yp4⟩) (by assumption) ?np4
          case yp4 => (intro wS hSw; (try dsimp only [Ent3] at hSw); go_simp; try rfl)
          try simp only [Act.put, List.setIfInBounds_toArray, List.set_cons_zero, List.set_cons_succ]
          refine wpAnyH_take (i := 5) (v := ?_) (ops_at rfl) (by kernel_rfl) (by kernel_rfl) (by kernel_rfl) (fun _ _ _ h => h) (Or.inl ⟨by rfl, ?yp5⟩) (by assumption) ?np5
          case yp5 => (intro wS hSw; (try dsimp only [Ent3] at hSw); go_simp; try rfl)
          try simp only [Act.put, List.setIfInBounds_toArray, List.set_cons_zero, List.set_cons_succ]
          refine wpAnyH_take (i := 6) (v := ?_) (ops_at rfl) (by kernel_rfl) (by kernel_rfl) (by kernel_rfl) (fun _ _ _ h => h) (Or.inl ⟨by rfl, ?yp6⟩) (by assumption) ?np6
          case yp6 => (intro wS hSw; (try dsimp only [Ent3] at hSw); go_simp; try rfl)
          try simp only [Act.put, List.setIfInBounds_toArray, List.set_cons_zero, List.set_cons_succ]
          refine wpAnyH_take (i := 7) (v := ?_) (ops_at rfl) (by kernel_rfl) (by kernel_rfl) (by kernel_rfl) (fun _ _ _ h => h) (Or.inl ⟨by rfl, ?yp7⟩) (by assumption) ?np7
          case yp7 => (intro wS hSw; (try dsimp only [Ent3] at hSw); go_simp; try rfl)
          try simp only [Act.put, List.setIfInBounds_toArray, List.set_cons_zero, List.set_cons_succ]
          refine wpAnyH_take (i := 8) (v := ?_) (ops_at rfl) (by kernel_rfl) (by kernel_rfl) (by kernel_rfl) (fun _ _ _ h => h) (Or.inl ⟨by rfl, ?yp8⟩) (by assumption) ?np8
          case yp8 => (intro wS hSw; (try dsimp only [Ent3] at hSw); go_simp; try rfl)
          try simp only [Act.put, List.setIfInBounds_toArray, List.set_cons_zero, List.set_cons_succ]
          refine wpAnyH_take (i := 9) (v := ?_) (ops_at rfl) (by kernel_rfl) (by kernel_rfl) (by kernel_rfl) (fun _ _ _ h => h) (Or.inl ⟨by rfl, ?yp9⟩) (by assumption) ?np9
          case yp9 => (intro wS hSw; (try dsimp only [Ent3] at hSw); go_simp; try rfl)
          try simp only [Act.put, List.setIfInBounds_toArray, List.set_cons_zero, List.set_cons_succ]
          refine wpAnyH_take (i := 10) (v := ?_) (ops_at rfl) (by kernel_rfl) (by kernel_rfl) (by kernel_rfl) (fun _ _ _ h => h) (Or.inl ⟨by rfl, ?yp10⟩) (by assumption) ?np10
          case yp10 => (intro wS hSw; (try dsimp only [Ent3] at hSw); go_simp; try rfl)
          try simp only [Act.put, List.setIfInBounds_toArray, List.set_cons_zero, List.set_cons_succ]
          refine wpAnyH_take (i := 11) (v := ?_) (ops_at rfl) (by kernel_rfl) (by kernel_rfl) (by kernel_rfl) (fun _ _ _ h => h) (Or.inl ⟨by rfl, ?yp11⟩) (by assumption) ?np11
          case yp11 => (intro wS hSw; (try dsimp only [Ent3] at hSw); go_simp; try rfl)
          try simp only [Act.put, List.setIfInBounds_toArray, List.set_cons_zero, List.set_cons_succ]
          refine wpAnyH_take (i := 12) (v := ?_) (ops_at rfl) (by kernel_rfl) (by kernel_rfl) (by kernel_rfl) (fun _ _ _ h => h) (Or.inl ⟨by rfl, ?yp12⟩) (by assumption) ?np12
          case yp12 => (intro wS hSw; (try dsimp only [Ent3] at hSw); go_simp; try rfl)
          try simp only [Act.put, List.setIfInBounds_toArray, List.set_cons_zero, List.set_cons_succ]
          refine wpAnyH_take (i := 13) (v := ?_) (ops_at rfl) (by kernel_rfl) (by kernel_rfl) (by kernel_rfl) (fun _ _ _ h => h) (Or.inl ⟨by rfl, ?yp13⟩) (by assumption) ?np13
          case yp13 => (intro wS hSw; (try dsimp only [Ent3] at hSw); go_simp; try rfl)
          try simp only [Act.put, List.setIfInBounds_toArray, List.set_cons_zero, List.set_cons_succ]
          refine wpAnyH_take (i := 15) (v := ?_) (ops_at rfl) (by kernel_rfl) (by kernel_rfl) (by kernel_rfl) (fun _ _ _ h => h) (Or.inl ⟨by rfl, ?yp15⟩) (by assumption) ?np15
          case yp15 => (intro wS hSw; (try dsimp only [Ent3] at hSw); go_simp; try rfl)
          try simp only [Act.put, List.setIfInBounds_toArray, List.set_cons_zero, List.set_cons_succ]
          refine wpAnyH_take (i := 16) (v := ?_) (ops_at rfl) (by kernel_rfl) (by kernel_rfl) (by kernel_rfl) (fun _ _ _ h => h) (Or.inl ⟨by rfl, ?yp16⟩) (by assumption) ?np16
          case yp16 => (intro wS hSw; (try dsimp only [Ent3] at hSw); go_simp; try rfl)
          try simp only [Act.put, List.setIfInBounds_toArray, List.set_cons_zero, List.set_cons_succ]
          refine wpAnyH_take (i := 17) (v := ?_) (ops_at rfl) (by kernel_rfl) (by kernel_rfl) (by kernel_rfl) (fun _ _ _ h => h) (Or.inl ⟨by rfl, ?yp17⟩) (by assumption) ?np17
          case yp17 => (intro wS hSw; (try dsimp only [Ent3] at hSw); go_simp; try rfl)
          try simp only [Act.put, List.setIfInBounds_toArray, List.set_cons_zero, List.set_cons_succ]
          refine wpAnyH_ready (rs := [14, 18]) (by kernel_rfl) (by simp) ?_
          refine AllReadyH.cons (ops_at rfl) (fun K hK => ?_) (AllReadyH.cons (ops_at rfl) (fun K hK => ?_) AllReadyH.nil)
          · go_simp
            refine (with_any va ca p (j + 1) na ka AA fla _ _ wr.drew (HSA.out.keep (w' := wr.drew) fun _ _ _ => rfl) (Nat.le_refl _) HLA.out hna hvab hpb).mono ?_
            rintro e w1 ⟨A1, c1, rfl, hown1', hb1'⟩
            have hb1 : Below wr.heap.size wr w1 := ⟨hb1'.os, hb1'.tape, hb1'.output, hb1'.size, hb1'.block⟩
            have ha1 := HEA.out.below hb1 HG0.out
            have hp1 := (hb1.cell (p := ⟨bp, op + j, none⟩) HBP.out).trans HPC.out
            have hown1 : Own w1 wr.heap.size w1.heap.size A1 (((j + 1 : Nat) : Int) :: fla) := hown1'
            refine hK.out _ _ ⟨ha1, hp1⟩ (fun hHb => ?_)
            clear hK K hown1' hb1'
            obtain ⟨t0, t1, t2⟩ := HEB.out.below hb1 HG0.out
            refine wpAnyH_ready (rs := [18]) (by kernel_rfl) (by simp) ?_
            refine AllReadyH.cons (ops_at rfl) (fun K hK => ?_) AllReadyH.nil
            go_simp
            refine hK.out _ _ ⟨ha1, hp1⟩ (fun hHe => ?_)
            clear hK K t0 t1 t2
            refine wpAnyH_ready (rs := [19]) (by kernel_rfl) (by simp) ?_
            refine AllReadyH.cons (ops_at rfl) (fun K hK => ?_) AllReadyH.nil
            go_simp
            refine (and_any t x y (va + p) ca vb cb2 A1 AB _ c1 nb kb _ HAH.out hcsum).mono ?_
            rintro e w2 ⟨X, xn, xk, rfl, hX, hb2'⟩
            have hb2 : Below w1.heap.size w1 w2 := ⟨hb2'.os, hb2'.tape, hb2'.output, hb2'.size, hb2'.block⟩
            have hbw2 : Below wr.heap.size wr w2 := hb1.trans (hb2.mono hb1.size)
            have ha2 := HEA.out.below hbw2 HG0.out
            have hbb2 := HEB.out.below hbw2 HG0.out
            have hp2 := (hbw2.cell (p := ⟨bp, op + j, none⟩) HBP.out).trans HPC.out
            have hownX : Own w2 (w.heap.size + 2) w2.heap.size X (cutE p (j + 1) T (j + 1 + d)).first ∧ (cutE p (j + 1) T (j + 1 + d)).first.length = xn := by
              rcases hX with ⟨ht, rfl, rfl, rfl⟩ | ⟨ht, rfl, rfl, rfl⟩
              · rw [HF1.out ht]; exact ⟨(HOB.out.below hbw2 (Nat.le_refl _)).more (Nat.le_refl _) hbw2.size, HLB.out⟩
              · rw [HF2.out ht]; exact ⟨(hown1.below hb2 (Nat.le_refl _)).more (by have := HG0.out; have := HG1.out; omega) hb2.size, rfl⟩
            have HOX := Lib.hid hownX
            clear hX hown1 hownX hb2'
            refine hK.out _ _ ⟨ha2, hp2⟩ (fun hHc => ?_)
            clear hK K
            refine wpAnyH_take (i := 20) (v := ?_) (ops_at rfl) (by kernel_rfl) (by kernel_rfl) (by kernel_rfl) (fun _ _ _ h => h) (Or.inl ⟨by rfl, ?yqa20⟩) (by assumption) ?nqa20
            case yqa20 => (intro wS hSw; (try dsimp only [Ent3] at hSw); go_simp; try rfl)
            try simp only [Act.put, List.setIfInBounds_toArray, List.set_cons_zero, List.set_cons_succ]
            have htab2 := HTAB.out.below hbw2 (Nat.le_refl _)
            have hst := htab2.set (n := j + 1 + d) hm (cutE p (j + 1) T (j + 1 + d)) (A := X) (c := xk) HOX.out.1 HX1.out HOX.out.2 HX2.out
            rw [← partE_step] at hst
            have HST := Lib.hid hst
            have HSS := Lib.hid (ent_far htab2 (k := d) (m := j + 1 + d) (by omega) ha2 (.int .i64 x) (.slice X xn xk) (.int .i64 y))
            have HPS := Lib.hid (price_far hp2 (g := w.heap.size + 1) (k := (j + 1 + d) * 3) HBG.out (.int .i64 x) (.slice X xn xk) (.int .i64 y))
            have HRS := Lib.hid (set_far3 ((hbw2.block w.heap.size HRL.out).trans HRB.out) (g := w.heap.size + 1) (k := (j + 1 + d) * 3) (Nat.ne_of_lt (Nat.lt_succ_self _)) (.int .i64 x) (.slice X xn xk) (.int .i64 y))
            have HBE := Lib.hid ((((hb.trans (hbw2.mono HG1.out)).setCell (p := ⟨w.heap.size + 1, (j + 1 + d) * 3, none⟩) (Nat.le_succ _) (.int .i64 x)).setCell (p := ⟨w.heap.size + 1, (j + 1 + d) * 3 + 1, none⟩) (Nat.le_succ _) (.slice X xn xk)).setCell (p := ⟨w.heap.size + 1, (j + 1 + d) * 3 + 2, none⟩) (Nat.le_succ _) (.int .i64 y))
            have hm0 := htab2.frozen ((j + 1 + d) * 3)
            have hm1' := htab2.frozen ((j + 1 + d) * 3 + 1)
            have hm2' := htab2.frozen ((j + 1 + d) * 3 + 2)
            obtain ⟨t0, t1, t2⟩ := id hbb2
            clear hst htab2
            refine wpAnyH_ready (rs := [21]) (by kernel_rfl) (by simp) ?_
            refine AllReadyH.cons (ops_at rfl) (fun K hK => ?_) AllReadyH.nil
            go_simp
            refine hK.out _ _ ⟨HSS.out, HPS.out⟩ (fun hHd => ?_)
            clear hK K
            refine wpAnyH_done (by kernel_rfl) ?_ _
            clear hm0 hm1' hm2' t0 t1 t2
            go_wp2
            go_roundw
            case rel => (first | exact ⟨j + 1 + d + 1, by omega, by omega, by go_num, HBE.out, HST.out, HRS.out⟩ | ((repeat apply Exists.intro); refine ⟨?_, rfl⟩; exact ⟨j + 1 + d + 1, by omega, by omega, by go_num, HBE.out, HST.out, HRS.out⟩))
            case measure => simp [intOf]; omega
          · obtain ⟨t0, t1, t2⟩ := HEB.out
            go_simp
            refine hK.out _ _ hH0 (fun hHe => ?_)
            clear hK K t0 t1 t2
            refine wpAnyH_ready (rs := [14]) (by kernel_rfl) (by simp) ?_
            refine AllReadyH.cons (ops_at rfl) (fun K hK => ?_) AllReadyH.nil
            go_simp
            refine (with_any va ca p (j + 1) na ka AA fla _ _ wr.drew (HSA.out.keep (w' := wr.drew) fun _ _ _ => rfl) (Nat.le_refl _) HLA.out hna hvab hpb).mono ?_
            rintro e w1 ⟨A1, c1, rfl, hown1', hb1'⟩
            have hb1 : Below wr.heap.size wr w1 := ⟨hb1'.os, hb1'.tape, hb1'.output, hb1'.size, hb1'.block⟩
            have ha1 := HEA.out.below hb1 HG0.out
            have hp1 := (hb1.cell (p := ⟨bp, op + j, none⟩) HBP.out).trans HPC.out
            have hown1 : Own w1 wr.heap.size w1.heap.size A1 (((j + 1 : Nat) : Int) :: fla) := hown1'
            refine hK.out _ _ ⟨ha1, hp1⟩ (fun hHb => ?_)
            clear hK K hown1' hb1'
            refine wpAnyH_ready (rs := [19]) (by kernel_rfl) (by simp) ?_
            refine AllReadyH.cons (ops_at rfl) (fun K hK => ?_) AllReadyH.nil
            go_simp
            refine (and_any t x y (va + p) ca vb cb2 A1 AB _ c1 nb kb _ HAH.out hcsum).mono ?_
            rintro e w2 ⟨X, xn, xk, rfl, hX, hb2'⟩
            have hb2 : Below w1.heap.size w1 w2 := ⟨hb2'.os, hb2'.tape, hb2'.output, hb2'.size, hb2'.block⟩
            have hbw2 : Below wr.heap.size wr w2 := hb1.trans (hb2.mono hb1.size)
            have ha2 := HEA.out.below hbw2 HG0.out
            have hbb2 := HEB.out.below hbw2 HG0.out
            have hp2 := (hbw2.cell (p := ⟨bp, op + j, none⟩) HBP.out).trans HPC.out
            have hownX : Own w2 (w.heap.size + 2) w2.heap.size X (cutE p (j + 1) T (j + 1 + d)).first ∧ (cutE p (j + 1) T (j + 1 + d)).first.length = xn := by
              rcases hX with ⟨ht, rfl, rfl, rfl⟩ | ⟨ht, rfl, rfl, rfl⟩
              · rw [HF1.out ht]; exact ⟨(HOB.out.below hbw2 (Nat.le_refl _)).more (Nat.le_refl _) hbw2.size, HLB.out⟩
              · rw [HF2.out ht]; exact ⟨(hown1.below hb2 (Nat.le_refl _)).more (by have := HG0.out; have := HG1.out; omega) hb2.size, rfl⟩
            have HOX := Lib.hid hownX
            clear hX hown1 hownX hb2'
            refine hK.out _ _ ⟨ha2, hp2⟩ (fun hHc => ?_)
            clear hK K
            refine wpAnyH_take (i := 20) (v := ?_) (ops_at rfl) (by kernel_rfl) (by kernel_rfl) (by kernel_rfl) (fun _ _ _ h => h) (Or.inl ⟨by rfl, ?yqb20⟩) (by assumption) ?nqb20
            case yqb20 => (intro wS hSw; (try dsimp only [Ent3] at hSw); go_simp; try rfl)
            try simp only [Act.put, List.setIfInBounds_toArray, List.set_cons_zero, List.set_cons_succ]
            have htab2 := HTAB.out.below hbw2 (Nat.le_refl _)
            have hst := htab2.set (n := j + 1 + d) hm (cutE p (j + 1) T (j + 1 + d)) (A := X) (c := xk) HOX.out.1 HX1.out HOX.out.2 HX2.out
            rw [← partE_step] at hst
            have HST := Lib.hid hst
            have HSS := Lib.hid (ent_far htab2 (k := d) (m := j + 1 + d) (by omega) ha2 (.int .i64 x) (.slice X xn xk) (.int .i64 y))
            have HPS := Lib.hid (price_far hp2 (g := w.heap.size + 1) (k := (j + 1 + d) * 3) HBG.out (.int .i64 x) (.slice X xn xk) (.int .i64 y))
            have HRS := Lib.hid (set_far3 ((hbw2.block w.heap.size HRL.out).trans HRB.out) (g := w.heap.size + 1) (k := (j + 1 + d) * 3) (Nat.ne_of_lt (Nat.lt_succ_self _)) (.int .i64 x) (.slice X xn xk) (.int .i64 y))
            have HBE := Lib.hid ((((hb.trans (hbw2.mono HG1.out)).setCell (p := ⟨w.heap.size + 1, (j + 1 + d) * 3, none⟩) (Nat.le_succ _) (.int .i64 x)).setCell (p := ⟨w.heap.size + 1, (j + 1 + d) * 3 + 1, none⟩) (Nat.le_succ _) (.slice X xn xk)).setCell (p := ⟨w.heap.size + 1, (j + 1 + d) * 3 + 2, none⟩) (Nat.le_succ _) (.int .i64 y))
            have hm0 := htab2.frozen ((j + 1 + d) * 3)
            have hm1' := htab2.frozen ((j + 1 + d) * 3 + 1)
            have hm2' := htab2.frozen ((j + 1 + d) * 3 + 2)
            obtain ⟨t0, t1, t2⟩ := id hbb2
            clear hst htab2
            refine wpAnyH_ready (rs := [21]) (by kernel_rfl) (by simp) ?_
            refine AllReadyH.cons (ops_at rfl) (fun K hK => ?_) AllReadyH.nil
            go_simp
            refine hK.out _ _ ⟨HSS.out, HPS.out⟩ (fun hHd => ?_)
            clear hK K
            refine wpAnyH_done (by kernel_rfl) ?_ _
            clear hm0 hm1' hm2' t0 t1 t2
            go_wp2
            go_roundw
            case rel => (first | exact ⟨j + 1 + d + 1, by omega, by omega, by go_num, HBE.out, HST.out, HRS.out⟩ | ((repeat apply Exists.intro); refine ⟨?_, rfl⟩; exact ⟨j + 1 + d + 1, by omega, by omega, by go_num, HBE.out, HST.out, HRS.out⟩))
            case measure => simp [intOf]; omega
        · have htab' := tab_same htab (fun i hi => partE_less (by omega))
          rw [← HT.out] at htab'
          go_wp2
          go_roundw
          case rel => exact ⟨j, by omega, by go_num, hb, htab', hres⟩
          case measure => (simp [intOf] <;> omega)
    · obtain rfl : k = 0 := by omega
      obtain ⟨AR, kr, e0, e1, e2, oR⟩ := htab.at_ (n := r) (Nat.le_refl r)
      have hw : wz (fromE ps (0 + 1) r) = (fromE ps 1 r).worth := by
        have h := tabE_some HP.out (by rw [HN.out]; exact hn1) r
        have h2 : 0 ≤ (fromE ps 1 r).worth := by
          unfold fromE
          rw [Nat.add_sub_cancel]
          exact h
        unfold wz
        rw [if_neg (by show ¬ (fromE ps 1 r).worth < 0; omega)]
      rw [hw] at e0
      rw [Nat.zero_add] at e1 e2 oR
      obtain ⟨fv, hfv⟩ : ∃ fv, (fromE ps 1 r).worth = fv := ⟨_, rfl⟩
      obtain ⟨fc, hfc⟩ : ∃ fc, (fromE ps 1 r).count = fc := ⟨_, rfl⟩
      obtain ⟨fl, hfl⟩ : ∃ fl, (fromE ps 1 r).first = fl := ⟨_, rfl⟩
      rw [hfv] at e0
      rw [hfc] at e2
      rw [hfl] at e1 oR
      have HFV := Lib.hid hfv
      have HFC := Lib.hid hfc
      have HFL := Lib.hid hfl
      obtain ⟨q0, q1, q2⟩ := Cut3.of hres
      have f0 := frozen_of hres 0
      have f1 := frozen_of hres 1
      have f2 := frozen_of hres 2
      have hr3 := set_self (set_self (set_self hres 0 (.int .i64 fv)) 1 (.slice AR fl.length kr)) 2 (.int .i64 fc)
      obtain ⟨s0, s1, s2⟩ := Cut3.of hr3
      have HOR := Lib.hid oR
      have hz0 : decide ((1 : Int) ≤ 0) = false := rfl
      clear hres htab hw hfv hfc hfl oR hr3
      go_wp2
      refine bodyPost_ret (v := .agg #[.int .i64 fv, .slice AR fl.length kr, .int .i64 fc]) (by simp [results, Try.results79, go_sem, s0, s1, s2]) rfl ?_
      refine ⟨AR, kr, by rw [HFV.out, HFC.out, HFL.out], ?_, below_set3 hb (Nat.le_refl _) _ _ _⟩
      rw [size_set, size_set, size_set, HFL.out]
      exact (own_far HOR.out (show w.heap.size < w.heap.size + 1 + 1 by omega) _ _ _).more (show w.heap.size ≤ w.heap.size + 1 + 1 by omega) (Nat.le_refl _)
end Go.Proofs.Ythlhpddfifpkeab

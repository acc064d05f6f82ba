/-
  The pieces cut out and what is left of the board, by both programs.
  Conditions: the list has at most 1048576 pieces.
-/
import Derived.Test.YtjpejhpilfjheaaBdN2
import Derived.Test.YtjpejhpilfjheaaSomeN
import Derived.Laws.EntriesVeiled
namespace Go.Proofs.Ytjpejhpilfjheaa
set_option linter.unusedVariables false
set_option linter.unusedSimpArgs false
open Go.RowKit

/-- The pieces of each kind, as they are told. -/
def cutT (ps : List (Int × Int × Int)) (tu : Bool) (x y : Int) : List Int := cntL ps tu x.toNat y.toNat
theorem cutT_nat (ps : List (Int × Int × Int)) (tu : Bool) (a b : Nat) : cutT ps tu (a : Int) (b : Int) = cntL ps tu a b := rfl
theorem cutT_small {ps : List (Int × Int × Int)} {tu : Bool} {x y : Int} (h : askP x y ps = true) : (cutT ps tu x y).length ≤ 1048576 := by
  obtain ⟨h1, h2⟩ := askP_true.1 h
  obtain ⟨a, b, rfl, rfl, ⟨a1, a2⟩, b1, b2⟩ := bdB_nat h1
  rw [cutT_nat, (cntL_ok ps tu a1 b1).1]
  have := (goodPc_at h2).2.1
  omega
/-- What is left of the board. -/
def wasN (ps : List (Int × Int × Int)) (tu : Bool) (x y : Int) : Int := if askP x y ps = true then ((x.toNat * y.toNat : Nat) : Int) - usedK ps (cntL ps tu x.toNat y.toNat) ps.length else 0
theorem wasN_no {ps : List (Int × Int × Int)} {tu : Bool} {x y : Int} (h : askP x y ps = false) : wasN ps tu x y = 0 := by rw [wasN, h]; rfl
theorem wasN_yes {ps : List (Int × Int × Int)} {tu : Bool} {a b : Nat} (h : askP (a : Int) (b : Int) ps = true) : wasN ps tu (a : Int) (b : Int) = ((a * b : Nat) : Int) - usedK ps (cntL ps tu a b) ps.length := by rw [wasN, if_pos h]; rfl
theorem mul_bd {a b A B : Int} (h1 : 0 ≤ a) (h2 : a ≤ A) (h3 : 0 ≤ b) (h4 : b ≤ B) : 0 ≤ a * b ∧ a * b ≤ A * B := ⟨Int.mul_nonneg h1 h3, Int.mul_le_mul h2 h4 h3 (by omega)⟩
theorem usedK_next {ps : List (Int × Int × Int)} {cs : List Int} {k : Nat} {x y z u : Int} (hp : ps[k]? = some (x, y, z)) (hu : cs[k]? = some u) : usedK ps cs (k + 1) = usedK ps cs k + u * x * y := by
  rw [usedK]
  simp only [List.getD, hp, hu, Option.getD_some]
  rw [Int.mul_assoc]
theorem usedK_bd {ps : List (Int × Int × Int)} {cs : List Int} (hg : goodPc ps = true) (hc : CntOk ps.length 576 cs) : ∀ k, k ≤ ps.length → 0 ≤ usedK ps cs k ∧ usedK ps cs k ≤ 331776 * (k : Int) := by
  intro k
  induction k with
  | zero => intro _; simp [usedK]
  | succ k ih =>
    intro hk
    have h1 := ih (by omega)
    have hp : ps[k]? = some ps[k] := List.getElem?_eq_getElem (by omega)
    have hu : cs[k]? = some (cs[k]'(by rw [hc.1]; omega)) := List.getElem?_eq_getElem (by rw [hc.1]; omega)
    have hpc := pcB_true.1 ((goodPc_at hg).2.2 _ (List.getElem_mem (show k < ps.length by omega)))
    have hub := hc.2 _ (List.mem_of_getElem? hu)
    rw [usedK_next (x := ps[k].1) (y := ps[k].2.1) (z := ps[k].2.2) hp hu]
    have h2 := mul_bd hub.1 hub.2 (show 0 ≤ ps[k].1 by omega) hpc.1.1.2
    have h3 := mul_bd h2.1 h2.2 (show 0 ≤ ps[k].2.1 by omega) hpc.1.2.2
    push_cast
    omega
theorem cnt_576 {ps : List (Int × Int × Int)} {tu : Bool} {a b : Nat} (a1 : 1 ≤ a) (a2 : a ≤ 24) (b1 : 1 ≤ b) (b2 : b ≤ 24) : CntOk ps.length 576 (cntL ps tu a b) := by
  have h := cntL_ok ps tu a1 b1
  have hab : a * b ≤ 24 * 24 := Nat.mul_le_mul a2 b2
  exact ⟨h.1, fun k hk => by have := h.2 k hk; omega⟩
theorem prod_1000 {a b : Nat} (a2 : a ≤ 24) (b2 : b ≤ 24) : (0 : Int) + ((a * b : Nat) : Int) ≤ 1000 := by have hab : a * b ≤ 24 * 24 := Nat.mul_le_mul a2 b2; omega

set_option maxRecDepth 100000 in
set_option maxHeartbeats 1000000 in
theorem bdCounts_any (a b np cp0 lo hi : Nat) (C0 : Option Addr) (ps : List (Int × Int × Int)) (tu : Bool) (w : World) (HN : Hid (ps.length = np)) (HG : Hid (goodPc ps = true)) (a1 : 1 ≤ a) (a2 : a ≤ 24) (b1 : 1 ≤ b) (b2 : b ≤ 24) (HS : Hid (Seg w lo hi C0 (flat3 ps))) (hB : hi ≤ w.heap.size) :
    Calls Try.prog 36 #[.int .i64 (a : Int), .int .i64 (b : Int), .slice C0 np cp0, .bool tu] w fun e w' => e = .returned (.slice (some ⟨w.heap.size, 0, none⟩) np np) ∧ Arr w' w.heap.size 3 (cntL ps tu a b) ∧ Below w.heap.size w w' := by
  have hn4 : np ≤ 4 := by rw [← HN.out]; exact (goodPc_at HG.out).2.1
  have hmk : ∀ W : World, (Instr.makeSlice 31 (.int .i64 (np : Int)) (.int .i64 (np : Int))).run Try.prog W = .ok (.slice (some ⟨W.heap.size, 0, none⟩) np np) (W.alloc (.cells (madeCells #[.int .i64 0] np) 3)) := fun W => run_make_row' 31 3 (.int .i64 0) 8 Try.underlying31 int_info rfl .i64 .i64 np (by omega) (by omega) W
  have HA0 := Lib.hid (show Arr (w.alloc (.cells (madeCells #[.int .i64 0] np) 3)) w.heap.size 3 (List.replicate ps.length 0) by rw [HN.out]; exact arr_new w _ np)
  have HB0 := Lib.hid ((Below.refl w.heap.size w).alloc (Nat.le_refl _) (.cells (madeCells #[.int .i64 0] np) 3))
  obtain ⟨W0, hW0⟩ : ∃ W0, w.alloc (.cells (madeCells #[.int .i64 0] np) 3) = W0 := ⟨_, rfl⟩
  have hz0 : W0.heap.size = w.heap.size + 1 := by rw [← hW0]; simp
  rw [hW0] at HA0 HB0
  have HW0 := Lib.hid hW0
  clear hW0
  have hz0' : w.heap.size + 1 ≤ W0.heap.size := by omega
  clear hz0
  go_enter Try.func36, Try.ntmps36
  go_wp2_with fail
  rw [HW0.out]
  refine (bdValues_any a b C0 np cp0 ps lo hi tu W0 a1 a2 b1 b2 HN hn4 (Lib.hid (goodPc_vals HG.out)) (Lib.hid (HS.out.below HB0.out hB)) (by omega)).mono ?_
  rintro e w2 ⟨F, rfl, ht, hb⟩
  have HB2 := Lib.hid (HB0.out.trans (hb.mono (by omega)))
  have HT := Lib.hid ht
  have HA2 := Lib.hid (HA0.out.keep (hb.block _ (by omega)))
  have hz2 := hb.size
  clear ht hb
  go_wp2_with fail
  refine (bdCount_any a b F w.heap.size 3 np cp0 lo hi W0.heap.size C0 ps tu HN HG a2 b2 hB (by omega) (a + b) a b _ 0 w2 (Nat.le_refl _) a1 (Nat.le_refl _) b1 (Nat.le_refl _) (by omega) (prod_1000 a2 b2) (Lib.hid (cnt_zero _)) (Lib.hid (HS.out.below HB2.out hB)) HT HA2).mono ?_
  rintro e w3 ⟨rfl, ha3, ho3⟩
  have HA3 := Lib.hid ha3
  have HB3 := Lib.hid (HB2.out.trans (ho3.below (B := w.heap.size) (by omega) (fun k hk => by have : k = w.heap.size := hk; omega)))
  clear ha3 ho3
  go_wp2
  go_ret
  exact ⟨rfl, HA3.out, HB3.out⟩

set_option maxRecDepth 100000 in
set_option maxHeartbeats 1000000 in
theorem spec_PiecesCut (x y : Int) (C0 : Option Addr) (np cp0 : Nat) (ps : List (Int × Int × Int)) (lo hi : Nat) (tu : Bool) (w : World) (hn : ps.length = np) (hlen : np ≤ 1048576) (hs : Seg w lo hi C0 (flat3 ps)) (hB : hi ≤ w.heap.size) (q : Bool) (hq : askP x y ps = q) :
    Calls Try.prog 14 #[.int .i64 x, .int .i64 y, .slice C0 np cp0, .bool tu] w (RetL q (someN q (cutT ps tu x y)) w) := by
  have HA := Lib.hid (bdAsked_any x y C0 np cp0 ps lo hi w hn hlen hs hB q hq)
  cases q
  · clear hn hs hq
    go_enter Try.func14, Try.ntmps14
    go_wp2_with fail
    refine HA.out.mono ?_
    rintro e w1 ⟨rfl, hb1⟩
    go_wp2
    go_ret2
    exact ⟨none, 0, 0, rfl, rfl, .inl rfl, hb1⟩
  · obtain ⟨h1, h2⟩ := askP_true.1 hq
    obtain ⟨a, b, rfl, rfl, ⟨a1, a2⟩, b1, b2⟩ := bdB_nat h1
    have HN := Lib.hid hn
    have HS := Lib.hid hs
    have HG := Lib.hid h2
    clear hq hn hs h1 h2
    go_enter Try.func14, Try.ntmps14
    go_wp2_with fail
    refine HA.out.mono ?_
    rintro e w1 ⟨rfl, hb1⟩
    have HB1 := Lib.hid hb1
    have hz1 := hb1.size
    clear hb1
    go_wp2_with fail
    refine (bdCounts_any a b np cp0 lo hi C0 ps tu w1 HN HG a1 a2 b1 b2 (Lib.hid (HS.out.below HB1.out hB)) (by omega)).mono ?_
    rintro e w2 ⟨rfl, ha2, hb2⟩
    have HB2 := Lib.hid (HB1.out.trans (hb2.mono hz1))
    have HA2 := Lib.hid ha2
    clear ha2 hb2
    go_wp2
    go_ret2
    exact ⟨_, _, _, rfl, by rw [someN, if_pos rfl, cutT_nat, (cntL_ok ps tu a1 b1).1]; exact HN.out, by rw [someN, if_pos rfl, cutT_nat]; exact HA2.out.own hz1 HA2.out.lt, HB2.out⟩

set_option maxRecDepth 100000 in
set_option maxHeartbeats 2000000 in
theorem spec_WasteOf (x y : Int) (C0 : Option Addr) (np cp0 : Nat) (ps : List (Int × Int × Int)) (lo hi : Nat) (tu : Bool) (w : World) (hn : ps.length = np) (hlen : np ≤ 1048576) (hs : Seg w lo hi C0 (flat3 ps)) (hB : hi ≤ w.heap.size) (q : Bool) (hq : askP x y ps = q) (v : Int) (hv : wasN ps tu x y = v) :
    Calls Try.prog 22 #[.int .i64 x, .int .i64 y, .slice C0 np cp0, .bool tu] w (RetI v q w) := by
  have HA := Lib.hid (bdAsked_any x y C0 np cp0 ps lo hi w hn hlen hs hB q hq)
  cases q
  · obtain rfl : v = 0 := by rw [← hv]; exact wasN_no hq
    clear hv hn hs hq
    go_enter Try.func22, Try.ntmps22
    go_wp2_with fail
    refine HA.out.mono ?_
    rintro e w1 ⟨rfl, hb1⟩
    go_wp2
    go_ret2
    exact ⟨rfl, hb1⟩
  · obtain ⟨h1, h2⟩ := askP_true.1 hq
    obtain ⟨a, b, rfl, rfl, ⟨a1, a2⟩, b1, b2⟩ := bdB_nat h1
    have hab : a * b ≤ 24 * 24 := Nat.mul_le_mul a2 b2
    have hva : ((a * b : Nat) : Int) - usedK ps (cntL ps tu a b) ps.length = v := by rw [← hv]; exact (wasN_yes hq).symm
    have HCO := Lib.hid (cnt_576 (ps := ps) (tu := tu) a1 a2 b1 b2)
    obtain ⟨cs, hcs⟩ : ∃ cs, cntL ps tu a b = cs := ⟨_, rfl⟩
    rw [hcs] at hva HCO
    obtain ⟨ar, har⟩ : ∃ ar : Nat, a * b = ar := ⟨_, rfl⟩
    have hmul : (a : Int) * (b : Int) = (ar : Int) := by rw [← har]; push_cast; rfl
    rw [har] at hab hva
    have hwm : IntKind.i64.wrap (ar : Int) = (ar : Int) := by rw [IntKind.wrap_i64]; omega
    have hn4 := (goodPc_at h2).2.1
    have HN := Lib.hid hn
    have HS := Lib.hid hs
    have HV := Lib.hid hva
    have HG := Lib.hid h2
    have HCS := Lib.hid hcs
    have hnp : np ≤ 4 := by omega
    clear hq hv hva hn hs h1 h2 har hcs hn4
    go_enter Try.func22, Try.ntmps22
    go_wp2_with fail
    refine HA.out.mono ?_
    rintro e w1 ⟨rfl, hb1⟩
    have HB1 := Lib.hid hb1
    have hz1 := hb1.size
    clear hb1
    go_wp2_with fail
    refine (bdCounts_any a b np cp0 lo hi C0 ps tu w1 HN HG a1 a2 b1 b2 (Lib.hid (HS.out.below HB1.out hB)) (by omega)).mono ?_
    rw [HCS.out]
    rintro e w2 ⟨rfl, ha2, hb2⟩
    have HB2 := Lib.hid (HB1.out.trans (hb2.mono hz1))
    have HA2 := Lib.hid ha2
    clear ha2 hb2
    go_wp2
    go_loopw [10, 11, 12, 27] (fun s _ _ i wr => ∃ k : Nat, k ≤ np ∧ i = .int .i64 (k : Int) ∧ s = .int .i64 ((ar : Int) - usedK ps cs k) ∧ Below w.heap.size w wr ∧ Arr wr w1.heap.size 3 cs) (fun _ _ _ i _ => np - (intOf i).toNat)
    case atStart => exact ⟨0, Nat.zero_le _, rfl, by simp [usedK], HB2.out, HA2.out⟩
    case round =>
      obtain ⟨k, hk, rfl, rfl, hb, ha⟩ := hrel
      have HB := Lib.hid hb
      have HAr := Lib.hid ha
      have hsz := hb.size
      clear hb ha
      have hub0 := usedK_bd HG.out HCO.out k (by rw [HN.out]; exact hk)
      by_cases hlt : k < np
      · have hlt' : (k : Int) < (np : Int) := by omega
        obtain ⟨b3, o3, x, y, z, rfl, _, _, hx, p0, p1, p2⟩ := (HS.out.below HB.out hB).tri (k := k) (by rw [HN.out]; exact hlt)
        obtain ⟨u, hu, hcu⟩ := HAr.out.at_ (k := k) (by rw [HCO.out.1, HN.out]; exact hlt)
        have hpc := pcB_true.1 ((goodPc_at HG.out).2.2 _ (List.mem_of_getElem? hx))
        simp only [] at hpc
        have hub := HCO.out.2 _ (List.mem_of_getElem? hu)
        have h2 := mul_bd hub.1 hub.2 (show 0 ≤ x by omega) hpc.1.1.2
        have h3 := mul_bd h2.1 h2.2 (show 0 ≤ y by omega) hpc.1.2.2
        have HNX := Lib.hid (usedK_next hx hu)
        obtain ⟨s, hs⟩ : ∃ s, usedK ps cs k = s := ⟨_, rfl⟩
        obtain ⟨m1, hm1⟩ : ∃ m1, u * x = m1 := ⟨_, rfl⟩
        obtain ⟨m2, hm2⟩ : ∃ m2, m1 * y = m2 := ⟨_, rfl⟩
        rw [hs, hm1, hm2] at HNX
        rw [hm1] at h2 h3
        rw [hm2] at h3
        rw [hs] at hub0
        rw [hs]
        have hw1 : IntKind.i64.wrap m1 = m1 := by rw [IntKind.wrap_i64]; omega
        have hw2 : IntKind.i64.wrap m2 = m2 := by rw [IntKind.wrap_i64]; omega
        have hw3 : IntKind.i64.wrap ((ar : Int) - s - m2) = (ar : Int) - s - m2 := by rw [IntKind.wrap_i64]; omega
        clear hx hu hs
        go_wp2
        go_quiet (fail)
        go_wp2
        go_roundw
        case rel =>
          refine ⟨k + 1, by omega, by go_num, ?_, below_drewN HB.out _, HAr.out.keep rfl⟩
          rw [HNX.out]
          congr 1
          omega
        case measure => simp [intOf]; omega
      · obtain rfl : k = np := by omega
        have HRES := Lib.hid (show (ar : Int) - usedK ps cs k = v by rw [← HV.out, HN.out])
        go_wp2
        go_ret2
        exact ⟨by rw [HRES.out]; rfl, HB.out⟩
set_option maxRecDepth 100000 in
set_option maxHeartbeats 1000000 in
theorem cutOut_any (a b X B0 np cp0 lo hi : Nat) (C0 : Option Addr) (ps : List (Int × Int × Int)) (tu : Bool) (w : World) (HN : Hid (ps.length = np)) (HG : Hid (goodPc ps = true)) (a1 : 1 ≤ a) (a2 : a ≤ 24) (b1 : 1 ≤ b) (b2 : b ≤ 24) (HS : Hid (Seg w lo hi C0 (flat3 ps))) (hB : hi ≤ w.heap.size)
    (HW : Hid (Worth w B0 X (valB ps tu) (fun a' b' => 1 ≤ a' ∧ 1 ≤ b' ∧ a' ≤ a ∧ b' ≤ b))) (hB0 : B0 ≤ w.heap.size) :
    Calls Try.prog 38 #[.agg #[.int .i64 (a : Int), .int .i64 (b : Int), .slice C0 np cp0, .bool tu, .func (.func 75) #[] #[.pointer (some ⟨X, 0, none⟩)]]] w fun e w' => ∃ g, e = .returned (.slice (some ⟨g, 0, none⟩) np np) ∧ w.heap.size ≤ g ∧ Arr w' g 3 (cntL ps tu a b) ∧ Below w.heap.size w w' := by
  have hn4 : np ≤ 4 := by rw [← HN.out]; exact (goodPc_at HG.out).2.1
  have hmk : ∀ W : World, (Instr.makeSlice 31 (.int .i64 (np : Int)) (.int .i64 (np : Int))).run Try.prog W = .ok (.slice (some ⟨W.heap.size, 0, none⟩) np np) (W.alloc (.cells (madeCells #[.int .i64 0] np) 3)) := fun W => run_make_row' 31 3 (.int .i64 0) 8 Try.underlying31 int_info rfl .i64 .i64 np (by omega) (by omega) W
  obtain ⟨W1, hW1⟩ : ∃ W1, w.alloc (.cells #[.int .i64 (a : Int), .int .i64 (b : Int), .slice C0 np cp0, .bool tu, .func (.func 75) #[] #[.pointer (some ⟨X, 0, none⟩)]] 59) = W1 := ⟨_, rfl⟩
  have hz1 : W1.heap.size = w.heap.size + 1 := by rw [← hW1]; simp
  have hb1 : Below w.heap.size w W1 := by rw [← hW1]; exact (Below.refl _ _).alloc (Nat.le_refl _) _
  have k0 : W1.heap[w.heap.size]? = some (.cells #[.int .i64 (a : Int), .int .i64 (b : Int), .slice C0 np cp0, .bool tu, .func (.func 75) #[] #[.pointer (some ⟨X, 0, none⟩)]] 59 (0, 0)) := by rw [← hW1]; exact new_at _ _ rfl
  obtain ⟨W2, hW2⟩ : ∃ W2, W1.alloc (.cells (madeCells #[.int .i64 0] np) 3) = W2 := ⟨_, rfl⟩
  have hz2 : W2.heap.size = w.heap.size + 1 + 1 := by rw [← hW2]; simp [hz1]
  have hb2 : Below w.heap.size w W2 := by rw [← hW2]; exact hb1.alloc (by omega) _
  have k1 := (show W2.heap[w.heap.size]? = W1.heap[w.heap.size]? by rw [← hW2]; exact alloc_old W1 (by omega) _).trans k0
  have HA2 := Lib.hid (show Arr W2 (w.heap.size + 1) 3 (List.replicate ps.length 0) by rw [HN.out, ← hW2, ← hz1]; exact arr_new W1 _ np)
  have HB2 := Lib.hid hb2
  have j0 := cell_of k1 0
  have j1 := cell_of k1 1
  have j2 := cell_of k1 2
  have j3 := cell_of k1 3
  have j4 := cell_of k1 4
  have hWW := hW2
  rw [← hW1] at hWW
  rw [← hWW] at j0 j1 j2 j3 j4
  have HWW := Lib.hid hWW
  have hz2' : w.heap.size + 2 ≤ W2.heap.size := by omega
  clear hW1 hb1 hW2 hb2 k0 k1 hz1 hz2 hWW
  go_enter Try.func38, Try.ntmps38
  go_wp2_with fail
  rw [HWW.out]
  clear j0 j1 j2 j3 j4
  refine (count_any a b X B0 (w.heap.size + 1) 3 np cp0 lo hi C0 ps tu HN HG a2 b2 (by omega) (by omega) (a + b) a b _ 0 W2 (Nat.le_refl _) a1 (Nat.le_refl _) b1 (Nat.le_refl _) (by omega) (prod_1000 a2 b2) (Lib.hid (cnt_zero _)) (Lib.hid (HS.out.below HB2.out hB)) (Lib.hid (HW.out.below HB2.out hB0)) HA2).mono ?_
  rintro e w3 ⟨rfl, ha3, ho3⟩
  have HA3 := Lib.hid ha3
  have HB3 := Lib.hid (HB2.out.trans (ho3.below (B := w.heap.size) (by omega) (fun k hk => by have : k = w.heap.size + 1 := hk; omega)))
  clear ha3 ho3
  go_wp2
  go_ret
  exact ⟨w.heap.size + 1, rfl, by omega, HA3.out, HB3.out⟩

set_option maxRecDepth 100000 in
set_option maxHeartbeats 1000000 in
theorem impl_PiecesCut (x y : Int) (C0 : Option Addr) (np cp0 : Nat) (ps : List (Int × Int × Int)) (lo hi : Nat) (tu : Bool) (w : World) (hn : ps.length = np) (hlen : np ≤ 1048576) (hs : Seg w lo hi C0 (flat3 ps)) (hB : hi ≤ w.heap.size) (q : Bool) (hq : askP x y ps = q) :
    Calls Try.prog 16 #[.int .i64 x, .int .i64 y, .slice C0 np cp0, .bool tu] w (RetL q (someN q (cutT ps tu x y)) w) := by
  have HA := Lib.hid (sheetOf_any x y C0 np cp0 ps lo hi tu w hn hlen hs hB q hq)
  cases q
  · clear hn hs hq
    go_enter Try.func16, Try.ntmps16
    go_wp2_with fail
    refine HA.out.mono ?_
    rintro e w1 ⟨hb1, u, rfl, _, hu⟩
    obtain rfl := hu rfl
    have HB1 := Lib.hid hb1
    clear hb1
    go_wp2
    go_ret2
    exact ⟨none, 0, 0, rfl, rfl, .inl rfl, HB1.out.alloc HB1.out.size _⟩
  · obtain ⟨h1, h2⟩ := askP_true.1 hq
    obtain ⟨a, b, rfl, rfl, ⟨a1, a2⟩, b1, b2⟩ := bdB_nat h1
    have HN := Lib.hid hn
    have HS := Lib.hid hs
    have HG := Lib.hid h2
    clear hq hn hs h1 h2
    go_enter Try.func16, Try.ntmps16
    go_wp2_with fail
    refine HA.out.mono ?_
    rintro e w1 ⟨hb1, u, rfl, hu, _⟩
    obtain ⟨X, rfl, hW⟩ := hu rfl
    have HB1 := Lib.hid hb1
    have HW := Lib.hid hW
    have hz1 := hb1.size
    clear hb1 hW hu
    go_wp2_with fail
    refine (cutOut_any a b X w1.heap.size np cp0 lo hi C0 ps tu _ HN HG a1 a2 b1 b2 (Lib.hid (HS.out.below (HB1.out.alloc hz1 _) hB)) (by simp; omega) (Lib.hid ((HW.out.below ((Below.refl _ _).alloc (Nat.le_refl _) _) (Nat.le_refl _)).mono (Nat.le_refl _) (fun a' b' h => ⟨h, rfl⟩))) (by simp)).mono ?_
    rintro e w2 ⟨g, rfl, hg, ha2, hb2⟩
    have HB2 := Lib.hid ((HB1.out.alloc hz1 _).trans (hb2.mono (by simp; omega)))
    have HA2 := Lib.hid ha2
    have hg2 : w.heap.size ≤ g := by simp at hg; omega
    clear ha2 hb2 hg
    go_wp2
    go_ret2
    exact ⟨_, _, _, rfl, by rw [someN, if_pos rfl, cutT_nat, (cntL_ok ps tu a1 b1).1]; exact HN.out, by rw [someN, if_pos rfl, cutT_nat]; exact HA2.out.own hg2 HA2.out.lt, HB2.out⟩

set_option maxRecDepth 100000 in
set_option maxHeartbeats 2000000 in
theorem impl_WasteOf (x y : Int) (C0 : Option Addr) (np cp0 : Nat) (ps : List (Int × Int × Int)) (lo hi : Nat) (tu : Bool) (w : World) (hn : ps.length = np) (hlen : np ≤ 1048576) (hs : Seg w lo hi C0 (flat3 ps)) (hB : hi ≤ w.heap.size) (q : Bool) (hq : askP x y ps = q) (v : Int) (hv : wasN ps tu x y = v) :
    Calls Try.prog 23 #[.int .i64 x, .int .i64 y, .slice C0 np cp0, .bool tu] w (RetI v q w) := by
  have HA := Lib.hid (sheetOf_any x y C0 np cp0 ps lo hi tu w hn hlen hs hB q hq)
  cases q
  · obtain rfl : v = 0 := by rw [← hv]; exact wasN_no hq
    clear hv hn hs hq
    go_enter Try.func23, Try.ntmps23
    go_wp2_with fail
    refine HA.out.mono ?_
    rintro e w1 ⟨hb1, u, rfl, _, hu⟩
    obtain rfl := hu rfl
    have HB1 := Lib.hid hb1
    clear hb1
    go_wp2
    go_ret2
    exact ⟨rfl, HB1.out.alloc HB1.out.size _⟩
  · obtain ⟨h1, h2⟩ := askP_true.1 hq
    obtain ⟨a, b, rfl, rfl, ⟨a1, a2⟩, b1, b2⟩ := bdB_nat h1
    have hab : a * b ≤ 24 * 24 := Nat.mul_le_mul a2 b2
    have hva : ((a * b : Nat) : Int) - usedK ps (cntL ps tu a b) ps.length = v := by rw [← hv]; exact (wasN_yes hq).symm
    have HCO := Lib.hid (cnt_576 (ps := ps) (tu := tu) a1 a2 b1 b2)
    obtain ⟨cs, hcs⟩ : ∃ cs, cntL ps tu a b = cs := ⟨_, rfl⟩
    rw [hcs] at hva HCO
    have hare := fun W => area_any a b a2 b2 W
    obtain ⟨ar, har⟩ : ∃ ar : Nat, a * b = ar := ⟨_, rfl⟩
    rw [har] at hab hva hare
    have HAR := Lib.hid hare
    have hn4 := (goodPc_at h2).2.1
    have HN := Lib.hid hn
    have HS := Lib.hid hs
    have HV := Lib.hid hva
    have HG := Lib.hid h2
    have HCS := Lib.hid hcs
    have hnp : np ≤ 4 := by omega
    clear hq hv hva hn hs h1 h2 har hcs hn4 hare
    go_enter Try.func23, Try.ntmps23
    go_wp2_with fail
    refine HA.out.mono ?_
    rintro e w1 ⟨hb1, u, rfl, hu, _⟩
    obtain ⟨X, rfl, hW⟩ := hu rfl
    obtain ⟨W1, hW1⟩ : ∃ W1, w1.alloc (.cells #[.int .i64 (a : Int), .int .i64 (b : Int), .slice C0 np cp0, .bool tu, .func (.func 75) #[] #[.pointer (some ⟨X, 0, none⟩)]] 59) = W1 := ⟨_, rfl⟩
    have hz0 := hb1.size
    have hbw : Below w1.heap.size w1 W1 := by rw [← hW1]; exact (Below.refl _ _).alloc (Nat.le_refl _) _
    have hB1 : Below w.heap.size w W1 := hb1.trans (hbw.mono hz0)
    have hz1 : w1.heap.size + 1 ≤ W1.heap.size := by rw [← hW1]; simp
    have k0 : W1.heap[w1.heap.size]? = some (.cells #[.int .i64 (a : Int), .int .i64 (b : Int), .slice C0 np cp0, .bool tu, .func (.func 75) #[] #[.pointer (some ⟨X, 0, none⟩)]] 59 (0, 0)) := by rw [← hW1]; exact new_at _ _ rfl
    have j0 := cell_of k0 0
    have j1 := cell_of k0 1
    rw [← hW1] at j0 j1
    have HK0 := Lib.hid k0
    have HB1 := Lib.hid hB1
    have HW := Lib.hid (hW.below hbw (Nat.le_refl _))
    have HW1 := Lib.hid hW1
    clear hb1 hW hu hbw hB1 k0 hW1
    go_wp2_with fail
    rw [HW1.out]
    clear j0 j1
    refine (HAR.out W1).mono ?_
    rintro e w2 ⟨rfl, hb2⟩
    have HB2 := Lib.hid (HB1.out.trans (hb2.mono (by omega)))
    have hz2 := hb2.size
    have m0 := (hb2.block _ (by omega)).trans HK0.out
    have j0 := cell_of m0 0
    have j1 := cell_of m0 1
    have j2 := cell_of m0 2
    have j3 := cell_of m0 3
    have j4 := cell_of m0 4
    have HW2 := Lib.hid ((HW.out.below hb2 (by omega)).mono (Nat.le_refl _) (t' := valB ps tu) (ok' := fun a' b' => 1 ≤ a' ∧ 1 ≤ b' ∧ a' ≤ a ∧ b' ≤ b) (fun a' b' h => ⟨h, rfl⟩))
    clear hb2 m0
    go_wp2_with fail
    refine (cutOut_any a b X w1.heap.size np cp0 lo hi C0 ps tu w2 HN HG a1 a2 b1 b2 (Lib.hid (HS.out.below HB2.out hB)) (by omega) HW2 (by omega)).mono ?_
    rw [HCS.out]
    rintro e w3 ⟨g, rfl, hg, ha3, hb3⟩
    have HB3 := Lib.hid (HB2.out.trans (hb3.mono (by omega)))
    have HA3 := Lib.hid ha3
    clear ha3 hb3 j0 j1 j2 j3 j4
    go_wp2
    go_loopw [12, 13, 14, 31] (fun s _ _ i wr => ∃ k : Nat, k ≤ np ∧ i = .int .i64 (k : Int) ∧ s = .int .i64 ((ar : Int) - usedK ps cs k) ∧ Below w.heap.size w wr ∧ Arr wr g 3 cs) (fun _ _ _ i _ => np - (intOf i).toNat)
    case atStart => exact ⟨0, Nat.zero_le _, rfl, by simp [usedK], HB3.out, HA3.out⟩
    case round =>
      obtain ⟨k, hk, rfl, rfl, hb, ha⟩ := hrel
      have HB := Lib.hid hb
      have HAr := Lib.hid ha
      have hsz := hb.size
      clear hb ha
      have hub0 := usedK_bd HG.out HCO.out k (by rw [HN.out]; exact hk)
      by_cases hlt : k < np
      · have hlt' : (k : Int) < (np : Int) := by omega
        obtain ⟨b3, o3, x, y, z, rfl, _, _, hx, p0, p1, p2⟩ := (HS.out.below HB.out hB).tri (k := k) (by rw [HN.out]; exact hlt)
        obtain ⟨u, hu, hcu⟩ := HAr.out.at_ (k := k) (by rw [HCO.out.1, HN.out]; exact hlt)
        have hpc := pcB_true.1 ((goodPc_at HG.out).2.2 _ (List.mem_of_getElem? hx))
        simp only [] at hpc
        have hub := HCO.out.2 _ (List.mem_of_getElem? hu)
        obtain ⟨xn, rfl⟩ : ∃ xn : Nat, x = (xn : Int) := ⟨x.toNat, by omega⟩
        obtain ⟨yn, rfl⟩ : ∃ yn : Nat, y = (yn : Int) := ⟨y.toNat, by omega⟩
        have h2 := mul_bd hub.1 hub.2 (show (0 : Int) ≤ ((xn * yn : Nat) : Int) from Int.natCast_nonneg _) (show ((xn * yn : Nat) : Int) ≤ 576 by have : xn * yn ≤ 24 * 24 := Nat.mul_le_mul (by omega) (by omega); omega)
        have hnx := usedK_next hx hu
        rw [Int.mul_assoc, ← Int.natCast_mul] at hnx
        have hax := fun W => area_any xn yn (by omega) (by omega) W
        obtain ⟨s, hs⟩ : ∃ s, usedK ps cs k = s := ⟨_, rfl⟩
        obtain ⟨m1, hm1⟩ : ∃ m1, xn * yn = m1 := ⟨_, rfl⟩
        rw [hs, hm1] at hnx
        rw [hm1] at h2 hax
        obtain ⟨m2, hm2⟩ : ∃ m2, u * (m1 : Int) = m2 := ⟨_, rfl⟩
        rw [hm2] at hnx h2
        have HNX := Lib.hid hnx
        have HAX := Lib.hid hax
        rw [hs] at hub0
        rw [hs]
        have hw2 : IntKind.i64.wrap m2 = m2 := by rw [IntKind.wrap_i64]; omega
        have hw3 : IntKind.i64.wrap ((ar : Int) - s - m2) = (ar : Int) - s - m2 := by rw [IntKind.wrap_i64]; omega
        clear hx hu hs hnx hax hm1
        go_wp2_with fail
        refine (boardOf_any _ _ _ wr).mono ?_
        rintro e w4 ⟨rfl, hb4⟩
        have HB4 := Lib.hid (HB.out.trans (hb4.mono hsz))
        have HA4 := Lib.hid (HAr.out.keep (hb4.block g HAr.out.lt))
        have hz4 := HB4.out.size
        clear hb4 p0 p1 p2
        go_wp2_with fail
        refine (HAX.out w4).mono ?_
        rintro e w5 ⟨rfl, hb5⟩
        have HB5 := Lib.hid (HB4.out.trans (hb5.mono hz4))
        have HA5 := Lib.hid (HA4.out.keep (hb5.block g HA4.out.lt))
        clear hb5
        go_wp2
        go_roundw
        case rel =>
          refine ⟨k + 1, by omega, by go_num, ?_, HB5.out, HA5.out⟩
          rw [HNX.out]
          congr 1
          omega
        case measure => simp [intOf]; omega
      · obtain rfl : k = np := by omega
        have HRES := Lib.hid (show (ar : Int) - usedK ps cs k = v by rw [← HV.out, HN.out])
        go_wp2
        go_ret2
        exact ⟨by rw [HRES.out]; rfl, HB.out⟩
end Go.Proofs.Ytjpejhpilfjheaa

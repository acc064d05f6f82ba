/-
  The given program's table of the best cuts.
  Conditions: one to sixty prices from 0 to 1000, a rod of 1 to 60.
-/
import Derived.Test.YthlhpddfifpkeaaCutsF
import Derived.Test.YthlhpddfifpkeaaPrices
import Derived.Test.YthlhpddfifpkeaaInfo
import Derived.Test.YthlhpddfifpkeaaMem
import Derived.IntWalk
import Derived.Deep.QuietTactic
import Derived.BigQuiet
namespace Go.Proofs.Ythlhpddfifpkeaa
set_option linter.unusedVariables false
open Go.RowKit

def initW (k m : Nat) : Int := if 0 < m ∧ m < k then -1 else 0

theorem initW_zero (r : Nat) : List.replicate (r + 1) (0 : Int) = rowOf r (initW 1) := by
  apply List.ext_getElem?
  intro i
  rw [List.getElem?_replicate]
  by_cases h : i < r + 1
  · rw [if_pos h, rowOf_get (by omega)]
    unfold initW
    rw [if_neg (by omega)]
  · rw [if_neg h, List.getElem?_eq_none (by rw [rowOf_length]; omega)]

theorem zeros_row (r : Nat) : List.replicate (r + 1) (0 : Int) = rowOf r (fun _ => 0) := by
  apply List.ext_getElem?
  intro i
  rw [List.getElem?_replicate]
  by_cases h : i < r + 1
  · rw [if_pos h, rowOf_get (by omega)]
  · rw [if_neg h, List.getElem?_eq_none (by rw [rowOf_length]; omega)]

theorem initW_step (r k : Nat) (h : 1 ≤ k) : (rowOf r (initW k)).set k (-1) = rowOf r (initW (k + 1)) := by
  rw [rowOf_set]
  apply rowOf_congr
  intro n _
  unfold initW
  by_cases e : n = k
  · rw [if_pos e, if_pos (by omega)]
  · rw [if_neg e]
    by_cases e2 : 0 < n ∧ n < k
    · rw [if_pos e2, if_pos (by omega)]
    · rw [if_neg e2, if_neg (by omega)]

theorem initW_last (ps : List Int) (r : Nat) : rowOf r (initW (r + 1)) = rowOf r (fun n => (fromE ps (ps.length + 1) n).worth) := by
  apply rowOf_congr
  intro n hn
  unfold initW
  by_cases e : n = 0
  · subst e
    rw [if_neg (by omega), fromE_zero ps (by omega)]
  · rw [if_pos (by omega), fromE_out (by omega) (by omega)]

theorem count_first (ps : List Int) (r : Nat) : (rowOf r (fun _ => 0)).set 0 1 = rowOf r (fun n => (fromE ps (ps.length + 1) n).count) := by
  rw [rowOf_set]
  apply rowOf_congr
  intro n hn
  by_cases e : n = 0
  · subst e
    rw [if_pos rfl, fromE_zero ps (by omega)]
  · rw [if_neg e]
    unfold fromE
    rw [Nat.sub_self]
    unfold tabE
    rw [if_neg e]

/-- The rows of a table. -/
def worthR (r : Nat) (T : Nat → Ent) : List Int := rowOf r (fun n => (T n).worth)
def countR (r : Nat) (T : Nat → Ent) : List Int := rowOf r (fun n => (T n).count)

theorem worthR_get {r k : Nat} {T : Nat → Ent} (h : k ≤ r) : (worthR r T)[k]? = some (T k).worth := rowOf_get h
theorem countR_get {r k : Nat} {T : Nat → Ent} (h : k ≤ r) : (countR r T)[k]? = some (T k).count := rowOf_get h
theorem worthR_set (p : Int) (q r m : Nat) (T : Nat → Ent) : (worthR r (partE p q T m)).set m (cutE p q T m).worth = worthR r (partE p q T (m + 1)) := by
  rw [worthR, rowOf_set, worthR, partE_step]
  apply rowOf_congr
  intro n _
  dsimp only
  by_cases e : n = m
  · rw [if_pos e, if_pos e]
  · rw [if_neg e, if_neg e]
theorem countR_set (p : Int) (q r m : Nat) (T : Nat → Ent) : (countR r (partE p q T m)).set m (cutE p q T m).count = countR r (partE p q T (m + 1)) := by
  rw [countR, rowOf_set, countR, partE_step]
  apply rowOf_congr
  intro n _
  dsimp only
  by_cases e : n = m
  · rw [if_pos e, if_pos e]
  · rw [if_neg e, if_neg e]
theorem worthR_done {p : Int} {q r m : Nat} {T : Nat → Ent} (h : r < m) : worthR r (partE p q T m) = worthR r (cutE p q T) := by
  apply rowOf_congr
  intro n hn
  rw [partE_less (by omega)]
theorem countR_done {p : Int} {q r m : Nat} {T : Nat → Ent} (h : r < m) : countR r (partE p q T m) = countR r (cutE p q T) := by
  apply rowOf_congr
  intro n hn
  rw [partE_less (by omega)]

/-- A row keeps a worth that it has. -/
theorem worthR_same {p : Int} {q r m : Nat} {T : Nat → Ent} (h : (cutE p q T m).worth = (T m).worth) : worthR r (partE p q T m) = worthR r (partE p q T (m + 1)) := by
  rw [worthR, worthR, partE_step]
  apply rowOf_congr
  intro n _
  dsimp only
  by_cases e : n = m
  · subst e
    rw [if_pos rfl, partE_not (Nat.le_refl _), h]
  · rw [if_neg e]

/-- Two rows are handed over. -/
def RetWC (r : Nat) (T : Nat → Ent) (w : World) (e : Ending) (w' : World) : Prop :=
  ∃ g1 g2, e = .returned (.tuple #[.slice (some ⟨g1, 0, none⟩) (r + 1) (r + 1), .slice (some ⟨g2, 0, none⟩) (r + 1) (r + 1)]) ∧ Arr w' g1 3 (worthR r T) ∧ Arr w' g2 3 (countR r T) ∧ Below w.heap.size w w'

/-- What a step looks at. -/
theorem cut_cases {p : Int} {q m : Nat} {T : Nat → Ent} {a b c d : Int} (h0 : 1 ≤ q) (h : q ≤ m) (ha : (cutE p q T (m - q)).worth = a) (hb : (T m).worth = b) (hc : (cutE p q T (m - q)).count = c) (hd : (T m).count = d) :
    (a < 0 → (cutE p q T m).worth = b ∧ (cutE p q T m).count = d) ∧ (¬ a < 0 → b < a + p → (cutE p q T m).worth = a + p ∧ (cutE p q T m).count = c) ∧
    (¬ a < 0 → ¬ b < a + p → a + p = b → (cutE p q T m).worth = b ∧ (cutE p q T m).count = d + c) ∧ (¬ a < 0 → ¬ b < a + p → ¬ a + p = b → (cutE p q T m).worth = b ∧ (cutE p q T m).count = d) := by
  rw [cutE_at (by omega) h]
  unfold combE
  rw [ha, hb]
  refine ⟨fun h1 => ?_, fun h1 h2 => ?_, fun h1 h2 h3 => ?_, fun h1 h2 h3 => ?_⟩
  · rw [if_pos h1]; exact ⟨hb, hd⟩
  · rw [if_neg h1, if_pos h2]; exact ⟨rfl, hc⟩
  · rw [if_neg h1, if_neg h2, if_pos h3.symm]; exact ⟨rfl, by simp only; rw [hc, hd]⟩
  · rw [if_neg h1, if_neg h2, if_neg (fun e => h3 e.symm)]; exact ⟨hb, hd⟩

/-- A count stays as well. -/
theorem countR_same {p : Int} {q r m : Nat} {T : Nat → Ent} (h : (cutE p q T m).count = (T m).count) : countR r (partE p q T m) = countR r (partE p q T (m + 1)) := by
  rw [countR, countR, partE_step]
  apply rowOf_congr
  intro n _
  dsimp only
  by_cases e : n = m
  · subst e
    rw [if_pos rfl, partE_not (Nat.le_refl _), h]
  · rw [if_neg e]

set_option maxRecDepth 100000 in
set_option maxHeartbeats 2000000 in
theorem rdWorth_any (A : Option Addr) (n c : Nat) (ps : List Int) (r q : Nat) (lo hi : Nat) (w : World) (hn : ps.length = n) (hn60 : n ≤ 60) (hs : Seg w lo hi A ps) (hB : hi ≤ w.heap.size) (hp : ∀ (k : Nat) u, ps[k]? = some u → 0 ≤ u ∧ u ≤ 1000) (hr : r ≤ 60) (hq : 1 ≤ q) (hqn : q ≤ n + 1) :
    Calls Try.prog 74 #[.slice A n c, .int .i64 (r : Int), .int .i64 (q : Int)] w (RetWC r (fromE ps q) w) := by
  have hmk := fun W : World => (show (Instr.makeSlice 22 (.int .i64 ((r : Int) + 1)) (.int .i64 ((r : Int) + 1))).run Try.prog W = .ok (.slice (some ⟨W.heap.size, 0, none⟩) (r + 1) (r + 1)) (W.alloc (.cells (madeCells #[.int .i64 0] (r + 1)) 3)) from
    run_make_row' 22 3 (.int .i64 0) 8 Try.underlying22 int_info rfl .i64 .i64 (r + 1) (by omega) (by omega) W)
  have HN := Lib.hid hn
  have HP := Lib.hid hp
  have HA := Lib.hid (show Arr ((w.alloc (.cells (madeCells #[.int .i64 0] (r + 1)) 3)).alloc (.cells (madeCells #[.int .i64 0] (r + 1)) 3)) w.heap.size 3 (rowOf r (initW 1)) by
    rw [← initW_zero]; exact (arr_new w 3 (r + 1)).alloc _)
  have HC := Lib.hid (show Arr ((w.alloc (.cells (madeCells #[.int .i64 0] (r + 1)) 3)).alloc (.cells (madeCells #[.int .i64 0] (r + 1)) 3)) (w.heap.size + 1) 3 (rowOf r (fun _ => 0)) by
    have h := arr_new (w.alloc (.cells (madeCells #[.int .i64 0] (r + 1)) 3)) 3 (r + 1)
    rw [World.size_alloc] at h
    rw [← zeros_row]; exact h)
  have HB := Lib.hid (((Below.refl w.heap.size w).alloc (Nat.le_refl _) (.cells (madeCells #[.int .i64 0] (r + 1)) 3)).alloc (by simp) (.cells (madeCells #[.int .i64 0] (r + 1)) 3))
  clear hn hp
  go_enter Try.func74, Try.ntmps74
  go_wp2
  clear hmk
  go_loopw [10] (fun i wr => ∃ k : Nat, 1 ≤ k ∧ k ≤ r + 1 ∧ i = .int .i64 k ∧ Below w.heap.size w wr ∧ Arr wr w.heap.size 3 (rowOf r (initW k)) ∧ Arr wr (w.heap.size + 1) 3 (rowOf r (fun _ => 0))) (fun i _ => r + 1 - (intOf i).toNat)
  case atStart => exact ⟨1, Nat.le_refl _, by omega, rfl, HB.out, HA.out, HC.out⟩
  case round =>
    obtain ⟨k, hk1, hk, rfl, hb, harr, hcnt⟩ := hrel
    by_cases hlt : k ≤ r
    · have hck := harr.cell (rowOf_get (f := initW k) hlt)
      have hfk := harr.frozen k
      have HST := Lib.hid (initW_step r k hk1)
      have HAR := Lib.hid harr
      have HCN := Lib.hid hcnt
      clear harr hcnt
      go_wp2
      go_roundw
      case rel => exact ⟨k + 1, by omega, by omega, by go_num, hb.setCell (Nat.le_refl _) _, by rw [← HST.out]; exact HAR.out.set k _, HCN.out.far (by simp) _⟩
      case measure => simp [intOf]; omega
    · obtain rfl : k = r + 1 := by omega
      have hrd : decide ((r : Int) + 1 ≤ (r : Int)) = false := by rw [decide_eq_false_iff_not]; omega
      have hc0 := hcnt.cell (rowOf_get (f := fun _ => 0) (Nat.zero_le r))
      have hf0 := hcnt.frozen 0
      have HAR := Lib.hid ((harr.far (p := ⟨w.heap.size + 1, 0, none⟩) (by simp) (.int .i64 1)))
      have HCN := Lib.hid (hcnt.set 0 1)
      have HBB := Lib.hid (hb.setCell (p := ⟨w.heap.size + 1, 0, none⟩) (by simp) (.int .i64 1))
      clear harr hcnt
      go_wp2
      try rw [hrd]
      clear hc0 hf0 hb hrd
      go_loopw [11, 13] (fun i _ wr => ∃ k : Nat, q ≤ k + 1 ∧ k ≤ n ∧ i = .int .i64 k ∧ Below w.heap.size w wr ∧ Arr wr w.heap.size 3 (worthR r (fromE ps (k + 1))) ∧ Arr wr (w.heap.size + 1) 3 (countR r (fromE ps (k + 1)))) (fun i _ _ => (intOf i).toNat)
      case atStart =>
        refine ⟨n, hqn, Nat.le_refl _, rfl, HBB.out, ?_, ?_⟩
        · have h := HAR.out
          rw [initW_last ps, HN.out] at h
          exact h
        · have h := HCN.out
          rw [count_first ps, HN.out] at h
          exact h
      case round =>
        obtain ⟨k, hk1, hk, rfl, hb, harr, hcnt⟩ := hrel
        by_cases hlt : q ≤ k
        · obtain ⟨j, rfl⟩ : ∃ j, k = j + 1 := ⟨k - 1, by omega⟩
          obtain ⟨bp, op, p, rfl, _, hbp, hx, hcx⟩ := hs.at_ (k := j) (by rw [HN.out]; omega)
          have hpb := HP.out j p hx
          have hT0 : fromE ps (j + 1) = cutE p (j + 1) (fromE ps (j + 1 + 1)) := by
            rw [fromE_step (by omega) (by rw [HN.out]; omega)]
            have e : ps.getD (j + 1 - 1) 0 = p := by simp [List.getD, hx]
            rw [e]
          have hG0 : ∀ i, GoodE (j + 1 + 1) i (fromE ps (j + 1 + 1) i) := fun i => by
            have h := GoodE.tab HP.out (ps.length + 1 - (j + 1 + 1)) (by omega) i
            have e : ps.length + 1 - (ps.length + 1 - (j + 1 + 1)) = j + 1 + 1 := by have := HN.out; omega
            rw [e] at h
            exact h
          obtain ⟨T, hT⟩ : ∃ T, fromE ps (j + 1 + 1) = T := ⟨_, rfl⟩
          rw [hT] at hT0 hG0 harr hcnt
          have HG := Lib.hid (fun i => GoodE.cut (p := p) (q := j + 1) hpb (by omega) hG0 i)
          have HT := Lib.hid hT0
          have HG0 := Lib.hid hG0
          rw [← partE_first p (j + 1) T] at harr hcnt
          clear hT hT0 hG0 hx
          have hqd : decide ((q : Int) ≤ (j : Int) + 1) = true := by rw [decide_eq_true_iff]; omega
          go_wp2
          try rw [hqd]
          go_loopw [12, 13] (fun i _ wr => ∃ m : Nat, j + 1 ≤ m ∧ (m ≤ r + 1 ∨ m = j + 1) ∧ i = .int .i64 m ∧ Below w.heap.size w wr ∧ Arr wr w.heap.size 3 (worthR r (partE p (j + 1) T m)) ∧ Arr wr (w.heap.size + 1) 3 (countR r (partE p (j + 1) T m))) (fun i _ _ => r + 1 - (intOf i).toNat)
          case atStart => exact ⟨j + 1, Nat.le_refl _, .inr rfl, rfl, hb, harr, hcnt⟩
          clear hb harr hcnt
          case round =>
            obtain ⟨m, hm1, hm2, rfl, hb, harr, hcnt⟩ := hrel
            by_cases hm : m ≤ r
            · obtain ⟨d, rfl⟩ : ∃ d, m = j + 1 + d := ⟨m - (j + 1), by omega⟩
              have hcp := (hb.cell (p := ⟨bp, op + j, none⟩) (by exact Nat.lt_of_lt_of_le hbp hB)).trans hcx
              have hwa := harr.cell (worthR_get (k := d) (T := partE p (j + 1) T (j + 1 + d)) (by omega))
              have hca := hcnt.cell (countR_get (k := d) (T := partE p (j + 1) T (j + 1 + d)) (by omega))
              have hwb := harr.cell (worthR_get (k := j + 1 + d) (T := partE p (j + 1) T (j + 1 + d)) hm)
              have hcb := hcnt.cell (countR_get (k := j + 1 + d) (T := partE p (j + 1) T (j + 1 + d)) hm)
              rw [partE_less (by omega)] at hwa hca
              rw [partE_not (Nat.le_refl _)] at hwb hcb
              have hga := HG.out d
              have hgb := HG0.out (j + 1 + d)
              have hgs := (HG.out (j + 1 + d)).2
              have hcm := cb_max (q := j + 1) (n := j + 1 + d) (by omega) (by omega)
              obtain ⟨a, ha⟩ : ∃ a, (cutE p (j + 1) T d).worth = a := ⟨_, rfl⟩
              obtain ⟨ca, hca'⟩ : ∃ ca, (cutE p (j + 1) T d).count = ca := ⟨_, rfl⟩
              obtain ⟨b, hb'⟩ : ∃ b, (T (j + 1 + d)).worth = b := ⟨_, rfl⟩
              obtain ⟨cb', hcb'⟩ : ∃ cb', (T (j + 1 + d)).count = cb' := ⟨_, rfl⟩
              have hcs := cut_cases (p := p) (q := j + 1) (m := j + 1 + d) (T := T) (a := a) (b := b) (c := ca) (d := cb') (by omega) (by omega) (by rw [Nat.add_sub_cancel_left]; exact ha) hb' (by rw [Nat.add_sub_cancel_left]; exact hca') hcb'
              have hab : -1 ≤ a ∧ a ≤ 60000 ∧ -1 ≤ b ∧ b ≤ 60000 ∧ 0 ≤ ca ∧ 0 ≤ cb' := by
                have g1 := hga.1
                have g2 := hgb.1
                rw [ha, hca'] at g1
                rw [hb', hcb'] at g2
                omega
              obtain ⟨hab1, hab2, hab3, hab4, hab5, hab6⟩ := hab
              have hga2 : ca ≤ 1152921504606846976 := by
                have g1 := hga.2
                rw [hca'] at g1
                have := cb_max (q := j + 1) (n := d) (by omega) (by omega)
                omega
              rw [ha] at hwa
              rw [hb'] at hwb
              rw [hca'] at hca
              rw [hcb'] at hcb
              have hfw := harr.frozen (j + 1 + d)
              have hfc := hcnt.frozen (j + 1 + d)
              have HAR := Lib.hid harr
              have HCN := Lib.hid hcnt
              have HSA := Lib.hid (worthR_set p (j + 1) r (j + 1 + d) T)
              have HSC := Lib.hid (countR_set p (j + 1) r (j + 1 + d) T)
              have HSW := Lib.hid (fun h => worthR_same (p := p) (q := j + 1) (r := r) (m := j + 1 + d) (T := T) h)
              have HSX := Lib.hid (fun h => countR_same (p := p) (q := j + 1) (r := r) (m := j + 1 + d) (T := T) h)
              have HE := Lib.hid (And.intro hb' hcb')
              have hne : w.heap.size ≠ w.heap.size + 1 := by omega
              clear harr hcnt ha hca' hb' hcb' hga hgb hcm
              by_cases c1 : a < 0
              · obtain ⟨e1, e2⟩ := hcs.1 c1
                have HE1 := Lib.hid e1
                have HE2 := Lib.hid e2
                clear hcs e1 e2 hgs
                go_wp2
                go_roundw
                case rel => exact ⟨j + 1 + d + 1, by omega, by omega, by go_num, hb, by rw [← HSW.out (HE1.out.trans HE.out.1.symm)]; exact HAR.out, by rw [← HSX.out (HE2.out.trans HE.out.2.symm)]; exact HCN.out⟩
                case measure => simp [intOf]; omega
              · by_cases c2 : b < a + p
                · obtain ⟨e1, e2⟩ := hcs.2.1 c1 c2
                  have HE1 := Lib.hid e1
                  have HE2 := Lib.hid e2
                  clear hcs e1 e2 hgs
                  go_wp2
                  go_quiet (fail)
                  go_wp2
                  go_roundw
                  case rel => ((repeat apply Exists.intro); refine ⟨?_, rfl⟩; exact ⟨j + 1 + d + 1, by omega, by omega, by go_num, (Below.setCell (below_drewN hb _) (Nat.le_refl _) _).setCell (by simp) _, by rw [← HSA.out, HE1.out]; exact ((HAR.out.keep rfl).set _ _).far (by simp) _, by rw [← HSC.out, HE2.out]; exact ((HCN.out.keep rfl).far (by simp) _).set _ _⟩)
                  case measure => simp [intOf]; omega
                · by_cases c3 : a + p = b
                  · obtain ⟨e1, e2⟩ := hcs.2.2.1 c1 c2 c3
                    have hsum : cb' + ca ≤ 1152921504606846976 := by
                      rw [e2] at hgs
                      have := cb_max (q := j + 1) (n := j + 1 + d) (by omega) (by omega)
                      omega
                    have HE1 := Lib.hid e1
                    have HE2 := Lib.hid e2
                    have c3' : (a + p == b) = true := by simpa using c3
                    have C3 := Lib.hid c3
                    clear hcs e1 e2 hgs c3
                    go_wp2
                    go_quiet (fail)
                    go_wp2
                    go_region
                    go_wp2
                    go_roundw
                    case rel => ((repeat apply Exists.intro); refine ⟨?_, rfl⟩; exact ⟨j + 1 + d + 1, by omega, by omega, by go_num, Below.setCell (below_drewN hb _) (by simp) _, by rw [← HSW.out (HE1.out.trans HE.out.1.symm)]; exact (HAR.out.keep rfl).far (by simp) _, by rw [← HSC.out, HE2.out]; exact (HCN.out.keep rfl).set _ _⟩)
                    case measure => simp [intOf]; omega
                  · obtain ⟨e1, e2⟩ := hcs.2.2.2 c1 c2 c3
                    have HE1 := Lib.hid e1
                    have HE2 := Lib.hid e2
                    have c3' : (a + p == b) = false := by simpa using c3
                    clear hcs e1 e2 hgs
                    go_wp2
                    go_quiet (fail)
                    go_wp2
                    go_roundw
                    case rel => ((repeat apply Exists.intro); refine ⟨?_, rfl⟩; exact ⟨j + 1 + d + 1, by omega, by omega, by go_num, below_drewN hb _, by rw [← HSW.out (HE1.out.trans HE.out.1.symm)]; exact HAR.out.keep rfl, by rw [← HSX.out (HE2.out.trans HE.out.2.symm)]; exact HCN.out.keep rfl⟩)
                    case measure => simp [intOf]; omega
            · rw [worthR_done (by omega), ← HT.out] at harr
              rw [countR_done (by omega), ← HT.out] at hcnt
              go_wp2
              go_roundw
              case rel => exact ⟨j, by omega, by omega, by go_num, hb, harr, hcnt⟩
              case measure => (simp [intOf] <;> omega)
        · obtain rfl : q = k + 1 := by omega
          go_wp2
          go_ret2
          exact ⟨_, _, rfl, harr, hcnt, hb⟩

theorem rdWorth_one (A : Option Addr) (n c : Nat) (ps : List Int) (r : Nat) (lo hi : Nat) (w : World) (hn : ps.length = n) (hn60 : n ≤ 60) (hs : Seg w lo hi A ps) (hB : hi ≤ w.heap.size) (hp : ∀ (k : Nat) u, ps[k]? = some u → 0 ≤ u ∧ u ≤ 1000) (hr : r ≤ 60) :
    Calls Try.prog 74 #[.slice A n c, .int .i64 (r : Int), .int .i64 1] w (RetWC r (fromE ps 1) w) :=
  rdWorth_any A n c ps r 1 lo hi w hn hn60 hs hB hp hr (by omega) (by omega)

/-- What is known where prices and a rod are asked for. -/
theorem cutB_at {ps : List Int} {n : Nat} {rod : Int} (hn : ps.length = n) (h : cutB ps rod = true) : ∃ r : Nat, rod = (r : Int) ∧ n ≤ 60 ∧ 1 ≤ r ∧ r ≤ 60 ∧ ∀ (k : Nat) u, ps[k]? = some u → 0 ≤ u ∧ u ≤ 1000 := by
  simp only [cutB, Bool.and_eq_true] at h
  have h2 := inB_true.1 h.2
  have h1 := someB_at h.1
  have h3 := h.1
  simp only [someB, Bool.and_eq_true] at h3
  have h4 := inB_true.1 h3.1
  exact ⟨rod.toNat, by omega, by omega, by omega, by omega, h1⟩

theorem cutB_parts {ps : List Int} {rod : Int} {q : Bool} (h : cutB ps rod = q) : (q = true ∧ someB 60 1000 ps = true ∧ inB rod 1 60 = true) ∨ (q = false ∧ someB 60 1000 ps = false) ∨ (q = false ∧ someB 60 1000 ps = true ∧ inB rod 1 60 = false) := by
  subst h
  unfold cutB
  cases someB 60 1000 ps <;> cases inB rod 1 60 <;> simp

theorem some_one {ps : List Int} {n : Nat} (hn : ps.length = n) (h : someB 60 1000 ps = true) : 1 ≤ n := by
  simp only [someB, Bool.and_eq_true] at h
  have := inB_true.1 h.1
  omega
end Go.Proofs.Ythlhpddfifpkeaa
